/-
  The texts Pk10e, Pk10f. Conditions: as each theorem states.
-/
import Derived.Test.YtnfhpecllidgoaaGreatDoorK00
import Derived.Test.YtnfhpecllidgoaaGreatDoorK11
import Derived.Test.YtnfhpecllidgoaaGreatDoorK14
set_option maxRecDepth 100000
set_option maxHeartbeats 16000000
namespace Go.Proofs.YtnfhpecllidgoaaGreatDoor
section
open Go.RowKit Ver Evr Span Dep Rich
theorem ξdT {α :Type} (f: α →Bool) (l:List α):(!(l.any fun x=> !(f x)))=l.all f:=by
 rw[List.all_eq_not_any_not]
theorem ξlO (g:Nat) (bs:Array Value) (eg:∀ args w,(callFunc g args).run Tryz.prog w=.ok (.enter g args) w) (nm:ByteArray) (o:Nat) (n:Int) (v r:ByteArray) (c:Bool) (q:Nat) (w:World) (hQ:Box w q 142 #[.func (.func g) #[] bs])
  (hN:∀ W,Kept ω w W→Calls Tryz.prog g (#[.agg #[.string nm,.int .u8 (o:Int),.int .i64 n,.string v,.string r]]++bs) W fun e w'=>e=.returned (.bool c)∧Kept ω W w'):
  Calls Tryz.prog 174 #[.agg #[.string nm,.int .u8 (o:Int),.int .i64 n,.string v,.string r],.pointer (some ⟨q,0,none⟩)] w fun e w'=>e=.returned (.bool (!c))∧Kept ω w w':=by
 have HA:=ψ (Box.after_alloc hQ (.cells #[.string nm,.int .u8 (o:Int),.int .i64 n,.string v,.string r] 57));clear hQ;have HB:=ψ (Box.made w 57 #[.string nm,.int .u8 (o:Int),.int .i64 n,.string v,.string r]);have HK:=ψ ((Kept.refl ω w).alloc (.cells #[.string nm,.int .u8 (o:Int),.int .i64 n,.string v,.string r] 57));have HN:=ψ (hN _ HK.out);clear hN;obtain ⟨bx0,bx1,bx2,bx3,bx4⟩:=HB.out.c5;have ax0:=HA.out.cell 0
 go_enter Tryz.func174,Tryz.ntmps174
 go_wp2_with (first
  |(go_at_fn g;refine HN.out.mono ?_;rintro x w2 ⟨rfl,hk2⟩)
  |fail)
 go_ret;exact ⟨rfl,HK.out.trans hk2 (fun _ _ h=>h)⟩
theorem ξhS (g:Nat) (bs:Array Value) (eg:∀ args w,(callFunc g args).run Tryz.prog w=.ok (.enter g args) w) (f:De→Bool) (l:List De) (va:Value) (w:World) (hl:l.length<140737488355328) (hS:DesS w va l) (hF:AnsF g bs f l w):
  Calls Tryz.prog 141 #[va,.int .i64 32,.func (.func g) #[] bs] w fun e w'=>e=.returned (.bool (decide (l.length≤32)&&l.all f))∧Kept ω w w':=by
 have HB:=ψ (Box.made w 142 #[.func (.func g) #[] bs]);have HK:=ψ ((Kept.refl ω w).alloc (.cells #[.func (.func g) #[] bs] 142));have HS:=ψ (hS.kept HK.out);have HF:=ψ (AnsF.kept hF HK.out);obtain ⟨ao,cp,rfl,_⟩:=hS;clear hF
 by_cases h:l.length≤32
 · have hI:(l.length:Int)≤32:=by omega
   have hd:decide (l.length≤32)=true:=decide_eq_true h;have HR:=ψ (show (decide (l.length≤32)&&l.all f)= !(l.any fun x=> !(f x)) by rw[hd,Bool.true_and,ξdT]);have CC:=ψ (ξbI 174 #[.pointer (some ⟨w.heap.size,0,none⟩)] (fun _ _=>by kernel_rfl) (fun x=> !(f x)) l _ _ hl HS.out (fun e he W hW=>ξlO g bs eg e.nm e.o e.n e.v e.r (f e) _ W (hW.box HB.out (fun h=>h)) (fun W2 hW2=>HF.out e he W2 (hW.trans hW2 (fun _ _ h=>h)))));clear HF HS h hd
   go_enter Tryz.func141,Tryz.ntmps141
   go_wp2_with (first
    |(go_at_call 148;refine CC.out.mono ?_;rintro x w2 ⟨rfl,hk2⟩)
    |fail)
   go_ret;exact ⟨by rw[HR.out];rfl,HK.out.trans hk2 (fun _ _ h=>h)⟩
 · have hI:¬ (l.length:Int)≤32:=by omega
   have HR:=ψ (show (decide (l.length≤32)&&l.all f)=false by rw[decide_eq_false h,Bool.false_and]);clear HF HS h
   go_enter Tryz.func141,Tryz.ntmps141
   go_wp2_with fail
   go_ret;exact ⟨by rw[HR.out];rfl,HK.out⟩
def AnsR (g:Nat) (bs:Array Value) (f:R→Bool) (l:List R) (w:World):Prop:=∀ x∈l,∀ W,Kept ω w W→∀ v,RichS W x v→Calls Tryz.prog g (#[v]++bs) W fun e W'=>e=.returned (.bool (f x))∧Kept ω W W'
theorem AnsR.kept {g:Nat} {bs:Array Value} {f:R→Bool} {l:List R} {w w':World} (h:AnsR g bs f l w) (hk:Kept ω w w'):AnsR g bs f l w':=fun e he W hW=>h e he W (hk.trans hW (fun _ _ h=>h))
theorem ξf6 (g:Nat) (bs:Array Value) (eg:∀ args w,(callFunc g args).run Tryz.prog w=.ok (.enter g args) w) (f:R→Bool) (l:List R) (va:Value) (w:World) (hl:l.length<140737488355328) (hS:RisS w va l) (hF:AnsR g bs f l w):
  Calls Tryz.prog 216 #[va,.func (.func g) #[] bs] w fun x w'=>(∃ k:Int,x=.returned (.int .i64 k)∧decide (0≤k)=l.any f)∧Kept ω w w':=by
 obtain ⟨ao,cp,rfl,hc⟩:=hS;have HS:=ψ hc;have HF:=ψ hF;clear hc hF
 go_enter Tryz.func216,Tryz.ntmps216
 go_wp2_with fail
 go_loopw [8] (fun v8 wr=>∃ i:Nat,v8=.int .i64 (i:Int)∧i≤l.length∧Hid ((l.take i).any f=false)∧Hid (Kept ω w wr)) (fun v8 _=>l.length - (intOf v8).toNat)
 case atStart=>exact ⟨0,rfl,Nat.zero_le _,ψ rfl,ψ (Kept.refl _ _)⟩
 case round=>
  obtain ⟨i,rfl,hi,HN,HK⟩:=hrel;rename World=>wr
  by_cases hlt:i<l.length
  · obtain ⟨x,he⟩:∃ x,l[i]? =some x:=⟨_,List.getElem?_eq_getElem hlt⟩;obtain ⟨b,off,ao',cp',rfl,hb,hrx,d0,d1,d2,d3,d4,d5,d6⟩:=(ArgS.kept HK.out ao 0 l HS.out).part he;have hl':=HF.out x (List.mem_of_getElem? he) wr HK.out _ hrx;have HT:=ψ (ξc5 f l i x he HN.out);have HM:=ψ (List.mem_of_getElem? he);have hi0:(0:Int)≤(i:Int):=by omega
    have hiI:(i:Int)<(l.length:Int):=by omega
    clear he hb HS HF hrx
    cases hfe:f x with
    |true=>
     rw[hfe] at hl';have HFE:=ψ hfe;clear hfe
     go_wp2_with (first
      |(go_at_fn g;refine hl'.mono ?_;rintro x w2 ⟨rfl,hk2⟩)
      |fail)
     go_ret;exact ⟨⟨(i:Int),rfl,by rw[List.any_eq_true.2 ⟨_,HM.out,HFE.out⟩];simp⟩,HK.out.trans hk2 (fun _ _ h=>h)⟩
    |false=>
     rw[hfe] at hl';have HFE:=ψ hfe;clear hfe
     go_wp2_with (first
      |(go_at_fn g;refine hl'.mono ?_;rintro x w2 ⟨rfl,hk2⟩)
      |fail)
     go_roundw
     case rel=>exact ⟨i+1,by go_num,by omega,ψ (HT.out.trans HFE.out),ψ (HK.out.trans hk2 (fun _ _ h=>h))⟩
     case measure=>simp[intOf];omega
  · obtain rfl:i=l.length:=by omega
    clear hlt hi
    go_wp2_with fail
    go_ret;exact ⟨⟨-1,rfl,by rw[← List.take_length (l:=l),HN.out];rfl⟩,HK.out⟩
theorem ξeH (g:Nat) (bs:Array Value) (eg:∀ args w,(callFunc g args).run Tryz.prog w=.ok (.enter g args) w) (f:R→Bool) (l:List R) (va:Value) (w:World) (hl:l.length<140737488355328) (hS:RisS w va l) (hF:AnsR g bs f l w):
  Calls Tryz.prog 202 #[va,.func (.func g) #[] bs] w fun e w'=>e=.returned (.bool (l.any f))∧Kept ω w w':=by
 have IC:=ψ (ξf6 g bs eg f l va w hl hS hF);obtain ⟨ao,cp,rfl,_⟩:=hS;clear hF eg
 go_enter Tryz.func202,Tryz.ntmps202
 go_wp2_with (first
  |(go_at_call 216;refine IC.out.mono ?_;rintro x w2 ⟨⟨k,rfl,hk⟩,hk2⟩;have HKE:=ψ hk;clear hk)
  |fail)
 go_ret;exact ⟨by rw[← HKE.out];rfl,hk2⟩
theorem ξlY (g:Nat) (bs:Array Value) (eg:∀ args w,(callFunc g args).run Tryz.prog w=.ok (.enter g args) w) (k:Nat) (d:D) (sl:Value) (c:Bool) (q:Nat) (w:World) (hQ:Box w q 208 #[.func (.func g) #[] bs])
  (hN:∀ W,Kept ω w W→Calls Tryz.prog g (#[ξaU k d sl]++bs) W fun e w'=>e=.returned (.bool c)∧Kept ω W w'):
  Calls Tryz.prog 203 #[ξaU k d sl,.pointer (some ⟨q,0,none⟩)] w fun e w'=>e=.returned (.bool (!c))∧Kept ω w w':=by
 have HA:=ψ (Box.after_alloc hQ (.cells (ξz k d sl) 148));clear hQ;have HB:=ψ (Box.made w 148 (ξz k d sl));have HK:=ψ ((Kept.refl ω w).alloc (.cells (ξz k d sl) 148));have HN:=ψ (hN _ HK.out);clear hN;obtain ⟨bx0,bx1,bx2,bx3,bx4,bx5,bx6⟩:=HB.out.c7;have ax0:=HA.out.cell 0
 go_enter Tryz.func203,Tryz.ntmps203
 go_wp2_with (first
  |(go_at_fn g;refine HN.out.mono ?_;rintro x w2 ⟨rfl,hk2⟩)
  |fail)
 go_ret;exact ⟨rfl,HK.out.trans hk2 (fun _ _ h=>h)⟩
theorem ξku (g:Nat) (bs:Array Value) (eg:∀ args w,(callFunc g args).run Tryz.prog w=.ok (.enter g args) w) (x:R) (v:Value) (c:Bool) (q:Nat) (w:World) (hv:RichS w x v) (hQ:Box w q 208 #[.func (.func g) #[] bs])
  (hN:∀ W,Kept ω w W→Calls Tryz.prog g (#[v]++bs) W fun e w'=>e=.returned (.bool c)∧Kept ω W w'):
  Calls Tryz.prog 203 #[v,.pointer (some ⟨q,0,none⟩)] w fun e w'=>e=.returned (.bool (!c))∧Kept ω w w':=by
 obtain ⟨k,d,l⟩:=x;rw[RichS] at hv;obtain ⟨ao,cp,rfl,_⟩:=hv;exact ξlY g bs eg k d _ c q w hQ hN
theorem ξhQ (g:Nat) (bs:Array Value) (eg:∀ args w,(callFunc g args).run Tryz.prog w=.ok (.enter g args) w) (f:R→Bool) (l:List R) (va:Value) (w:World) (hl:l.length<140737488355328) (hS:RisS w va l) (hF:AnsR g bs f l w):
  Calls Tryz.prog 176 #[va,.int .i64 32,.func (.func g) #[] bs] w fun e w'=>e=.returned (.bool (decide (l.length≤32)&&l.all f))∧Kept ω w w':=by
 have HB:=ψ (Box.made w 208 #[.func (.func g) #[] bs]);have HK:=ψ ((Kept.refl ω w).alloc (.cells #[.func (.func g) #[] bs] 208));have HS:=ψ (hS.kept HK.out);have HF:=ψ (AnsR.kept hF HK.out);obtain ⟨ao,cp,rfl,_⟩:=hS;clear hF
 by_cases h:l.length≤32
 · have hI:(l.length:Int)≤32:=by omega
   have hd:decide (l.length≤32)=true:=decide_eq_true h;have HR:=ψ (show (decide (l.length≤32)&&l.all f)= !(l.any fun x=> !(f x)) by rw[hd,Bool.true_and,ξdT]);have CC:=ψ (ξeH 203 #[.pointer (some ⟨w.heap.size,0,none⟩)] (fun _ _=>by kernel_rfl) (fun x=> !(f x)) l _ _ hl HS.out (fun x hx W hW v hv=>ξku g bs eg x v (f x) _ W hv (hW.box HB.out (fun h=>h)) (fun W2 hW2=>HF.out x hx W2 (hW.trans hW2 (fun _ _ h=>h)) v (RichS.kept hW2 _ _ hv))));clear HF HS h hd
   go_enter Tryz.func176,Tryz.ntmps176
   go_wp2_with (first
    |(go_at_call 202;refine CC.out.mono ?_;rintro x w2 ⟨rfl,hk2⟩)
    |fail)
   go_ret;exact ⟨by rw[HR.out];rfl,HK.out.trans hk2 (fun _ _ h=>h)⟩
 · have hI:¬ (l.length:Int)≤32:=by omega
   have HR:=ψ (show (decide (l.length≤32)&&l.all f)=false by rw[decide_eq_false h,Bool.false_and]);clear HF HS h
   go_enter Tryz.func176,Tryz.ntmps176
   go_wp2_with fail
   go_ret;exact ⟨by rw[HR.out];rfl,HK.out⟩
def AnsS (b:Nat) (J:Nat→World→Prop) (g:Nat) (bs:Array Value) (f:Nat→Bool) (l:List ByteArray) (w:World):Prop:=∀ (i:Nat) u,l[i]? =some u→∀ W,Kept (· =b) w W→J i W→Calls Tryz.prog g (#[.string u]++bs) W fun e W'=>e=.returned (.bool (f i))∧J (i+1) W'∧Kept (· =b) W W'
theorem ξl1 {f:Nat→Bool} {n i:Nat} (hi:i<n) (h:f i=true):(List.range n).any f=true:=List.any_eq_true.2 ⟨i,by simpa using hi,h⟩
theorem ξh2 {f:Nat→Bool} {n:Nat} (h:∀ i,i<n→f i=false):(List.range n).any f=false:=by
 rw[Bool.eq_false_iff];intro h2;obtain ⟨i,hi,hf⟩:=List.any_eq_true.1 h2;rw[h i (by simpa using hi)] at hf
 cases hf
theorem ξf1 (b:Nat) (J:Nat→World→Prop) (g:Nat) (bs:Array Value) (eg:∀ args w,(callFunc g args).run Tryz.prog w=.ok (.enter g args) w) (f:Nat→Bool) (l:List ByteArray) (va:Value) (w:World) (hl:l.length<140737488355328) (hS:StrS w va l) (hb:l.length≠0→∀ (a:Addr) n cp,va=.slice (some a) n cp→¬ a.block=b) (hJ:J 0 w) (hF:AnsS b J g bs f l w):
  Calls Tryz.prog 220 #[va,.func (.func g) #[] bs] w fun x w'=>(∃ k:Int,x=.returned (.int .i64 k)∧decide (0≤k)=(List.range l.length).any f)∧Kept (· =b) w w':=by
 have HS:=ψ hS;have HBB:=ψ hb;obtain ⟨ao,cp,rfl,_⟩:=hS;have HF:=ψ hF;have HJ:=ψ hJ;clear hF hJ hb
 go_enter Tryz.func220,Tryz.ntmps220
 go_wp2_with fail
 go_loopw [8] (fun v8 wr=>∃ i:Nat,v8=.int .i64 (i:Int)∧i≤l.length∧Hid (∀ k,k<i→f k=false)∧Hid (J i wr)∧Hid (Kept (· =b) w wr)) (fun v8 _=>l.length - (intOf v8).toNat)
 case atStart=>exact ⟨0,rfl,Nat.zero_le _,ψ (fun k hk=>absurd hk (by omega)),HJ,ψ (Kept.refl _ _)⟩
 case round=>
  obtain ⟨i,rfl,hi,HN,HJi,HK⟩:=hrel;rename World=>wr
  by_cases hlt:i<l.length
  · obtain ⟨u,he⟩:∃ u,l[i]? =some u:=⟨_,List.getElem?_eq_getElem hlt⟩;obtain ⟨ao2,cp2,hv,hc⟩:=HS.out.kept HK.out (HBB.out (by omega));injection hv with e1 e2 e3
    subst e1;subst e3;clear e2;obtain ⟨a,rfl,c0,hab⟩:=hc i u he;have hl':=HF.out i u he wr HK.out HJi.out;have hi0:(0:Int)≤(i:Int):=by omega
    have hiI:(i:Int)<(l.length:Int):=by omega
    clear he hc hab HS HF HBB HJi HJ
    cases hfe:f i with
    |true=>
     rw[hfe] at hl';have HR:=ψ (ξl1 (f:=f) hlt hfe);clear hfe
     go_wp2_with (first
      |(go_at_fn g;refine hl'.mono ?_;rintro x w2 ⟨rfl,_,hk2⟩)
      |fail)
     go_ret;exact ⟨⟨(i:Int),rfl,by rw[HR.out];simp⟩,HK.out.trans hk2 (fun _ _ h=>h)⟩
    |false=>
     rw[hfe] at hl';have HFE:=ψ hfe;clear hfe
     go_wp2_with (first
      |(go_at_fn g;refine hl'.mono ?_;rintro x w2 ⟨rfl,hj2,hk2⟩;have HJ2:=ψ hj2;clear hj2)
      |fail)
     go_roundw
     case rel=>exact ⟨i+1,by go_num,by omega,ψ (fun k hk=>if hki:k=i then by rw[hki];exact HFE.out else HN.out k (by omega)),HJ2,ψ (HK.out.trans hk2 (fun _ _ h=>h))⟩
     case measure=>simp[intOf];omega
  · obtain rfl:i=l.length:=by omega
    have HR:=ψ (ξh2 (f:=f) HN.out);clear hlt hi
    go_wp2_with fail
    go_ret;exact ⟨⟨-1,rfl,by rw[HR.out];rfl⟩,HK.out⟩
theorem ξeN (b:Nat) (J:Nat→World→Prop) (g:Nat) (bs:Array Value) (eg:∀ args w,(callFunc g args).run Tryz.prog w=.ok (.enter g args) w) (f:Nat→Bool) (l:List ByteArray) (va:Value) (w:World) (hl:l.length<140737488355328) (hS:StrS w va l) (hb:l.length≠0→∀ (a:Addr) n cp,va=.slice (some a) n cp→¬ a.block=b) (hJ:J 0 w) (hF:AnsS b J g bs f l w):
  Calls Tryz.prog 207 #[va,.func (.func g) #[] bs] w fun e w'=>e=.returned (.bool ((List.range l.length).any f))∧Kept (· =b) w w':=by
 have IC:=ψ (ξf1 b J g bs eg f l va w hl hS hb hJ hF);obtain ⟨ao,cp,rfl,_⟩:=hS;clear hF eg hb hJ
 go_enter Tryz.func207,Tryz.ntmps207
 go_wp2_with (first
  |(go_at_call 220;refine IC.out.mono ?_;rintro x w2 ⟨⟨k,rfl,hk⟩,hk2⟩;have HKE:=ψ hk;clear hk)
  |fail)
 go_ret;exact ⟨by rw[← HKE.out];rfl,hk2⟩
theorem ξk6 (b:Nat) (J:World→Prop) (g:Nat) (bs:Array Value) (eg:∀ args w,(callFunc g args).run Tryz.prog w=.ok (.enter g args) w) (u:ByteArray) (c:Bool) (q:Nat) (w:World) (hQ:Box w q 170 #[.func (.func g) #[] bs])
  (hN:Calls Tryz.prog g (#[.string u]++bs) w fun e w'=>e=.returned (.bool c)∧J w'∧Kept (· =b) w w'):
  Calls Tryz.prog 208 #[.string u,.pointer (some ⟨q,0,none⟩)] w fun e w'=>e=.returned (.bool (!c))∧J w'∧Kept (· =b) w w':=by
 have HN:=ψ hN;have ax0:=hQ.cell 0;clear hN hQ
 go_enter Tryz.func208,Tryz.ntmps208
 go_wp2_with (first
  |(go_at_fn g;refine HN.out.mono ?_;rintro x w2 ⟨rfl,hj2,hk2⟩;have HJ2:=ψ hj2;clear hj2)
  |fail)
 go_ret;exact ⟨rfl,HJ2.out,hk2⟩
theorem ξhN (b:Nat) (J:Nat→World→Prop) (g:Nat) (bs:Array Value) (eg:∀ args w,(callFunc g args).run Tryz.prog w=.ok (.enter g args) w) (f:Nat→Bool) (l:List ByteArray) (va:Value) (w:World) (hl:l.length<140737488355328) (hS:StrS w va l) (hb:l.length≠0→∀ (a:Addr) n cp,va=.slice (some a) n cp→¬ a.block=b) (hbw:b<w.heap.size)
  (hJ:J 0 w) (hJk:∀ i W W',Kept ω W W'→b<W.heap.size→J i W→J i W') (hF:AnsS b J g bs f l w):
  Calls Tryz.prog 179 #[va,.int .i64 32,.func (.func g) #[] bs] w fun e w'=>e=.returned (.bool (decide (l.length≤32)&& !((List.range l.length).any fun i=> !(f i))))∧Kept (· =b) w w':=by
 have HB:=ψ (Box.made w 170 #[.func (.func g) #[] bs]);have hK0:=(Kept.refl ω w).alloc (.cells #[.func (.func g) #[] bs] 170);have HK:=ψ (hK0.weaker (T:=(· =b)) (fun _ _ h=>h.elim));have HS:=ψ (hS.kept hK0 (fun _ _ _ _ h=>h));have HJ:=ψ (hJk 0 _ _ hK0 hbw hJ);have HBB:=ψ hb;have HF:=ψ hF;obtain ⟨ao,cp,rfl,_⟩:=hS;clear hF hJ hb hK0
 by_cases h:l.length≤32
 · have hI:(l.length:Int)≤32:=by omega
   have HR:=ψ (show (decide (l.length≤32)&& !((List.range l.length).any fun i=> !(f i)))= !((List.range l.length).any fun i=> !(f i)) by rw[decide_eq_true h,Bool.true_and])
   have CC:=ψ (ξeN b J 208 #[.pointer (some ⟨w.heap.size,0,none⟩)] (fun _ _=>by kernel_rfl) (fun i=> !(f i)) l _ _ hl HS.out HBB.out HJ.out
    (fun i u hu W hW hj=>ξk6 b (J (i+1)) g bs eg u (f i) _ W (hW.box HB.out (by omega)) (HF.out i u hu W (HK.out.trans hW (fun _ _ h=>h)) hj)))
   clear HF HS h HJ hJk HBB
   go_enter Tryz.func179,Tryz.ntmps179
   go_wp2_with (first
    |(go_at_call 207;refine CC.out.mono ?_;rintro x w2 ⟨rfl,hk2⟩)
    |fail)
   go_ret;exact ⟨by rw[HR.out];rfl,HK.out.trans hk2 (fun _ _ h=>h)⟩
 · have hI:¬ (l.length:Int)≤32:=by omega
   have HR:=ψ (show (decide (l.length≤32)&& !((List.range l.length).any fun i=> !(f i)))=false by rw[decide_eq_false h,Bool.false_and]);clear HF HS h HJ hJk HBB
   go_enter Tryz.func179,Tryz.ntmps179
   go_wp2_with fail
   go_ret;exact ⟨by rw[HR.out];rfl,HK.out⟩
def ξgr (p u:ByteArray):Bool:=Op.bytesLess p.toList u.toList&&ξcw u.data.toList
def nthF (l:List ByteArray) (i:Nat):ByteArray:=(⟨#[]⟩::l).getD i ⟨#[]⟩
def ξgd (l:List ByteArray):Bool:=decide (l.length≤32)&& !((List.range l.length).any fun i=> !(ξgr (nthF l i) (nthF l (i+1))))
theorem nthF_at {l:List ByteArray} {i:Nat} {u:ByteArray} (h:l[i]? =some u):nthF l (i+1)=u:=by
 unfold nthF;rw[List.getD_cons_succ,List.getD_eq_getElem?_getD,h]
 rfl
theorem ξl9 (x y:ByteArray) (w:World):Sem.run Tryz.prog (binOp BinOp.gtr 9 (Value.string x) (Value.string y)) w=.ok (.bool (Op.bytesLess y.toList x.toList)) w:=ξjy x y w
theorem NotW.other {S:Nat→Prop} {w w':World} (h:NotW w) (k:Kept S w w') (hs:¬ S 1):NotW w':=by
 have hlt:∀ i:Nat,(⟨1,i,none⟩:Addr).block<w.heap.size:=fun _=>h.old;exact ⟨Nat.lt_of_lt_of_le h.old k.size,(k.cell (hlt 0) hs).trans h.n0,(k.cell (hlt 1) hs).trans h.n1,(k.cell (hlt 2) hs).trans h.n2,(k.cell (hlt 3) hs).trans h.n3,(k.cell (hlt 4) hs).trans h.n4,(k.cell (hlt 5) hs).trans h.n5,(k.cell (hlt 6) hs).trans h.n6⟩
theorem ξg5 (p u:ByteArray) (q:Nat) (w:World) (hW:NotW w) (hqn:1≠q) (hQ:Box w q 9 #[.string p]):
  Calls Tryz.prog 180 #[.string u,.pointer (some ⟨q,0,none⟩)] w fun e w'=>e=.returned (.bool (ξgr p u))∧Box w' q 9 #[.string u]∧Kept (· =q) w w':=by
 have hg:=ξl9 u p;have ax0:=hQ.cell 0;have af0:=hQ.free 0;have HQ2:=ψ (show Box (w.setCell ⟨q,0,none⟩ (.string u)) q 9 #[.string u] from hQ.stored 0 (.string u));have HK2:=ψ ((Kept.refl (· =q) w).setCell (p:=⟨q,0,none⟩) (.inl rfl) (.string u));have NW:=hW.other (S:=(· =q)) HK2.out hqn;have FW:=ψ (ξez u _ NW);have HC:=ψ (fun (b:Bool) (h:Op.bytesLess p.toList u.toList=b)=>show ξgr p u=(b&&ξcw u.data.toList) by unfold ξgr;rw[h]);clear hQ NW hW hqn
 cases hb:Op.bytesLess p.toList u.toList with
 |true=>
  rw[hb] at hg;have HR:=ψ (HC.out true hb);clear hb
  go_enter Tryz.func180,Tryz.ntmps180
  go_wp2_with (first
   |(go_at_call 138;refine FW.out.mono ?_;rintro x w2 ⟨rfl,hk2⟩)
   |fail)
  go_ret;exact ⟨by rw[HR.out];rfl,hk2.box HQ2.out (fun h=>h),HK2.out.trans hk2 (fun _ _ h=>h.elim)⟩
 |false=>
  rw[hb] at hg;have HR:=ψ (HC.out false hb);clear hb
  go_enter Tryz.func180,Tryz.ntmps180
  go_wp2_with fail
  go_ret;exact ⟨by rw[HR.out];rfl,HQ2.out,HK2.out⟩
theorem ξhF (l:List ByteArray) (va:Value) (w:World) (hW:NotW w) (hl:l.length<140737488355328) (hS:StrS w va l):
  Calls Tryz.prog 143 #[va] w fun e w'=>e=.returned (.bool (ξgd l))∧Kept ω w w':=by
 have HB:=ψ (show Box (w.alloc (.cells #[.string ⟨#[]⟩] 9)) w.heap.size 9 #[.string ⟨#[]⟩] from Box.made w 9 #[.string ⟨#[]⟩]);have hK:=(Kept.refl ω w).alloc (.cells #[.string ⟨#[]⟩] 9);have HK:=ψ hK
 have hbb:l.length≠0→∀ (a:Addr) n cp,va=.slice (some a) n cp→¬ a.block=w.heap.size:=by
  intro h0 a n cp h hab;obtain ⟨ao,cp',hv,hc⟩:=hS;rw[hv] at h;injection h with h1 _ _
  subst h1;obtain ⟨a',h1,_,h2⟩:=hc 0 _ (List.getElem?_eq_getElem (by omega));injection h1 with h1
  subst h1;omega
 have hA:AnsS w.heap.size (fun i W=>Box W w.heap.size 9 #[.string (nthF l i)]∧NotW W) 180 #[.pointer (some ⟨w.heap.size,0,none⟩)] (fun i=>ξgr (nthF l i) (nthF l (i+1))) l (w.alloc (.cells #[.string ⟨#[]⟩] 9)):=by
  intro i u hu W hk hj;obtain rfl:u=nthF l (i+1):=(nthF_at hu).symm;refine (ξg5 (nthF l i) (nthF l (i+1)) w.heap.size W hj.2 (by have:=hW.old;omega) hj.1).mono ?_;rintro e W' ⟨h1,h2,h3⟩;exact ⟨h1,⟨h2,hj.2.other h3 (by have:=hW.old;omega)⟩,h3⟩
 have CC:=ψ (ξhN w.heap.size _ 180 #[.pointer (some ⟨w.heap.size,0,none⟩)] (fun _ _=>by kernel_rfl) _ l va _ hl (hS.kept hK (fun _ _ _ _ h=>h)) hbb HB.out.lt ⟨HB.out,hW.kept hK⟩ (fun i W W' hk _ h=>⟨hk.box h.1 (fun h=>h),h.2.kept hk⟩) hA);have af0:=(Box.made w 9 #[.string ⟨#[]⟩]).free 0;obtain ⟨ao,cp,rfl,_⟩:=hS;clear hA hbb hK hW
 go_enter Tryz.func143,Tryz.ntmps143
 go_wp2_with (first
  |(go_at_call 179;refine CC.out.mono ?_;rintro x w2 ⟨rfl,hk2⟩)
  |fail)
 go_ret;exact ⟨rfl,HK.out.trans hk2 (fun i hi h=>absurd hi (by omega))⟩
end
section
open Go.RowKit Ver Evr Span Dep Rich Go.Shelf
attribute [local go_sem] Oper.semAt_some
abbrev It10:=List R×Value×Nat
def ξdD (p:It10):Array Value:=#[p.2.1,.int .u8 (p.2.2:Int)]
def it10 (rq cf rc sp sg en:List R) (s5 s6 s8 s9 s10 s11:Value):List It10:= [(rq,s5,1),(cf,s6,2),(rc,s8,1),(sp,s9,3),(sg,s10,1),(en,s11,3)]
theorem lists_in (n':Nat) (nm:ByteArray) (n:Int) (v r:ByteArray) (a:Nat) (vd:ByteArray) (s4 s7 s12:Value) (a5:Option Addr) (n5 c5:Nat) (a6:Option Addr) (n6 c6:Nat) (a8:Option Addr) (n8 c8:Nat) (a9:Option Addr) (n9 c9:Nat) (a10:Option Addr) (n10 c10:Nat) (a11:Option Addr) (n11 c11:Nat) (w:World):
  CallsIn Fence.wide n' Tryz.prog 175 #[.agg #[.string nm,.int .i64 n,.string v,.string r,.int .u8 (a:Int),.string vd,s4,.slice a5 n5 c5,.slice a6 n6 c6,s7,.slice a8 n8 c8,.slice a9 n9 c9,.slice a10 n10 c10,.slice a11 n11 c11,s12]] w fun e w'=>e=.returned (.func (.func 201) #[] #[.pointer (some ⟨w.heap.size+1,0,none⟩)])∧w'=(w.alloc (.cells #[.string nm,.int .i64 n,.string v,.string r,.int .u8 (a:Int),.string vd,s4,.slice a5 n5 c5,.slice a6 n6 c6,s7,.slice a8 n8 c8,.slice a9 n9 c9,.slice a10 n10 c10,.slice a11 n11 c11,s12] 49)).alloc (.cells #[.slice a5 n5 c5,.int .u8 1,.slice a6 n6 c6,.int .u8 2,.slice a8 n8 c8,.int .u8 1,.slice a9 n9 c9,.int .u8 3,.slice a10 n10 c10,.int .u8 1,.slice a11 n11 c11,.int .u8 3] 231):=by
 have hB:=Box.made w 49 #[.string nm,.int .i64 n,.string v,.string r,.int .u8 (a:Int),.string vd,s4,.slice a5 n5 c5,.slice a6 n6 c6,s7,.slice a8 n8 c8,.slice a9 n9 c9,.slice a10 n10 c10,.slice a11 n11 c11,s12];obtain ⟨bx0,bx1,bx2,bx3,bx4,bx5,bx6,bx7,bx8,bx9,bx10,bx11,bx12,bx13,bx14⟩:=hB.c15;clear hB;refine callsIn_of_wp Tryz.func175 rfl trivial ?_ rfl;simp only[Tryz.ntmps175,List.size_toArray,List.length_cons,List.length_nil,Nat.reduceAdd,Nat.reduceSub,Array.replicate_succ,Array.replicate_zero,List.push_toArray,List.append_toArray,List.nil_append,List.cons_append]
 gi_wp2
 go_ret;exact ⟨rfl,rfl⟩
abbrev Itm (L:List It10):= { p:It10 // p∈L }
theorem ξiU (n' Bn:Nat) (M:World→Nat→Prop) (rq cf rc sp sg en:List R) (a5:Option Addr) (n5 c5:Nat) (a6:Option Addr) (n6 c6:Nat) (a8:Option Addr) (n8 c8:Nat) (a9:Option Addr) (n9 c9:Nat) (a10:Option Addr) (n10 c10:Nat) (a11:Option Addr) (n11 c11:Nat) (w:World) (hB:Box w Bn 231 #[.slice a5 n5 c5,.int .u8 1,.slice a6 n6 c6,.int .u8 2,.slice a8 n8 c8,.int .u8 1,.slice a9 n9 c9,.int .u8 3,.slice a10 n10 c10,.int .u8 1,.slice a11 n11 c11,.int .u8 3]):
  SeqStopsK Fence.wide n' Tryz.prog 201 #[.pointer (some ⟨Bn,0,none⟩)] (fun p:Itm (it10 rq cf rc sp sg en (.slice a5 n5 c5) (.slice a6 n6 c6) (.slice a8 n8 c8) (.slice a9 n9 c9) (.slice a10 n10 c10) (.slice a11 n11 c11))=>ξdD p.1) (KpM M) (fun ys=>ys.map Subtype.val=(it10 rq cf rc sp sg en (.slice a5 n5 c5) (.slice a6 n6 c6) (.slice a8 n8 c8) (.slice a9 n9 c9) (.slice a10 n10 c10) (.slice a11 n11 c11))) (fun pre=>pre.map Subtype.val <+: (it10 rq cf rc sp sg en (.slice a5 n5 c5) (.slice a6 n6 c6) (.slice a8 n8 c8) (.slice a9 n9 c9) (.slice a10 n10 c10) (.slice a11 n11 c11))) 6 w:=by
 intro l J Jx W hW hJ _ hY h0;obtain ⟨e0,he0⟩:∃ e:Itm (it10 rq cf rc sp sg en (.slice a5 n5 c5) (.slice a6 n6 c6) (.slice a8 n8 c8) (.slice a9 n9 c9) (.slice a10 n10 c10) (.slice a11 n11 c11)),e=⟨(rq,.slice a5 n5 c5,1),by simp[it10]⟩:=⟨_,rfl⟩;obtain ⟨e1,he1⟩:∃ e:Itm (it10 rq cf rc sp sg en (.slice a5 n5 c5) (.slice a6 n6 c6) (.slice a8 n8 c8) (.slice a9 n9 c9) (.slice a10 n10 c10) (.slice a11 n11 c11)),e=⟨(cf,.slice a6 n6 c6,2),by simp[it10]⟩:=⟨_,rfl⟩;obtain ⟨e2,he2⟩:∃ e:Itm (it10 rq cf rc sp sg en (.slice a5 n5 c5) (.slice a6 n6 c6) (.slice a8 n8 c8) (.slice a9 n9 c9) (.slice a10 n10 c10) (.slice a11 n11 c11)),e=⟨(rc,.slice a8 n8 c8,1),by simp[it10]⟩:=⟨_,rfl⟩;obtain ⟨e3,he3⟩:∃ e:Itm (it10 rq cf rc sp sg en (.slice a5 n5 c5) (.slice a6 n6 c6) (.slice a8 n8 c8) (.slice a9 n9 c9) (.slice a10 n10 c10) (.slice a11 n11 c11)),e=⟨(sp,.slice a9 n9 c9,3),by simp[it10]⟩:=⟨_,rfl⟩;obtain ⟨e4,he4⟩:∃ e:Itm (it10 rq cf rc sp sg en (.slice a5 n5 c5) (.slice a6 n6 c6) (.slice a8 n8 c8) (.slice a9 n9 c9) (.slice a10 n10 c10) (.slice a11 n11 c11)),e=⟨(sg,.slice a10 n10 c10,1),by simp[it10]⟩:=⟨_,rfl⟩;obtain ⟨e5,he5⟩:∃ e:Itm (it10 rq cf rc sp sg en (.slice a5 n5 c5) (.slice a6 n6 c6) (.slice a8 n8 c8) (.slice a9 n9 c9) (.slice a10 n10 c10) (.slice a11 n11 c11)),e=⟨(en,.slice a11 n11 c11,3),by simp[it10]⟩:=⟨_,rfl⟩;have HFull:=ψ (show [e0,e1,e2,e3,e4,e5].map Subtype.val=(it10 rq cf rc sp sg en (.slice a5 n5 c5) (.slice a6 n6 c6) (.slice a8 n8 c8) (.slice a9 n9 c9) (.slice a10 n10 c10) (.slice a11 n11 c11)) by rw[he0,he1,he2,he3,he4,he5];rfl);have hBW:=(hW.block Bn hB.lt).trans hB;have HE0:=ψ (show ξdD e0.1=#[.slice a5 n5 c5,.int .u8 1] by rw[he0];rfl);have HE1:=ψ (show ξdD e1.1=#[.slice a6 n6 c6,.int .u8 2] by rw[he1];rfl);have HE2:=ψ (show ξdD e2.1=#[.slice a8 n8 c8,.int .u8 1] by rw[he2];rfl);have HE3:=ψ (show ξdD e3.1=#[.slice a9 n9 c9,.int .u8 3] by rw[he3];rfl);have HE4:=ψ (show ξdD e4.1=#[.slice a10 n10 c10,.int .u8 1] by rw[he4];rfl);have HE5:=ψ (show ξdD e5.1=#[.slice a11 n11 c11,.int .u8 3] by rw[he5];rfl);clear he0 he1 he2 he3 he4 he5;have HJ:=ψ hJ;have HY:=ψ hY;have H0:=ψ h0;have k_0:=Box.cell hBW 0;have k_1:=Box.cell hBW 1;have k_2:=Box.cell hBW 2;have k_3:=Box.cell hBW 3;have k_4:=Box.cell hBW 4;have k_5:=Box.cell hBW 5;have k_6:=Box.cell hBW 6;have k_7:=Box.cell hBW 7;have k_8:=Box.cell hBW 8;have k_9:=Box.cell hBW 9;have k_10:=Box.cell hBW 10;have k_11:=Box.cell hBW 11;clear hBW hJ hY h0;refine callsIn_of_wp Tryz.func201 rfl trivial ?_ rfl;simp only[Tryz.ntmps201,List.size_toArray,List.length_cons,List.length_nil,Nat.reduceAdd,Nat.reduceSub,Array.replicate_succ,Array.replicate_zero,List.push_toArray,List.append_toArray,List.nil_append,List.cons_append]
 gi_wp2
 gi_loopw [6] (fun v6 wr=>∃ i:Nat,v6=.int .i64 (i:Int)∧i≤6∧Hid (J ([e0,e1,e2,e3,e4,e5].take i) wr)) (fun v6 _=>6 - (intOf v6).toNat)
 case atStart=>exact ⟨0,rfl,by omega,H0⟩
 case round=>
  obtain ⟨i,rfl,hi,HJi⟩:=hrel;rename World=>wr;have hi7:i=0∨i=1∨i=2∨i=3∨i=4∨i=5∨i=6:=by omega
  rcases hi7 with rfl|rfl|rfl|rfl|rfl|rfl|rfl
  · have hkB:Kept ω wr (wr.alloc (.cells #[.slice a5 n5 c5,.int .u8 1] 230)):=(Kept.refl _ wr).alloc _;have hJB:=ξbp HJ.out (show J [] wr from HJi.out) hkB;obtain ⟨fn,tmps,assign,body,hy,hR⟩:=ξbj (b:=n' - 1) (HY.out [] e0 _ hJB (by simp));rw[HE0.out] at hy;have hBB:=Box.made wr 230 #[.slice a5 n5 c5,.int .u8 1];obtain ⟨b0,b1⟩:=hBB.c2;clear hBB hJB hkB hi;have hI:=fun W:World=>(by kernel_rfl:(Instr.index 231 (.agg #[.slice a5 n5 c5,.int .u8 1,.slice a6 n6 c6,.int .u8 2,.slice a8 n8 c8,.int .u8 1,.slice a9 n9 c9,.int .u8 3,.slice a10 n10 c10,.int .u8 1,.slice a11 n11 c11,.int .u8 3]) (.int .i64 0)).run Tryz.prog W=.ok (.agg #[.slice a5 n5 c5,.int .u8 1]) W)
    gi_wp2
    refine ⟨fun h=>absurd h (by decide),hR.mono ?_⟩;rintro e W3 (⟨rfl,hJ3,hk3⟩|⟨rfl,hJx3⟩)
    · have HJ3:=ψ (show J ([e0,e1,e2,e3,e4,e5].take 1) W3 from hJ3);clear hJ3 hk3 hy hR
      gi_wp2
      go_roundw
      case rel=>exact ⟨1,rfl,by omega,HJ3⟩
      case measure=>simp[intOf]
    · have HJx:=ψ (show Jx [e0] W3 from hJx3);clear hJx3 hy hR
      gi_wp2
      refine bodyPost_ret (results_none rfl _ _ _) rfl ?_;exact ⟨⟨_,rfl⟩,.inr ⟨[e0],⟨[e1,e2,e3,e4,e5].map Subtype.val,HFull.out⟩,HJx.out⟩⟩
  · have hkB:Kept ω wr (wr.alloc (.cells #[.slice a6 n6 c6,.int .u8 2] 230)):=(Kept.refl _ wr).alloc _;have hJB:=ξbp HJ.out (show J [e0] wr from HJi.out) hkB;obtain ⟨fn,tmps,assign,body,hy,hR⟩:=ξbj (b:=n' - 1) (HY.out [e0] e1 _ hJB (by simp));rw[HE1.out] at hy;have hBB:=Box.made wr 230 #[.slice a6 n6 c6,.int .u8 2];obtain ⟨b0,b1⟩:=hBB.c2;clear hBB hJB hkB hi;have hI:=fun W:World=>(by kernel_rfl:(Instr.index 231 (.agg #[.slice a5 n5 c5,.int .u8 1,.slice a6 n6 c6,.int .u8 2,.slice a8 n8 c8,.int .u8 1,.slice a9 n9 c9,.int .u8 3,.slice a10 n10 c10,.int .u8 1,.slice a11 n11 c11,.int .u8 3]) (.int .i64 1)).run Tryz.prog W=.ok (.agg #[.slice a6 n6 c6,.int .u8 2]) W)
    gi_wp2
    refine ⟨fun h=>absurd h (by decide),hR.mono ?_⟩;rintro e W3 (⟨rfl,hJ3,hk3⟩|⟨rfl,hJx3⟩)
    · have HJ3:=ψ (show J ([e0,e1,e2,e3,e4,e5].take 2) W3 from hJ3);clear hJ3 hk3 hy hR
      gi_wp2
      go_roundw
      case rel=>exact ⟨2,rfl,by omega,HJ3⟩
      case measure=>simp[intOf]
    · have HJx:=ψ (show Jx [e0,e1] W3 from hJx3);clear hJx3 hy hR
      gi_wp2
      refine bodyPost_ret (results_none rfl _ _ _) rfl ?_;exact ⟨⟨_,rfl⟩,.inr ⟨[e0,e1],⟨[e2,e3,e4,e5].map Subtype.val,HFull.out⟩,HJx.out⟩⟩
  · have hkB:Kept ω wr (wr.alloc (.cells #[.slice a8 n8 c8,.int .u8 1] 230)):=(Kept.refl _ wr).alloc _;have hJB:=ξbp HJ.out (show J [e0,e1] wr from HJi.out) hkB;obtain ⟨fn,tmps,assign,body,hy,hR⟩:=ξbj (b:=n' - 1) (HY.out [e0,e1] e2 _ hJB (by simp));rw[HE2.out] at hy;have hBB:=Box.made wr 230 #[.slice a8 n8 c8,.int .u8 1];obtain ⟨b0,b1⟩:=hBB.c2;clear hBB hJB hkB hi;have hI:=fun W:World=>(by kernel_rfl:(Instr.index 231 (.agg #[.slice a5 n5 c5,.int .u8 1,.slice a6 n6 c6,.int .u8 2,.slice a8 n8 c8,.int .u8 1,.slice a9 n9 c9,.int .u8 3,.slice a10 n10 c10,.int .u8 1,.slice a11 n11 c11,.int .u8 3]) (.int .i64 2)).run Tryz.prog W=.ok (.agg #[.slice a8 n8 c8,.int .u8 1]) W)
    gi_wp2
    refine ⟨fun h=>absurd h (by decide),hR.mono ?_⟩;rintro e W3 (⟨rfl,hJ3,hk3⟩|⟨rfl,hJx3⟩)
    · have HJ3:=ψ (show J ([e0,e1,e2,e3,e4,e5].take 3) W3 from hJ3);clear hJ3 hk3 hy hR
      gi_wp2
      go_roundw
      case rel=>exact ⟨3,rfl,by omega,HJ3⟩
      case measure=>simp[intOf]
    · have HJx:=ψ (show Jx [e0,e1,e2] W3 from hJx3);clear hJx3 hy hR
      gi_wp2
      refine bodyPost_ret (results_none rfl _ _ _) rfl ?_;exact ⟨⟨_,rfl⟩,.inr ⟨[e0,e1,e2],⟨[e3,e4,e5].map Subtype.val,HFull.out⟩,HJx.out⟩⟩
  · have hkB:Kept ω wr (wr.alloc (.cells #[.slice a9 n9 c9,.int .u8 3] 230)):=(Kept.refl _ wr).alloc _;have hJB:=ξbp HJ.out (show J [e0,e1,e2] wr from HJi.out) hkB;obtain ⟨fn,tmps,assign,body,hy,hR⟩:=ξbj (b:=n' - 1) (HY.out [e0,e1,e2] e3 _ hJB (by simp));rw[HE3.out] at hy;have hBB:=Box.made wr 230 #[.slice a9 n9 c9,.int .u8 3];obtain ⟨b0,b1⟩:=hBB.c2;clear hBB hJB hkB hi;have hI:=fun W:World=>(by kernel_rfl:(Instr.index 231 (.agg #[.slice a5 n5 c5,.int .u8 1,.slice a6 n6 c6,.int .u8 2,.slice a8 n8 c8,.int .u8 1,.slice a9 n9 c9,.int .u8 3,.slice a10 n10 c10,.int .u8 1,.slice a11 n11 c11,.int .u8 3]) (.int .i64 3)).run Tryz.prog W=.ok (.agg #[.slice a9 n9 c9,.int .u8 3]) W)
    gi_wp2
    refine ⟨fun h=>absurd h (by decide),hR.mono ?_⟩;rintro e W3 (⟨rfl,hJ3,hk3⟩|⟨rfl,hJx3⟩)
    · have HJ3:=ψ (show J ([e0,e1,e2,e3,e4,e5].take 4) W3 from hJ3);clear hJ3 hk3 hy hR
      gi_wp2
      go_roundw
      case rel=>exact ⟨4,rfl,by omega,HJ3⟩
      case measure=>simp[intOf]
    · have HJx:=ψ (show Jx [e0,e1,e2,e3] W3 from hJx3);clear hJx3 hy hR
      gi_wp2
      refine bodyPost_ret (results_none rfl _ _ _) rfl ?_;exact ⟨⟨_,rfl⟩,.inr ⟨[e0,e1,e2,e3],⟨[e4,e5].map Subtype.val,HFull.out⟩,HJx.out⟩⟩
  · have hkB:Kept ω wr (wr.alloc (.cells #[.slice a10 n10 c10,.int .u8 1] 230)):=(Kept.refl _ wr).alloc _;have hJB:=ξbp HJ.out (show J [e0,e1,e2,e3] wr from HJi.out) hkB;obtain ⟨fn,tmps,assign,body,hy,hR⟩:=ξbj (b:=n' - 1) (HY.out [e0,e1,e2,e3] e4 _ hJB (by simp));rw[HE4.out] at hy;have hBB:=Box.made wr 230 #[.slice a10 n10 c10,.int .u8 1];obtain ⟨b0,b1⟩:=hBB.c2;clear hBB hJB hkB hi;have hI:=fun W:World=>(by kernel_rfl:(Instr.index 231 (.agg #[.slice a5 n5 c5,.int .u8 1,.slice a6 n6 c6,.int .u8 2,.slice a8 n8 c8,.int .u8 1,.slice a9 n9 c9,.int .u8 3,.slice a10 n10 c10,.int .u8 1,.slice a11 n11 c11,.int .u8 3]) (.int .i64 4)).run Tryz.prog W=.ok (.agg #[.slice a10 n10 c10,.int .u8 1]) W)
    gi_wp2
    refine ⟨fun h=>absurd h (by decide),hR.mono ?_⟩;rintro e W3 (⟨rfl,hJ3,hk3⟩|⟨rfl,hJx3⟩)
    · have HJ3:=ψ (show J ([e0,e1,e2,e3,e4,e5].take 5) W3 from hJ3);clear hJ3 hk3 hy hR
      gi_wp2
      go_roundw
      case rel=>exact ⟨5,rfl,by omega,HJ3⟩
      case measure=>simp[intOf]
    · have HJx:=ψ (show Jx [e0,e1,e2,e3,e4] W3 from hJx3);clear hJx3 hy hR
      gi_wp2
      refine bodyPost_ret (results_none rfl _ _ _) rfl ?_;exact ⟨⟨_,rfl⟩,.inr ⟨[e0,e1,e2,e3,e4],⟨[e5].map Subtype.val,HFull.out⟩,HJx.out⟩⟩
  · have hkB:Kept ω wr (wr.alloc (.cells #[.slice a11 n11 c11,.int .u8 3] 230)):=(Kept.refl _ wr).alloc _;have hJB:=ξbp HJ.out (show J [e0,e1,e2,e3,e4] wr from HJi.out) hkB;obtain ⟨fn,tmps,assign,body,hy,hR⟩:=ξbj (b:=n' - 1) (HY.out [e0,e1,e2,e3,e4] e5 _ hJB (by simp));rw[HE5.out] at hy;have hBB:=Box.made wr 230 #[.slice a11 n11 c11,.int .u8 3];obtain ⟨b0,b1⟩:=hBB.c2;clear hBB hJB hkB hi;have hI:=fun W:World=>(by kernel_rfl:(Instr.index 231 (.agg #[.slice a5 n5 c5,.int .u8 1,.slice a6 n6 c6,.int .u8 2,.slice a8 n8 c8,.int .u8 1,.slice a9 n9 c9,.int .u8 3,.slice a10 n10 c10,.int .u8 1,.slice a11 n11 c11,.int .u8 3]) (.int .i64 5)).run Tryz.prog W=.ok (.agg #[.slice a11 n11 c11,.int .u8 3]) W)
    gi_wp2
    refine ⟨fun h=>absurd h (by decide),hR.mono ?_⟩;rintro e W3 (⟨rfl,hJ3,hk3⟩|⟨rfl,hJx3⟩)
    · have HJ3:=ψ (show J ([e0,e1,e2,e3,e4,e5].take 6) W3 from hJ3);clear hJ3 hk3 hy hR
      gi_wp2
      go_roundw
      case rel=>exact ⟨6,rfl,by omega,HJ3⟩
      case measure=>simp[intOf]
    · have HJx:=ψ (show Jx [e0,e1,e2,e3,e4,e5] W3 from hJx3);clear hJx3 hy hR
      gi_wp2
      refine bodyPost_ret (results_none rfl _ _ _) rfl ?_;exact ⟨⟨_,rfl⟩,.inr ⟨[e0,e1,e2,e3,e4,e5],⟨[].map Subtype.val,HFull.out⟩,HJx.out⟩⟩
  · clear hi
    gi_wp2
    go_end0
    exact ⟨⟨_,rfl⟩,.inl ⟨[e0,e1,e2,e3,e4,e5],HFull.out,HJi.out⟩⟩
theorem ξhx (x:R) (k:Nat) (d:D) (sl:Value) (wh q:Nat) (w:World) (hQ:Box w q 5 #[.int .u8 (wh:Int)]) (hM:∀ W,Kept ω w W→Calls Tryz.prog 178 #[ξaU k d sl,.int .u8 (wh:Int)] W fun e w'=>e=.returned (.int .i64 (mayS x wh))∧Kept ω W w'):
  Calls Tryz.prog 177 #[ξaU k d sl,.pointer (some ⟨q,0,none⟩)] w fun e w'=>e=.returned (.bool (mayS x wh==0))∧Kept ω w w':=by
 have HA:=ψ (Box.after_alloc hQ (.cells (ξz k d sl) 148));have HB:=ψ (Box.made w 148 (ξz k d sl));have HK:=ψ ((Kept.refl ω w).alloc (.cells (ξz k d sl) 148));have MC:=ψ (hM _ HK.out);clear hQ hM;obtain ⟨bx0,bx1,bx2,bx3,bx4,bx5,bx6⟩:=HB.out.c7;have ax0:=HA.out.cell 0
 go_enter Tryz.func177,Tryz.ntmps177
 go_wp2_with (first
  |(go_at_call 178;refine MC.out.mono ?_;rintro e w2 ⟨rfl,hk2⟩)
  |fail)
 go_ret;exact ⟨rfl,HK.out.trans hk2 (fun _ _ h=>h)⟩
theorem ξhC (x:R) (v:Value) (wh q:Nat) (w:World) (hS:RichS w x v) (hc:ξai x) (hTB:TabW9 w) (hMB:MayP9 w) (hQ:Box w q 5 #[.int .u8 (wh:Int)]):
  Calls Tryz.prog 177 #[v,.pointer (some ⟨q,0,none⟩)] w fun e w'=>e=.returned (.bool (mayS x wh==0))∧Kept ω w w':=by
 have hS0:=hS;obtain ⟨k,d,l⟩:=x;rw[RichS] at hS;obtain ⟨ao,cp,rfl,_⟩:=hS;exact ξhx _ k d _ wh q w hQ fun W hW=>ξks _ _ wh W (RichS.kept hW _ _ hS0) hc (hTB.kept hW) (hMB.on hW)
def okL (l:List R) (wh:Nat):Bool:=decide (l.length≤32)&&l.all fun x=>mayS x wh==0
theorem okL_walk (l:List R) (va:Value) (wh q:Nat) (w:World) (hl:l.length<140737488355328) (hS:RisS w va l) (hc:∀ x∈l,ξai x) (hTB:TabW9 w) (hMB:MayP9 w) (hQ:Box w q 5 #[.int .u8 (wh:Int)]):
  Calls Tryz.prog 176 #[va,.int .i64 32,.func (.func 177) #[] #[.pointer (some ⟨q,0,none⟩)]] w fun e w'=>e=.returned (.bool (okL l wh))∧Kept ω w w':=
 ξhQ 177 #[.pointer (some ⟨q,0,none⟩)] (fun _ _=>by kernel_rfl) (fun x=>mayS x wh==0) l va w hl hS fun x hx W hW v hv=>
  ξhC x v wh q W hv (hc x hx) (hTB.kept hW) (hMB.on hW) (hW.box hQ (fun h=>h))
theorem ξdN (W:World) (g:Nat) (b:Bool) (tmps:Array Value) (h1:tmps[2]?.getD undef=.pointer (some ⟨g,0,none⟩)) (h2:W.cell? ⟨g,0,none⟩=some (.bool b)):
  (results Tryz.f142 tmps).run Tryz.prog W=.ok (.bool b) W:=by
 simp[results,Tryz.results142,go_sem,h1,h2]
theorem ξip (nm:ByteArray) (n:Int) (v r:ByteArray) (a:Nat) (vd:ByteArray) (s4 s7 s12:Value) (a5:Option Addr) (n5 c5:Nat) (a6:Option Addr) (n6 c6:Nat) (a8:Option Addr) (n8 c8:Nat) (a9:Option Addr) (n9 c9:Nat) (a10:Option Addr) (n10 c10:Nat) (a11:Option Addr) (n11 c11:Nat) (rq cf rc sp sg en:List R) (w:World) (hl:∀ p∈(it10 rq cf rc sp sg en (.slice a5 n5 c5) (.slice a6 n6 c6) (.slice a8 n8 c8) (.slice a9 n9 c9) (.slice a10 n10 c10) (.slice a11 n11 c11)),p.1.length<140737488355328∧(∃ ao nn cp,p.2.1=.slice ao nn cp)∧RisS w p.2.1 p.1∧∀ x∈p.1,ξai x) (hTB:TabW9 w) (hMB:MayP9 w):
  Calls Tryz.prog 142 #[.agg #[.string nm,.int .i64 n,.string v,.string r,.int .u8 (a:Int),.string vd,s4,.slice a5 n5 c5,.slice a6 n6 c6,s7,.slice a8 n8 c8,.slice a9 n9 c9,.slice a10 n10 c10,.slice a11 n11 c11,s12]] w fun e w'=>e=.returned (.bool ((it10 rq cf rc sp sg en (.slice a5 n5 c5) (.slice a6 n6 c6) (.slice a8 n8 c8) (.slice a9 n9 c9) (.slice a10 n10 c10) (.slice a11 n11 c11)).all fun p=>okL p.1 p.2.2))∧Kept ω w w':=by
 have HL:=ψ hl;have HTB:=ψ hTB;have HMB:=ψ hMB;have hBA:=(Box.after_alloc (Box.made w 49 #[.string nm,.int .i64 n,.string v,.string r,.int .u8 (a:Int),.string vd,s4,.slice a5 n5 c5,.slice a6 n6 c6,s7,.slice a8 n8 c8,.slice a9 n9 c9,.slice a10 n10 c10,.slice a11 n11 c11,s12]) (.cells #[.bool false] 4));obtain ⟨ax0,ax1,ax2,ax3,ax4,ax5,ax6,ax7,ax8,ax9,ax10,ax11,ax12,ax13,ax14⟩:=hBA.c15;have hkA:Kept ω w ((((w.alloc (.cells #[.string nm,.int .i64 n,.string v,.string r,.int .u8 (a:Int),.string vd,s4,.slice a5 n5 c5,.slice a6 n6 c6,s7,.slice a8 n8 c8,.slice a9 n9 c9,.slice a10 n10 c10,.slice a11 n11 c11,s12] 49)).alloc (.cells #[.bool false] 4)).alloc (.cells #[.string nm,.int .i64 n,.string v,.string r,.int .u8 (a:Int),.string vd,s4,.slice a5 n5 c5,.slice a6 n6 c6,s7,.slice a8 n8 c8,.slice a9 n9 c9,.slice a10 n10 c10,.slice a11 n11 c11,s12] 49)).alloc (.cells #[.slice a5 n5 c5,.int .u8 1,.slice a6 n6 c6,.int .u8 2,.slice a8 n8 c8,.int .u8 1,.slice a9 n9 c9,.int .u8 3,.slice a10 n10 c10,.int .u8 1,.slice a11 n11 c11,.int .u8 3] 231)):=((((Kept.refl ω w).alloc (.cells #[.string nm,.int .i64 n,.string v,.string r,.int .u8 (a:Int),.string vd,s4,.slice a5 n5 c5,.slice a6 n6 c6,s7,.slice a8 n8 c8,.slice a9 n9 c9,.slice a10 n10 c10,.slice a11 n11 c11,s12] 49)).alloc (.cells #[.bool false] 4)).alloc (.cells #[.string nm,.int .i64 n,.string v,.string r,.int .u8 (a:Int),.string vd,s4,.slice a5 n5 c5,.slice a6 n6 c6,s7,.slice a8 n8 c8,.slice a9 n9 c9,.slice a10 n10 c10,.slice a11 n11 c11,s12] 49)).alloc (.cells #[.slice a5 n5 c5,.int .u8 1,.slice a6 n6 c6,.int .u8 2,.slice a8 n8 c8,.int .u8 1,.slice a9 n9 c9,.int .u8 3,.slice a10 n10 c10,.int .u8 1,.slice a11 n11 c11,.int .u8 3] 231);have hQ:=(((Boxed.new (w.alloc (.cells #[.string nm,.int .i64 n,.string v,.string r,.int .u8 (a:Int),.string vd,s4,.slice a5 n5 c5,.slice a6 n6 c6,s7,.slice a8 n8 c8,.slice a9 n9 c9,.slice a10 n10 c10,.slice a11 n11 c11,s12] 49)) 4 (.bool false)).alloc (.cells #[.string nm,.int .i64 n,.string v,.string r,.int .u8 (a:Int),.string vd,s4,.slice a5 n5 c5,.slice a6 n6 c6,s7,.slice a8 n8 c8,.slice a9 n9 c9,.slice a10 n10 c10,.slice a11 n11 c11,s12] 49)).alloc (.cells #[.slice a5 n5 c5,.int .u8 1,.slice a6 n6 c6,.int .u8 2,.slice a8 n8 c8,.int .u8 1,.slice a9 n9 c9,.int .u8 3,.slice a10 n10 c10,.int .u8 1,.slice a11 n11 c11,.int .u8 3] 231));have hP:=Box.made (((w.alloc (.cells #[.string nm,.int .i64 n,.string v,.string r,.int .u8 (a:Int),.string vd,s4,.slice a5 n5 c5,.slice a6 n6 c6,s7,.slice a8 n8 c8,.slice a9 n9 c9,.slice a10 n10 c10,.slice a11 n11 c11,s12] 49)).alloc (.cells #[.bool false] 4)).alloc (.cells #[.string nm,.int .i64 n,.string v,.string r,.int .u8 (a:Int),.string vd,s4,.slice a5 n5 c5,.slice a6 n6 c6,s7,.slice a8 n8 c8,.slice a9 n9 c9,.slice a10 n10 c10,.slice a11 n11 c11,s12] 49)) 231 #[.slice a5 n5 c5,.int .u8 1,.slice a6 n6 c6,.int .u8 2,.slice a8 n8 c8,.int .u8 1,.slice a9 n9 c9,.int .u8 3,.slice a10 n10 c10,.int .u8 1,.slice a11 n11 c11,.int .u8 3];have hsz:((((w.alloc (.cells #[.string nm,.int .i64 n,.string v,.string r,.int .u8 (a:Int),.string vd,s4,.slice a5 n5 c5,.slice a6 n6 c6,s7,.slice a8 n8 c8,.slice a9 n9 c9,.slice a10 n10 c10,.slice a11 n11 c11,s12] 49)).alloc (.cells #[.bool false] 4)).alloc (.cells #[.string nm,.int .i64 n,.string v,.string r,.int .u8 (a:Int),.string vd,s4,.slice a5 n5 c5,.slice a6 n6 c6,s7,.slice a8 n8 c8,.slice a9 n9 c9,.slice a10 n10 c10,.slice a11 n11 c11,s12] 49)).alloc (.cells #[.slice a5 n5 c5,.int .u8 1,.slice a6 n6 c6,.int .u8 2,.slice a8 n8 c8,.int .u8 1,.slice a9 n9 c9,.int .u8 3,.slice a10 n10 c10,.int .u8 1,.slice a11 n11 c11,.int .u8 3] 231)).heap.size=w.heap.size+4:=by simp[World.size_alloc]
 simp only[World.size_alloc] at hQ hP;clear hBA hl hTB hMB;refine (callsIn_wide (n:=5)).1 ?_;refine callsIn_of_wp_marks Tryz.func142 rfl trivial ?_ rfl;simp only[Tryz.ntmps142,List.size_toArray,List.length_cons,List.length_nil,Nat.reduceAdd,Nat.reduceSub,Array.replicate_succ,Array.replicate_zero,List.push_toArray,List.append_toArray,List.nil_append,List.cons_append]
 gi_wp2_with (refine ⟨trivial,?_⟩;gi_at_call 175;refine (lists_in _ nm n v r a vd s4 s7 s12 a5 n5 c5 a6 n6 c6 a8 n8 c8 a9 n9 c9 a10 n10 c10 a11 n11 c11 _).mono ?_;rintro e w' ⟨rfl,rfl⟩)
 clear ax0 ax1 ax2 ax3 ax4 ax5 ax6 ax7 ax8 ax9 ax10 ax11 ax12 ax13 ax14;generalize ((((w.alloc (.cells #[.string nm,.int .i64 n,.string v,.string r,.int .u8 (a:Int),.string vd,s4,.slice a5 n5 c5,.slice a6 n6 c6,s7,.slice a8 n8 c8,.slice a9 n9 c9,.slice a10 n10 c10,.slice a11 n11 c11,s12] 49)).alloc (.cells #[.bool false] 4)).alloc (.cells #[.string nm,.int .i64 n,.string v,.string r,.int .u8 (a:Int),.string vd,s4,.slice a5 n5 c5,.slice a6 n6 c6,s7,.slice a8 n8 c8,.slice a9 n9 c9,.slice a10 n10 c10,.slice a11 n11 c11,s12] 49)).alloc (.cells #[.slice a5 n5 c5,.int .u8 1,.slice a6 n6 c6,.int .u8 2,.slice a8 n8 c8,.int .u8 1,.slice a9 n9 c9,.int .u8 3,.slice a10 n10 c10,.int .u8 1,.slice a11 n11 c11,.int .u8 3] 231))=wA at*
 refine wpIn_rangeFunc_ownH rfl (by omega) (gf:=201) (lb:=#[.pointer (some ⟨w.heap.size+1+1+1,0,none⟩)]) rfl trivial (enters_of Tryz.func201 (by kernel_rfl) rfl)
  (ξiU 4 (w.heap.size+1+1+1) (fun _ _=>False) rq cf rc sp sg en a5 n5 c5 a6 n6 c6 a8 n8 c8 a9 n9 c9 a10 n10 c10 a11 n11 c11 wA hP) KpM.trans (fun W l o o' hl h hc hw=>KpM.putObj (w:=wA) (ξaz 0 ω) (by omega) W l o o' hl h hc hw) (Below.refl _ _) (fun _=>rfl)
  (fun (pre:List (Itm (it10 rq cf rc sp sg en (.slice a5 n5 c5) (.slice a6 n6 c6) (.slice a8 n8 c8) (.slice a9 n9 c9) (.slice a10 n10 c10) (.slice a11 n11 c11)))) W=>Boxed W (w.heap.size+1) 4 (.bool false)∧Kept ω w W∧pre.all (fun p:Itm (it10 rq cf rc sp sg en (.slice a5 n5 c5) (.slice a6 n6 c6) (.slice a8 n8 c8) (.slice a9 n9 c9) (.slice a10 n10 c10) (.slice a11 n11 c11))=>okL p.1.1 p.1.2.2)=true)
  (fun c (pre:List (Itm (it10 rq cf rc sp sg en (.slice a5 n5 c5) (.slice a6 n6 c6) (.slice a8 n8 c8) (.slice a9 n9 c9) (.slice a10 n10 c10) (.slice a11 n11 c11)))) W=>Boxed W (w.heap.size+1) 4 (.bool false)∧Kept ω w W∧(c=.ret∧pre.all (fun p:Itm (it10 rq cf rc sp sg en (.slice a5 n5 c5) (.slice a6 n6 c6) (.slice a8 n8 c8) (.slice a9 n9 c9) (.slice a10 n10 c10) (.slice a11 n11 c11))=>okL p.1.1 p.1.2.2)=false))
  (OwnFrom.and (Own.from (boxed_own _ _ _) _) (OwnFrom.and (ξbx (by omega)) (ownFrom_pure _ _)))
  (fun c=>OwnFrom.and (Own.from (boxed_own _ _ _) _) (OwnFrom.and (ξbx (by omega)) (ownFrom_pure _ _)))
  ⟨hQ,hkA,rfl⟩
  (fun x a' W=>∃ Bx,w.heap.size+1<Bx∧Box W Bx 5 #[.int .u8 (x.1.2.2:Int)]∧a'= { tmps:=#[.agg #[.string nm,.int .i64 n,.string v,.string r,.int .u8 (a:Int),.string vd,s4,.slice a5 n5 c5,.slice a6 n6 c6,s7,.slice a8 n8 c8,.slice a9 n9 c9,.slice a10 n10 c10,.slice a11 n11 c11,s12],.pointer (some ⟨w.heap.size,0,none⟩),.pointer (some ⟨w.heap.size+1,0,none⟩),x.1.2.1,.pointer (some ⟨Bx,0,none⟩),.agg #[.string nm,.int .i64 n,.string v,.string r,.int .u8 (a:Int),.string vd,s4,.slice a5 n5 c5,.slice a6 n6 c6,s7,.slice a8 n8 c8,.slice a9 n9 c9,.slice a10 n10 c10,.slice a11 n11 c11,s12],.func (.func 201) #[] #[.pointer (some ⟨w.heap.size+1+1+1,0,none⟩)],x.1.2.1,.int .u8 (x.1.2.2:Int),undef,undef,undef,undef],defers:= [] })
  (fun x a' _ X Y row hs hg hr=>by obtain ⟨Bx,h1,h2,h3⟩:=hs;exact ⟨Bx,h1,ξgU _ Bx 5 (fun (_:Unit)=>#[.int .u8 (x.1.2.2:Int)]) () X Y row h2 hg hr,h3⟩)
  ?assign ?body ?done ?stop
 case assign=>
  rintro l pre x W K ⟨hR,hkW,hall⟩ hK;have hx2:=(HL.out x.1 x.2).2.1;obtain ⟨⟨lx,vx,wx⟩,hx⟩:=x;obtain ⟨ao,nn,cp,hv⟩:=hx2
  dsimp only at hv
  subst hv;simp only[ξdD];have hsW:=hkW.size;have hRl:=hR.lt
  gi_wp2
  exact hK _ _ ((KeepsOthers.alloc _ _).from _) (KpM.of_kept (ξaz 0 ω) (by omega) ((Kept.refl _ W).alloc _))
   ⟨hR.alloc _,hkW.alloc _,hall⟩ ⟨W.heap.size,by omega,Box.made _ _ _,rfl⟩
 case body=>
  rintro l pre x a' W hl ⟨r,hr⟩ ⟨hR,hkW,hall⟩ ⟨Bx,hBx,hX,rfl⟩ hlt;obtain ⟨hxl,hx2,hxs,hxc⟩:=HL.out x.1 x.2;obtain ⟨⟨lx,vx,wx⟩,hx⟩:=x;obtain ⟨ao,nn,cp,hv⟩:=hx2
  dsimp only at hv hxl hxs hxc hX
  subst hv;have CC:=okL_walk lx _ wx Bx W hxl (hxs.kept hkW) hxc (HTB.out.kept hkW) (HMB.out.on hkW) hX;have HKW:=ψ hkW;have HALL:=ψ hall;have HRR:=ψ hR;clear hkW hlt hall hxl hxs hxc hX hR
  cases hb:okL lx wx with
  |true=>
   have HB:=ψ hb;rw[hb] at CC;clear hb
   gi_wp2
   refine ⟨trivial,?_⟩
   gi_at_call 176
   refine (CallsIn.inRound l (callsIn_wide.2 CC)).mono ?_;rintro e w2 ⟨rfl,hk2⟩;have HD2:=ψ hk2;have HR2:=ψ (hk2.box (show Box W (w.heap.size+1) 4 #[.bool false] from HRR.out) (fun h=>h));clear hk2
   gi_wp2
   exact ⟨HD2.out.others.from _,KpM.of_kept (ξaz 0 ω) (Nat.zero_le _) HD2.out,HR2.out,HKW.out.trans HD2.out (fun _ _ h=>h),by rw[List.all_append,HALL.out];simp[HB.out]⟩
  |false=>
   have HB:=ψ hb;rw[hb] at CC;clear hb
   gi_wp2
   refine ⟨trivial,?_⟩
   gi_at_call 176
   refine (CallsIn.inRound l (callsIn_wide.2 CC)).mono ?_;rintro e w2 ⟨rfl,hk2⟩;have HD2:=ψ hk2;have HR2:=ψ (hk2.box (show Box W (w.heap.size+1) 4 #[.bool false] from HRR.out) (fun h=>h));have HK2:=ψ (HKW.out.trans hk2 (fun _ _ h=>h));have r0:=HR2.out.cell 0;have r1:=HR2.out.free 0;clear hk2
   gi_wp2
   refine ⟨(HD2.out.others.from _).trans ((KeepsOthers.setCell _ _ _).from _),?_,HK2.out.setCell (.inr (by show w.heap.size≤w.heap.size+1;omega)) _,rfl,by rw[List.all_append];simp[HB.out]⟩;exact (show Boxed _ (w.heap.size+1) 4 (.bool false) from HR2.out).set _
 case done=>
  rintro D ys W hD hys ⟨hR,hkW,hall⟩ hK;have hcr:=hR.cell;have hfr:=hR.frozen;have hgD:=fun X=>grownBy_putObj' X D (.deferred none);have b1:=hR.set (.bool true)
  gi_wp2
  refine ⟨by simp,.inl ⟨_,_,rfl,run_takeDeferred ?_,?_⟩⟩
  · exact (KeepsOthers.setCell W ⟨w.heap.size+1,0,none⟩ _).same D _ hK rfl
  · have c1:=(b1.kept (hgD _) (by intro e;cases e;omega)).cell;refine ⟨_,ξdN _ (w.heap.size+1) _ _ rfl c1,?_,(hkW.setCell (.inr (by show w.heap.size≤w.heap.size+1;omega)) _).grown (hgD _) (fun i hi=>by cases hi;exact .inr (by omega))⟩;rw[← hys,List.all_map];exact congrArg (fun b=>Ending.returned (Value.bool b)) hall.symm
 case stop=>
  rintro D c pre W hD hpre ⟨hR,hkW,rfl,hall⟩ hK
  gi_wp2
  refine ⟨by simp,.inl ⟨_,_,rfl,run_takeDeferred hK,?_⟩⟩;have hgD:=fun X=>grownBy_putObj' X D (.deferred none);have c1:=(hR.kept (hgD _) (by intro e;cases e;omega)).cell;refine ⟨_,ξdN _ (w.heap.size+1) _ _ rfl c1,?_,hkW.grown (hgD _) (fun i hi=>by cases hi;exact .inr (by omega))⟩;obtain ⟨zs,hz⟩:=hpre;rw[← hz,List.all_append,List.all_map,show (pre.all ((fun p:It10=>okL p.1 p.2.2) ∘ Subtype.val))=false from hall]
  rfl
def richB (p:Pk):Bool:=okL p.rq 1&&okL p.cf 2&&okL p.rc 1&&okL p.sp 3&&okL p.sg 1&&okL p.en 3
structure PkFew (p:Pk):Prop where
 rq:∀ x∈p.rq,count x≤40000
 cf:∀ x∈p.cf,count x≤40000
 rc:∀ x∈p.rc,count x≤40000
 sp:∀ x∈p.sp,count x≤40000
 sg:∀ x∈p.sg,count x≤40000
 en:∀ x∈p.en,count x≤40000
theorem ξhz (p:Pk) (s:Sl) (w:World) (hP:PkIn w p s) (hF:PkFits p) (hTB:TabW9 w) (hMB:MayP9 w):
  Calls Tryz.prog 142 #[.agg (pkA p s)] w fun e w'=>e=.returned (.bool (richB p))∧Kept ω w w':=by
 obtain ⟨nm,n,v,r,a,vd,pv,rq,cf,ob,rc,sp,sg,en,fi⟩:=p;obtain ⟨s4,s5,s6,s7,s8,s9,s10,s11,s12⟩:=s;have H5:=hP.rq;obtain ⟨a5,c5,e5,_⟩:=hP.rq;have H6:=hP.cf;obtain ⟨a6,c6,e6,_⟩:=hP.cf;have H8:=hP.rc;obtain ⟨a8,c8,e8,_⟩:=hP.rc;have H9:=hP.sp;obtain ⟨a9,c9,e9,_⟩:=hP.sp;have H10:=hP.sg;obtain ⟨a10,c10,e10,_⟩:=hP.sg;have H11:=hP.en;obtain ⟨a11,c11,e11,_⟩:=hP.en
 dsimp only at e5 H5 e6 H6 e8 H8 e9 H9 e10 H10 e11 H11
 subst e5;subst e6;subst e8;subst e9;subst e10;subst e11
 have:=ξip nm n v r a vd s4 s7 s12 a5 rq.length c5 a6 cf.length c6 a8 rc.length c8 a9 sp.length c9 a10 sg.length c10 a11 en.length c11 rq cf rc sp sg en w (by
  intro p hp;unfold it10 at hp;simp only[List.mem_cons,List.not_mem_nil,or_false] at hp;rcases hp with rfl|rfl|rfl|rfl|rfl|rfl
  · exact ⟨hF.rq.1,⟨_,_,_,rfl⟩,H5,ξaN hF.rq.2⟩
  · exact ⟨hF.cf.1,⟨_,_,_,rfl⟩,H6,ξaN hF.cf.2⟩
  · exact ⟨hF.rc.1,⟨_,_,_,rfl⟩,H8,ξaN hF.rc.2⟩
  · exact ⟨hF.sp.1,⟨_,_,_,rfl⟩,H9,ξaN hF.sp.2⟩
  · exact ⟨hF.sg.1,⟨_,_,_,rfl⟩,H10,ξaN hF.sg.2⟩
  · exact ⟨hF.en.1,⟨_,_,_,rfl⟩,H11,ξaN hF.en.2⟩
  ) hTB hMB
 refine this.mono fun e w' h=>⟨h.1.trans ?_,h.2⟩;unfold richB it10;simp only[List.all_cons,List.all_nil,Bool.and_true,Bool.and_assoc]
end
end Go.Proofs.YtnfhpecllidgoaaGreatDoor
