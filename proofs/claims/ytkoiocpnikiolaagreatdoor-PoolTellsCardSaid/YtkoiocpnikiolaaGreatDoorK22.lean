/-
  The texts Pk10e. Conditions: as each theorem states.
-/
import Derived.Test.YtkoiocpnikiolaaGreatDoorK18
import Derived.Test.YtkoiocpnikiolaaGreatDoorK15
set_option maxRecDepth 100000
set_option maxHeartbeats 16000000
namespace Go.Proofs.YtkoiocpnikiolaaGreatDoor
section
open Go.RowKit Ver Evr Span Dep Rich
theorem not_any {α :Type} (f: α →Bool) (l:List α):(!(l.any fun x=> !(f x)))=l.all f:=by
 rw[List.all_eq_not_any_not]
theorem mayListD1 (g:Nat) (bs:Array Value) (eg:∀ args w,(callFunc g args).run Tryz.prog w=.ok (.enter g args) w) (nm:ByteArray) (o:Nat) (n:Int) (v r:ByteArray) (c:Bool) (q:Nat) (w:World) (hQ:Box w q 133 #[.func (.func g) #[] bs])
  (hN:∀ W,Kept (fun _=>False) w W→Calls Tryz.prog g (#[.agg #[.string nm,.int .u8 (o:Int),.int .i64 n,.string v,.string r]]++bs) W fun e w'=>e=.returned (.bool c)∧Kept (fun _=>False) W w'):
  Calls Tryz.prog 154 #[.agg #[.string nm,.int .u8 (o:Int),.int .i64 n,.string v,.string r],.pointer (some ⟨q,0,none⟩)] w fun e w'=>e=.returned (.bool (!c))∧Kept (fun _=>False) w w':=by
 have HA:=Lib.hid (Box.after_alloc hQ (.cells #[.string nm,.int .u8 (o:Int),.int .i64 n,.string v,.string r] 56))
 clear hQ
 have HB:=Lib.hid (Box.made w 56 #[.string nm,.int .u8 (o:Int),.int .i64 n,.string v,.string r])
 have HK:=Lib.hid ((Kept.refl (fun _=>False) w).alloc (.cells #[.string nm,.int .u8 (o:Int),.int .i64 n,.string v,.string r] 56))
 have HN:=Lib.hid (hN _ HK.out)
 clear hN
 have bx0:=HB.out.cell 0
 have bx1:=HB.out.cell 1
 have bx2:=HB.out.cell 2
 have bx3:=HB.out.cell 3
 have bx4:=HB.out.cell 4
 have ax0:=HA.out.cell 0
 go_enter Tryz.func154,Tryz.ntmps154
 go_wp2_with (first
  |(go_at_fn g;refine HN.out.mono ?_;rintro x w2 ⟨rfl,hk2⟩)
  |fail)
 go_ret
 exact ⟨rfl,HK.out.trans hk2 (fun _ _ h=>h)⟩
theorem mayListD_walk (g:Nat) (bs:Array Value) (eg:∀ args w,(callFunc g args).run Tryz.prog w=.ok (.enter g args) w) (f:De→Bool) (l:List De) (va:Value) (w:World) (hl:l.length<140737488355328) (hS:DesS w va l) (hF:AnsF g bs f l w):
  Calls Tryz.prog 116 #[va,.int .i64 32,.func (.func g) #[] bs] w fun e w'=>e=.returned (.bool (decide (l.length≤32)&&l.all f))∧Kept (fun _=>False) w w':=by
 have HB:=Lib.hid (Box.made w 133 #[.func (.func g) #[] bs])
 have HK:=Lib.hid ((Kept.refl (fun _=>False) w).alloc (.cells #[.func (.func g) #[] bs] 133))
 have HS:=Lib.hid (hS.kept HK.out)
 have HF:=Lib.hid (AnsF.kept hF HK.out)
 obtain ⟨ao,cp,rfl,_⟩:=hS
 clear hF
 by_cases h:l.length≤32
 · have hI:(l.length:Int)≤32:=by omega
   have hd:decide (l.length≤32)=true:=decide_eq_true h
   have HR:=Lib.hid (show (decide (l.length≤32)&&l.all f)= !(l.any fun x=> !(f x)) by rw[hd,Bool.true_and,not_any])
   have CC:=Lib.hid (containsFunc_walk 154 #[.pointer (some ⟨w.heap.size,0,none⟩)] (fun _ _=>by kernel_rfl) (fun x=> !(f x)) l _ _ hl HS.out (fun e he W hW=>mayListD1 g bs eg e.nm e.o e.n e.v e.r (f e) _ W (hW.box HB.out (fun h=>h)) (fun W2 hW2=>HF.out e he W2 (hW.trans hW2 (fun _ _ h=>h)))))
   clear HF HS h hd
   go_enter Tryz.func116,Tryz.ntmps116
   go_wp2_with (first
    |(go_at_call 82;refine CC.out.mono ?_;rintro x w2 ⟨rfl,hk2⟩)
    |fail)
   go_ret
   exact ⟨by rw[HR.out];rfl,HK.out.trans hk2 (fun _ _ h=>h)⟩
 · have hI:¬ (l.length:Int)≤32:=by omega
   have HR:=Lib.hid (show (decide (l.length≤32)&&l.all f)=false by rw[decide_eq_false h,Bool.false_and])
   clear HF HS h
   go_enter Tryz.func116,Tryz.ntmps116
   go_wp2_with fail
   go_ret
   exact ⟨by rw[HR.out];rfl,HK.out⟩
def AnsR (g:Nat) (bs:Array Value) (f:R→Bool) (l:List R) (w:World):Prop:=∀ x∈l,∀ W,Kept (fun _=>False) w W→∀ v,RichS W x v→Calls Tryz.prog g (#[v]++bs) W fun e W'=>e=.returned (.bool (f x))∧Kept (fun _=>False) W W'
theorem AnsR.kept {g:Nat} {bs:Array Value} {f:R→Bool} {l:List R} {w w':World} (h:AnsR g bs f l w) (hk:Kept (fun _=>False) w w'):AnsR g bs f l w':=fun e he W hW=>h e he W (hk.trans hW (fun _ _ h=>h))
theorem indexFuncR_walk (g:Nat) (bs:Array Value) (eg:∀ args w,(callFunc g args).run Tryz.prog w=.ok (.enter g args) w) (f:R→Bool) (l:List R) (va:Value) (w:World) (hl:l.length<140737488355328) (hS:RisS w va l) (hF:AnsR g bs f l w):
  Calls Tryz.prog 208 #[va,.func (.func g) #[] bs] w fun x w'=>(∃ k:Int,x=.returned (.int .i64 k)∧decide (0≤k)=l.any f)∧Kept (fun _=>False) w w':=by
 obtain ⟨ao,cp,rfl,hc⟩:=hS
 have HS:=Lib.hid hc
 have HF:=Lib.hid hF
 clear hc hF
 go_enter Tryz.func208,Tryz.ntmps208
 go_wp2_with fail
 go_loopw [8] (fun v8 wr=>∃ i:Nat,v8=.int .i64 (i:Int)∧i≤l.length∧Hid ((l.take i).any f=false)∧Hid (Kept (fun _=>False) w wr)) (fun v8 _=>l.length - (intOf v8).toNat)
 case atStart=>exact ⟨0,rfl,Nat.zero_le _,Lib.hid rfl,Lib.hid (Kept.refl _ _)⟩
 case round=>
  obtain ⟨i,rfl,hi,HN,HK⟩:=hrel
  rename World=>wr
  by_cases hlt:i<l.length
  · obtain ⟨x,he⟩:∃ x,l[i]? =some x:=⟨_,List.getElem?_eq_getElem hlt⟩
    obtain ⟨b,off,ao',cp',rfl,hb,hrx,d0,d1,d2,d3,d4,d5,d6⟩:=(ArgS.kept HK.out ao 0 l HS.out).part he
    have hl':=HF.out x (List.mem_of_getElem? he) wr HK.out _ hrx
    have HT:=Lib.hid (any_get f l i x he HN.out)
    have HM:=Lib.hid (List.mem_of_getElem? he)
    have hi0:(0:Int)≤(i:Int):=by omega
    have hiI:(i:Int)<(l.length:Int):=by omega
    clear he hb HS HF hrx
    cases hfe:f x with
    |true=>
     rw[hfe] at hl'
     have HFE:=Lib.hid hfe
     clear hfe
     go_wp2_with (first
      |(go_at_fn g;refine hl'.mono ?_;rintro x w2 ⟨rfl,hk2⟩)
      |fail)
     go_ret
     exact ⟨⟨(i:Int),rfl,by rw[List.any_eq_true.2 ⟨_,HM.out,HFE.out⟩];simp⟩,HK.out.trans hk2 (fun _ _ h=>h)⟩
    |false=>
     rw[hfe] at hl'
     have HFE:=Lib.hid hfe
     clear hfe
     go_wp2_with (first
      |(go_at_fn g;refine hl'.mono ?_;rintro x w2 ⟨rfl,hk2⟩)
      |fail)
     go_roundw
     case rel=>exact ⟨i+1,by go_num,by omega,Lib.hid (HT.out.trans HFE.out),Lib.hid (HK.out.trans hk2 (fun _ _ h=>h))⟩
     case measure=>simp[intOf];omega
  · obtain rfl:i=l.length:=by omega
    clear hlt hi
    go_wp2_with fail
    go_ret
    exact ⟨⟨-1,rfl,by rw[← List.take_length (l:=l),HN.out];rfl⟩,HK.out⟩
theorem containsFuncR_walk (g:Nat) (bs:Array Value) (eg:∀ args w,(callFunc g args).run Tryz.prog w=.ok (.enter g args) w) (f:R→Bool) (l:List R) (va:Value) (w:World) (hl:l.length<140737488355328) (hS:RisS w va l) (hF:AnsR g bs f l w):
  Calls Tryz.prog 186 #[va,.func (.func g) #[] bs] w fun e w'=>e=.returned (.bool (l.any f))∧Kept (fun _=>False) w w':=by
 have IC:=Lib.hid (indexFuncR_walk g bs eg f l va w hl hS hF)
 obtain ⟨ao,cp,rfl,_⟩:=hS
 clear hF eg
 go_enter Tryz.func186,Tryz.ntmps186
 go_wp2_with (first
  |(go_at_call 208;refine IC.out.mono ?_;rintro x w2 ⟨⟨k,rfl,hk⟩,hk2⟩;have HKE:=Lib.hid hk;clear hk)
  |fail)
 go_ret
 exact ⟨by rw[← HKE.out];rfl,hk2⟩
theorem mayListR1 (g:Nat) (bs:Array Value) (eg:∀ args w,(callFunc g args).run Tryz.prog w=.ok (.enter g args) w) (k:Nat) (d:D) (sl:Value) (c:Bool) (q:Nat) (w:World) (hQ:Box w q 117 #[.func (.func g) #[] bs])
  (hN:∀ W,Kept (fun _=>False) w W→Calls Tryz.prog g (#[richV k d sl]++bs) W fun e w'=>e=.returned (.bool c)∧Kept (fun _=>False) W w'):
  Calls Tryz.prog 187 #[richV k d sl,.pointer (some ⟨q,0,none⟩)] w fun e w'=>e=.returned (.bool (!c))∧Kept (fun _=>False) w w':=by
 have HA:=Lib.hid (Box.after_alloc hQ (.cells (richA k d sl) 58))
 clear hQ
 have HB:=Lib.hid (Box.made w 58 (richA k d sl))
 have HK:=Lib.hid ((Kept.refl (fun _=>False) w).alloc (.cells (richA k d sl) 58))
 have HN:=Lib.hid (hN _ HK.out)
 clear hN
 have bx0:=HB.out.cell 0
 have bx1:=HB.out.cell 1
 have bx2:=HB.out.cell 2
 have bx3:=HB.out.cell 3
 have bx4:=HB.out.cell 4
 have bx5:=HB.out.cell 5
 have bx6:=HB.out.cell 6
 have ax0:=HA.out.cell 0
 go_enter Tryz.func187,Tryz.ntmps187
 go_wp2_with (first
  |(go_at_fn g;refine HN.out.mono ?_;rintro x w2 ⟨rfl,hk2⟩)
  |fail)
 go_ret
 exact ⟨rfl,HK.out.trans hk2 (fun _ _ h=>h)⟩
theorem mayListR1x (g:Nat) (bs:Array Value) (eg:∀ args w,(callFunc g args).run Tryz.prog w=.ok (.enter g args) w) (x:R) (v:Value) (c:Bool) (q:Nat) (w:World) (hv:RichS w x v) (hQ:Box w q 117 #[.func (.func g) #[] bs])
  (hN:∀ W,Kept (fun _=>False) w W→Calls Tryz.prog g (#[v]++bs) W fun e w'=>e=.returned (.bool c)∧Kept (fun _=>False) W w'):
  Calls Tryz.prog 187 #[v,.pointer (some ⟨q,0,none⟩)] w fun e w'=>e=.returned (.bool (!c))∧Kept (fun _=>False) w w':=by
 obtain ⟨k,d,l⟩:=x
 rw[RichS] at hv
 obtain ⟨ao,cp,rfl,_⟩:=hv
 exact mayListR1 g bs eg k d _ c q w hQ hN
theorem mayListR_walk (g:Nat) (bs:Array Value) (eg:∀ args w,(callFunc g args).run Tryz.prog w=.ok (.enter g args) w) (f:R→Bool) (l:List R) (va:Value) (w:World) (hl:l.length<140737488355328) (hS:RisS w va l) (hF:AnsR g bs f l w):
  Calls Tryz.prog 157 #[va,.int .i64 32,.func (.func g) #[] bs] w fun e w'=>e=.returned (.bool (decide (l.length≤32)&&l.all f))∧Kept (fun _=>False) w w':=by
 have HB:=Lib.hid (Box.made w 117 #[.func (.func g) #[] bs])
 have HK:=Lib.hid ((Kept.refl (fun _=>False) w).alloc (.cells #[.func (.func g) #[] bs] 117))
 have HS:=Lib.hid (hS.kept HK.out)
 have HF:=Lib.hid (AnsR.kept hF HK.out)
 obtain ⟨ao,cp,rfl,_⟩:=hS
 clear hF
 by_cases h:l.length≤32
 · have hI:(l.length:Int)≤32:=by omega
   have hd:decide (l.length≤32)=true:=decide_eq_true h
   have HR:=Lib.hid (show (decide (l.length≤32)&&l.all f)= !(l.any fun x=> !(f x)) by rw[hd,Bool.true_and,not_any])
   have CC:=Lib.hid (containsFuncR_walk 187 #[.pointer (some ⟨w.heap.size,0,none⟩)] (fun _ _=>by kernel_rfl) (fun x=> !(f x)) l _ _ hl HS.out (fun x hx W hW v hv=>mayListR1x g bs eg x v (f x) _ W hv (hW.box HB.out (fun h=>h)) (fun W2 hW2=>HF.out x hx W2 (hW.trans hW2 (fun _ _ h=>h)) v (RichS.kept hW2 _ _ hv))))
   clear HF HS h hd
   go_enter Tryz.func157,Tryz.ntmps157
   go_wp2_with (first
    |(go_at_call 186;refine CC.out.mono ?_;rintro x w2 ⟨rfl,hk2⟩)
    |fail)
   go_ret
   exact ⟨by rw[HR.out];rfl,HK.out.trans hk2 (fun _ _ h=>h)⟩
 · have hI:¬ (l.length:Int)≤32:=by omega
   have HR:=Lib.hid (show (decide (l.length≤32)&&l.all f)=false by rw[decide_eq_false h,Bool.false_and])
   clear HF HS h
   go_enter Tryz.func157,Tryz.ntmps157
   go_wp2_with fail
   go_ret
   exact ⟨by rw[HR.out];rfl,HK.out⟩
def AnsS (b:Nat) (J:Nat→World→Prop) (g:Nat) (bs:Array Value) (f:Nat→Bool) (l:List ByteArray) (w:World):Prop:=∀ (i:Nat) u,l[i]? =some u→∀ W,Kept (· =b) w W→J i W→Calls Tryz.prog g (#[.string u]++bs) W fun e W'=>e=.returned (.bool (f i))∧J (i+1) W'∧Kept (· =b) W W'
theorem any_range {f:Nat→Bool} {n i:Nat} (hi:i<n) (h:f i=true):(List.range n).any f=true:=List.any_eq_true.2 ⟨i,by simpa using hi,h⟩
theorem any_range_no {f:Nat→Bool} {n:Nat} (h:∀ i,i<n→f i=false):(List.range n).any f=false:=by
 rw[Bool.eq_false_iff]
 intro h2
 obtain ⟨i,hi,hf⟩:=List.any_eq_true.1 h2
 rw[h i (by simpa using hi)] at hf
 cases hf
theorem indexFuncS_walk (b:Nat) (J:Nat→World→Prop) (g:Nat) (bs:Array Value) (eg:∀ args w,(callFunc g args).run Tryz.prog w=.ok (.enter g args) w) (f:Nat→Bool) (l:List ByteArray) (va:Value) (w:World) (hl:l.length<140737488355328) (hS:StrS w va l) (hb:l.length≠0→∀ (a:Addr) n cp,va=.slice (some a) n cp→¬ a.block=b) (hJ:J 0 w) (hF:AnsS b J g bs f l w):
  Calls Tryz.prog 212 #[va,.func (.func g) #[] bs] w fun x w'=>(∃ k:Int,x=.returned (.int .i64 k)∧decide (0≤k)=(List.range l.length).any f)∧Kept (· =b) w w':=by
 have HS:=Lib.hid hS
 have HBB:=Lib.hid hb
 obtain ⟨ao,cp,rfl,_⟩:=hS
 have HF:=Lib.hid hF
 have HJ:=Lib.hid hJ
 clear hF hJ hb
 go_enter Tryz.func212,Tryz.ntmps212
 go_wp2_with fail
 go_loopw [8] (fun v8 wr=>∃ i:Nat,v8=.int .i64 (i:Int)∧i≤l.length∧Hid (∀ k,k<i→f k=false)∧Hid (J i wr)∧Hid (Kept (· =b) w wr)) (fun v8 _=>l.length - (intOf v8).toNat)
 case atStart=>exact ⟨0,rfl,Nat.zero_le _,Lib.hid (fun k hk=>absurd hk (by omega)),HJ,Lib.hid (Kept.refl _ _)⟩
 case round=>
  obtain ⟨i,rfl,hi,HN,HJi,HK⟩:=hrel
  rename World=>wr
  by_cases hlt:i<l.length
  · obtain ⟨u,he⟩:∃ u,l[i]? =some u:=⟨_,List.getElem?_eq_getElem hlt⟩
    obtain ⟨ao2,cp2,hv,hc⟩:=HS.out.kept HK.out (HBB.out (by omega))
    injection hv with e1 e2 e3
    subst e1
    subst e3
    clear e2
    obtain ⟨a,rfl,c0,hab⟩:=hc i u he
    have hl':=HF.out i u he wr HK.out HJi.out
    have hi0:(0:Int)≤(i:Int):=by omega
    have hiI:(i:Int)<(l.length:Int):=by omega
    clear he hc hab HS HF HBB HJi HJ
    cases hfe:f i with
    |true=>
     rw[hfe] at hl'
     have HR:=Lib.hid (any_range (f:=f) hlt hfe)
     clear hfe
     go_wp2_with (first
      |(go_at_fn g;refine hl'.mono ?_;rintro x w2 ⟨rfl,_,hk2⟩)
      |fail)
     go_ret
     exact ⟨⟨(i:Int),rfl,by rw[HR.out];simp⟩,HK.out.trans hk2 (fun _ _ h=>h)⟩
    |false=>
     rw[hfe] at hl'
     have HFE:=Lib.hid hfe
     clear hfe
     go_wp2_with (first
      |(go_at_fn g;refine hl'.mono ?_;rintro x w2 ⟨rfl,hj2,hk2⟩;have HJ2:=Lib.hid hj2;clear hj2)
      |fail)
     go_roundw
     case rel=>exact ⟨i+1,by go_num,by omega,Lib.hid (fun k hk=>if hki:k=i then by rw[hki];exact HFE.out else HN.out k (by omega)),HJ2,Lib.hid (HK.out.trans hk2 (fun _ _ h=>h))⟩
     case measure=>simp[intOf];omega
  · obtain rfl:i=l.length:=by omega
    have HR:=Lib.hid (any_range_no (f:=f) HN.out)
    clear hlt hi
    go_wp2_with fail
    go_ret
    exact ⟨⟨-1,rfl,by rw[HR.out];rfl⟩,HK.out⟩
theorem containsFuncS_walk (b:Nat) (J:Nat→World→Prop) (g:Nat) (bs:Array Value) (eg:∀ args w,(callFunc g args).run Tryz.prog w=.ok (.enter g args) w) (f:Nat→Bool) (l:List ByteArray) (va:Value) (w:World) (hl:l.length<140737488355328) (hS:StrS w va l) (hb:l.length≠0→∀ (a:Addr) n cp,va=.slice (some a) n cp→¬ a.block=b) (hJ:J 0 w) (hF:AnsS b J g bs f l w):
  Calls Tryz.prog 191 #[va,.func (.func g) #[] bs] w fun e w'=>e=.returned (.bool ((List.range l.length).any f))∧Kept (· =b) w w':=by
 have IC:=Lib.hid (indexFuncS_walk b J g bs eg f l va w hl hS hb hJ hF)
 obtain ⟨ao,cp,rfl,_⟩:=hS
 clear hF eg hb hJ
 go_enter Tryz.func191,Tryz.ntmps191
 go_wp2_with (first
  |(go_at_call 212;refine IC.out.mono ?_;rintro x w2 ⟨⟨k,rfl,hk⟩,hk2⟩;have HKE:=Lib.hid hk;clear hk)
  |fail)
 go_ret
 exact ⟨by rw[← HKE.out];rfl,hk2⟩
theorem mayListS1 (b:Nat) (J:World→Prop) (g:Nat) (bs:Array Value) (eg:∀ args w,(callFunc g args).run Tryz.prog w=.ok (.enter g args) w) (u:ByteArray) (c:Bool) (q:Nat) (w:World) (hQ:Box w q 122 #[.func (.func g) #[] bs])
  (hN:Calls Tryz.prog g (#[.string u]++bs) w fun e w'=>e=.returned (.bool c)∧J w'∧Kept (· =b) w w'):
  Calls Tryz.prog 192 #[.string u,.pointer (some ⟨q,0,none⟩)] w fun e w'=>e=.returned (.bool (!c))∧J w'∧Kept (· =b) w w':=by
 have HN:=Lib.hid hN
 have ax0:=hQ.cell 0
 clear hN hQ
 go_enter Tryz.func192,Tryz.ntmps192
 go_wp2_with (first
  |(go_at_fn g;refine HN.out.mono ?_;rintro x w2 ⟨rfl,hj2,hk2⟩;have HJ2:=Lib.hid hj2;clear hj2)
  |fail)
 go_ret
 exact ⟨rfl,HJ2.out,hk2⟩
theorem mayListS_walk (b:Nat) (J:Nat→World→Prop) (g:Nat) (bs:Array Value) (eg:∀ args w,(callFunc g args).run Tryz.prog w=.ok (.enter g args) w) (f:Nat→Bool) (l:List ByteArray) (va:Value) (w:World) (hl:l.length<140737488355328) (hS:StrS w va l) (hb:l.length≠0→∀ (a:Addr) n cp,va=.slice (some a) n cp→¬ a.block=b) (hbw:b<w.heap.size)
  (hJ:J 0 w) (hJk:∀ i W W',Kept (fun _=>False) W W'→b<W.heap.size→J i W→J i W') (hF:AnsS b J g bs f l w):
  Calls Tryz.prog 160 #[va,.int .i64 32,.func (.func g) #[] bs] w fun e w'=>e=.returned (.bool (decide (l.length≤32)&& !((List.range l.length).any fun i=> !(f i))))∧Kept (· =b) w w':=by
 have HB:=Lib.hid (Box.made w 122 #[.func (.func g) #[] bs])
 have hK0:=(Kept.refl (fun _=>False) w).alloc (.cells #[.func (.func g) #[] bs] 122)
 have HK:=Lib.hid (hK0.weaker (T:=(· =b)) (fun _ _ h=>h.elim))
 have HS:=Lib.hid (hS.kept hK0 (fun _ _ _ _ h=>h))
 have HJ:=Lib.hid (hJk 0 _ _ hK0 hbw hJ)
 have HBB:=Lib.hid hb
 have HF:=Lib.hid hF
 obtain ⟨ao,cp,rfl,_⟩:=hS
 clear hF hJ hb hK0
 by_cases h:l.length≤32
 · have hI:(l.length:Int)≤32:=by omega
   have HR:=Lib.hid (show (decide (l.length≤32)&& !((List.range l.length).any fun i=> !(f i)))= !((List.range l.length).any fun i=> !(f i)) by rw[decide_eq_true h,Bool.true_and])
   have CC:=Lib.hid (containsFuncS_walk b J 192 #[.pointer (some ⟨w.heap.size,0,none⟩)] (fun _ _=>by kernel_rfl) (fun i=> !(f i)) l _ _ hl HS.out HBB.out HJ.out
    (fun i u hu W hW hj=>mayListS1 b (J (i+1)) g bs eg u (f i) _ W (hW.box HB.out (by omega)) (HF.out i u hu W (HK.out.trans hW (fun _ _ h=>h)) hj)))
   clear HF HS h HJ hJk HBB
   go_enter Tryz.func160,Tryz.ntmps160
   go_wp2_with (first
    |(go_at_call 191;refine CC.out.mono ?_;rintro x w2 ⟨rfl,hk2⟩)
    |fail)
   go_ret
   exact ⟨by rw[HR.out];rfl,HK.out.trans hk2 (fun _ _ h=>h)⟩
 · have hI:¬ (l.length:Int)≤32:=by omega
   have HR:=Lib.hid (show (decide (l.length≤32)&& !((List.range l.length).any fun i=> !(f i)))=false by rw[decide_eq_false h,Bool.false_and])
   clear HF HS h HJ hJk HBB
   go_enter Tryz.func160,Tryz.ntmps160
   go_wp2_with fail
   go_ret
   exact ⟨by rw[HR.out];rfl,HK.out⟩
def stepF (p u:ByteArray):Bool:=Op.bytesLess p.toList u.toList&&fileD u.data.toList
def nthF (l:List ByteArray) (i:Nat):ByteArray:=(⟨#[]⟩::l).getD i ⟨#[]⟩
def filesB (l:List ByteArray):Bool:=decide (l.length≤32)&& !((List.range l.length).any fun i=> !(stepF (nthF l i) (nthF l (i+1))))
theorem nthF_at {l:List ByteArray} {i:Nat} {u:ByteArray} (h:l[i]? =some u):nthF l (i+1)=u:=by
 unfold nthF
 rw[List.getD_cons_succ,List.getD_eq_getElem?_getD,h]
 rfl
theorem gtr_str10 (x y:ByteArray) (w:World):Sem.run Tryz.prog (binOp BinOp.gtr 9 (Value.string x) (Value.string y)) w=.ok (.bool (Op.bytesLess y.toList x.toList)) w:=str_gtr x y w
theorem NotW.other {S:Nat→Prop} {w w':World} (h:NotW w) (k:Kept S w w') (hs:¬ S 1):NotW w':=by
 have hlt:∀ i:Nat,(⟨1,i,none⟩:Addr).block<w.heap.size:=fun _=>h.old
 exact ⟨Nat.lt_of_lt_of_le h.old k.size,(k.cell (hlt 0) hs).trans h.n0,(k.cell (hlt 1) hs).trans h.n1,(k.cell (hlt 2) hs).trans h.n2,(k.cell (hlt 3) hs).trans h.n3,(k.cell (hlt 4) hs).trans h.n4,(k.cell (hlt 5) hs).trans h.n5,(k.cell (hlt 6) hs).trans h.n6⟩
theorem mayFiles1_walk (p u:ByteArray) (q:Nat) (w:World) (hW:NotW w) (hqn:1≠q) (hQ:Box w q 9 #[.string p]):
  Calls Tryz.prog 161 #[.string u,.pointer (some ⟨q,0,none⟩)] w fun e w'=>e=.returned (.bool (stepF p u))∧Box w' q 9 #[.string u]∧Kept (· =q) w w':=by
 have hg:=gtr_str10 u p
 have ax0:=hQ.cell 0
 have af0:=hQ.free 0
 have HQ2:=Lib.hid (show Box (w.setCell ⟨q,0,none⟩ (.string u)) q 9 #[.string u] from hQ.stored 0 (.string u))
 have HK2:=Lib.hid ((Kept.refl (· =q) w).setCell (p:=⟨q,0,none⟩) (.inl rfl) (.string u))
 have NW:=hW.other (S:=(· =q)) HK2.out hqn
 have FW:=Lib.hid (file_walk u _ NW)
 have HC:=Lib.hid (fun (b:Bool) (h:Op.bytesLess p.toList u.toList=b)=>show stepF p u=(b&&fileD u.data.toList) by unfold stepF;rw[h])
 clear hQ NW hW hqn
 cases hb:Op.bytesLess p.toList u.toList with
 |true=>
  rw[hb] at hg
  have HR:=Lib.hid (HC.out true hb)
  clear hb
  go_enter Tryz.func161,Tryz.ntmps161
  go_wp2_with (first
   |(go_at_call 113;refine FW.out.mono ?_;rintro x w2 ⟨rfl,hk2⟩)
   |fail)
  go_ret
  exact ⟨by rw[HR.out];rfl,hk2.box HQ2.out (fun h=>h),HK2.out.trans hk2 (fun _ _ h=>h.elim)⟩
 |false=>
  rw[hb] at hg
  have HR:=Lib.hid (HC.out false hb)
  clear hb
  go_enter Tryz.func161,Tryz.ntmps161
  go_wp2_with fail
  go_ret
  exact ⟨by rw[HR.out];rfl,HQ2.out,HK2.out⟩
theorem mayFiles_walk (l:List ByteArray) (va:Value) (w:World) (hW:NotW w) (hl:l.length<140737488355328) (hS:StrS w va l):
  Calls Tryz.prog 119 #[va] w fun e w'=>e=.returned (.bool (filesB l))∧Kept (fun _=>False) w w':=by
 have HB:=Lib.hid (show Box (w.alloc (.cells #[.string ⟨#[]⟩] 9)) w.heap.size 9 #[.string ⟨#[]⟩] from Box.made w 9 #[.string ⟨#[]⟩])
 have hK:=(Kept.refl (fun _=>False) w).alloc (.cells #[.string ⟨#[]⟩] 9)
 have HK:=Lib.hid hK
 have hbb:l.length≠0→∀ (a:Addr) n cp,va=.slice (some a) n cp→¬ a.block=w.heap.size:=by
  intro h0 a n cp h hab
  obtain ⟨ao,cp',hv,hc⟩:=hS
  rw[hv] at h
  injection h with h1 _ _
  subst h1
  obtain ⟨a',h1,_,h2⟩:=hc 0 _ (List.getElem?_eq_getElem (by omega))
  injection h1 with h1
  subst h1
  omega
 have hA:AnsS w.heap.size (fun i W=>Box W w.heap.size 9 #[.string (nthF l i)]∧NotW W) 161 #[.pointer (some ⟨w.heap.size,0,none⟩)] (fun i=>stepF (nthF l i) (nthF l (i+1))) l (w.alloc (.cells #[.string ⟨#[]⟩] 9)):=by
  intro i u hu W hk hj
  obtain rfl:u=nthF l (i+1):=(nthF_at hu).symm
  refine (mayFiles1_walk (nthF l i) (nthF l (i+1)) w.heap.size W hj.2 (by have:=hW.old;omega) hj.1).mono ?_
  rintro e W' ⟨h1,h2,h3⟩
  exact ⟨h1,⟨h2,hj.2.other h3 (by have:=hW.old;omega)⟩,h3⟩
 have CC:=Lib.hid (mayListS_walk w.heap.size _ 161 #[.pointer (some ⟨w.heap.size,0,none⟩)] (fun _ _=>by kernel_rfl) _ l va _ hl (hS.kept hK (fun _ _ _ _ h=>h)) hbb HB.out.lt ⟨HB.out,hW.kept hK⟩ (fun i W W' hk _ h=>⟨hk.box h.1 (fun h=>h),h.2.kept hk⟩) hA)
 have af0:=(Box.made w 9 #[.string ⟨#[]⟩]).free 0
 obtain ⟨ao,cp,rfl,_⟩:=hS
 clear hA hbb hK hW
 go_enter Tryz.func119,Tryz.ntmps119
 go_wp2_with (first
  |(go_at_call 160;refine CC.out.mono ?_;rintro x w2 ⟨rfl,hk2⟩)
  |fail)
 go_ret
 exact ⟨rfl,HK.out.trans hk2 (fun i hi h=>absurd hi (by omega))⟩
end
end Go.Proofs.YtkoiocpnikiolaaGreatDoor
