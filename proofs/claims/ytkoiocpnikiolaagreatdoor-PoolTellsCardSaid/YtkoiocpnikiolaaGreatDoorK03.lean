/-
  The texts Ref02, Ref02b. Conditions: as each theorem states.
-/
import Derived.Test.YtkoiocpnikiolaaGreatDoorRows
import Derived.Test.YtkoiocpnikiolaaGreatDoorK01
import Derived.Test.YtkoiocpnikiolaaGreatDoorK02
import Derived.Handy
import Derived.Lib.Hide
import Derived.Deep.CutRange
import Derived.Deep.CutBlock
set_option maxRecDepth 100000
set_option maxHeartbeats 16000000
namespace Go.Proofs.YtkoiocpnikiolaaGreatDoor
section
open Go.RowKit Ver
theorem kind_walk (b:UInt8) (w:World):
  Calls Tryz.prog 237 #[.int .u8 (b.toNat:Int)] w fun e w'=>e=.returned (.int .u8 (kindB b:Int))∧w=w':=by
 have hb:b.toNat<256:=UInt8.toNat_lt b
 have hk:kindB b=kindB b:=rfl
 unfold kindB at hk
 by_cases c1:b.toNat=126
 · have h1:((b.toNat:Int)==126)=true:=by simp;omega
   have fin:=Lib.hid (show (kindB b:Int)=1 by unfold kindB;rw[if_pos c1];rfl)
   clear hk c1
   go_enter Tryz.func237,Tryz.ntmps237
   go_wp2
   go_ret
   exact ⟨by rw[fin.out];rfl,rfl⟩
 · have h1:((b.toNat:Int)==126)=false:=by simp;omega
   by_cases c2:b.toNat=94
   · have h2:((b.toNat:Int)==94)=true:=by simp;omega
     have fin:=Lib.hid (show (kindB b:Int)=3 by unfold kindB;rw[if_neg c1,if_pos c2];rfl)
     clear hk c1 c2
     go_enter Tryz.func237,Tryz.ntmps237
     go_wp2
     go_ret
     exact ⟨by rw[fin.out];rfl,rfl⟩
   · have h2:((b.toNat:Int)==94)=false:=by simp;omega
     by_cases c3:(97≤b.toNat∧b.toNat≤122)∨(65≤b.toNat∧b.toNat≤90)
     · have fin:=Lib.hid (show (kindB b:Int)=4 by unfold kindB;rw[if_neg c1,if_neg c2,if_pos c3];rfl)
       clear hk c1 c2
       rcases c3 with ⟨a1,a2⟩|⟨a1,a2⟩
       · go_enter Tryz.func237,Tryz.ntmps237
         go_wp2
         go_ret
         exact ⟨by rw[fin.out];rfl,rfl⟩
       · go_enter Tryz.func237,Tryz.ntmps237
         go_wp2
         go_ret
         exact ⟨by rw[fin.out];rfl,rfl⟩
     · by_cases c4:48≤b.toNat∧b.toNat≤57
       · have fin:=Lib.hid (show (kindB b:Int)=5 by unfold kindB;rw[if_neg c1,if_neg c2,if_neg c3,if_pos c4];rfl)
         obtain ⟨a1,a2⟩:=c4
         clear hk c1 c2 c3
         go_enter Tryz.func237,Tryz.ntmps237
         go_wp2
         go_ret
         exact ⟨by rw[fin.out];rfl,rfl⟩
       · have fin:=Lib.hid (show (kindB b:Int)=0 by unfold kindB;rw[if_neg c1,if_neg c2,if_neg c3,if_neg c4];rfl)
         clear hk
         have hc:b.toNat<48∨(57<b.toNat∧b.toNat<65)∨(90<b.toNat∧b.toNat<97)∨122<b.toNat:=by omega
         clear c1 c2 c3 c4
         rcases hc with hc|⟨hc,hd⟩|⟨hc,hd⟩|hc
         all_goals
          go_enter Tryz.func237,Tryz.ntmps237
          go_wp2
          go_ret
          exact ⟨by rw[fin.out];rfl,rfl⟩
theorem info_part:(Tryz.prog.info? 232).map (fun i=>(i.zero,i.size,i.bytes))=some (some (.agg #[.int .u8 0,.string ⟨#[]⟩]),2,24):=by kernel_rfl
def cellsP:List Pt→List Value
 | []=> []
 |p::l=>.int .u8 (p.1:Int):: .string ⟨p.2.toArray⟩::cellsP l
theorem cellsP_app:∀ a b:List Pt,cellsP (a++b)=cellsP a++cellsP b
 | [],_=>rfl
 |p::a,b=>by simp[cellsP,cellsP_app a b]
theorem cellsP_one:∀ a:List Pt,∀ u∈cellsP a,u.oneCell'=true
 | [],u,h=>by simp[cellsP] at h
 |p::a,u,h=>by
  simp only[cellsP,List.mem_cons] at h
  rcases h with h|h|h
  · rw[h];rfl
  · rw[h];rfl
  · exact cellsP_one a u h
theorem parts_push {w wr w1:World} {v v':Value} {done:List Pt} {p:Pt} {o:Obj} (hkp:Kept (fun _=>False) w wr) (hown:wr.ownsRow w.heap.size 232 2 v done.length (cellsP done))
  (h:w1.ownsRow w.heap.size 232 2 v' (done.length+1) (cellsP done++cellsP [p])) (hg:(wr.alloc o).grownBy w1 v.ownBlock):
  w1.ownsRow w.heap.size 232 2 v' (done++ [p]).length (cellsP (done++ [p]))∧Kept (fun _=>False) w w1:=
 ⟨by rw[cellsP_app,List.length_append];exact h,(hkp.alloc o).grown hg (fun i hi=>.inr (hown.lt i hi).1)⟩
theorem run_facts (s:ByteArray) (k:Nat) (kd:Nat) (h:k<s.size) (b:UInt8) (hb:s.data.toList[k]? =some b) (hkd:kindB b=kd):∃ T,T=k+(run kd s.data.toList k).length∧k<T∧T≤s.size∧(∀ m (hm:m<s.size) (c:UInt8),k≤m→m<T→c=s[m]→kindB c=kd)∧∀ (hm:T<s.size) (c:UInt8),c=s[T]→kindB c≠kd:=by
 have hl:=run_len kd s.data.toList k (by simp;omega)
 have he:∀ (hm:k+(run kd s.data.toList k).length<s.size) (c:UInt8),c=s[k+(run kd s.data.toList k).length]→kindB c≠kd:=fun hm c h2=>run_end (char_at hm h2)
 refine ⟨_,rfl,?_,by simpa using hl,fun m hm c h0 h1 h2=>?_,he⟩
 · by_cases h0:(run kd s.data.toList k).length=0
   · exact absurd hkd (run_end (by rw[h0];exact hb))
   · omega
 · obtain ⟨j,rfl⟩:∃ j,m=k+j:=⟨m - k,by omega⟩
   exact run_at (by omega) (char_at hm h2)
theorem zero_facts (s:ByteArray) (k kd T:Nat) (hT:T=k+(run kd s.data.toList k).length):∃ F,k≤F∧F≤T∧(kd≠5→F=k)∧(kd=5→∀ m (hm:m<s.size) (c:UInt8),k≤m→m<F→c=s[m]→c.toNat=48)∧
  (kd=5→F<T→∀ (hm:F<s.size) (c:UInt8),c=s[F]→c.toNat≠48)∧norm (kd,run kd s.data.toList k)=(kd,(s.data.toList.drop F).take (T - F)):=by
 by_cases h5:kd=5
 · subst h5
   have e:=tw_take (fun b=>kindB b==5) (s.data.toList.drop k)
   have hz:zeros (run 5 s.data.toList k)≤(run 5 s.data.toList k).length:=tw_len (fun b:UInt8=>b.toNat==48) (run 5 s.data.toList k)
   have hat:∀ j c,k+j<T→s.data.toList[k+j]? =some c→(run 5 s.data.toList k)[j]? =some c:=by
    intro j c hj hc
    have e':run 5 s.data.toList k=(s.data.toList.drop k).take (run 5 s.data.toList k).length:=e
    rw[e',List.getElem?_take,if_pos (by omega),List.getElem?_drop]
    exact hc
   refine ⟨k+zeros (run 5 s.data.toList k),by omega,by omega,fun h=>absurd rfl h,fun _ m hm c h0 h1 h2=>?_,fun _ h1 hj c h2=>?_,?_⟩
   · obtain ⟨j,rfl⟩:∃ j,m=k+j:=⟨m - k,by omega⟩
     obtain ⟨d,h3,h4⟩:=tw_at (fun b:UInt8=>b.toNat==48) (run 5 s.data.toList k) j (by unfold zeros at h1;omega)
     rw[hat j c (by omega) (char_at hm h2)] at h3
     rw[Option.some.inj h3]
     simpa using h4
   · have:=tw_end (fun b:UInt8=>b.toNat==48) (run 5 s.data.toList k) c (hat _ c h1 (char_at hj h2))
     simpa using this
   · rw[norm_run,if_pos rfl,hT,show k+(run 5 s.data.toList k).length - (k+zeros (run 5 s.data.toList k))=(run 5 s.data.toList k).length - zeros (run 5 s.data.toList k) by omega]
 · refine ⟨k,Nat.le_refl _,by omega,fun _=>rfl,fun h=>absurd h h5,fun h=>absurd h h5,?_⟩
   rw[norm_run,if_neg h5,hT,Nat.add_sub_cancel_left]
theorem part_text (s:ByteArray) {k F T kd:Nat} (h:norm (kd,run kd s.data.toList k)=(kd,(s.data.toList.drop F).take (T - F))):∃ tl:List UInt8,norm (kd,run kd s.data.toList k)=(kd,tl)∧s.extract F T=⟨tl.toArray⟩:=
 ⟨_,h,extract_list s F T⟩
theorem new_part (w:World) (t:TypeId) (p:Pt):
  ∀ (j:Nat) (u:Value),(cellsP [p])[j]? =some u→(w.alloc (.cells #[.int .u8 (p.1:Int),.string ⟨p.2.toArray⟩] t)).cell? ((⟨w.heap.size,0,none⟩:Addr).add j)=some u:=by
 intro j u hj
 match j,hj with
 | 0,hj=>simp[cellsP] at hj;subst hj;simp[Addr.add]
 | 1,hj=>simp[cellsP] at hj;subst hj;simp[Addr.add]
theorem parts_walk (s:ByteArray) (w:World) (hs:s.size≤1000000):
  Calls Tryz.prog 219 #[.string s] w fun e w'=>∃ v,e=.returned v∧w'.ownsRow w.heap.size 232 2 v (parts s.data.toList).length (cellsP (parts s.data.toList))∧Kept (fun _=>False) w w':=by
 obtain ⟨i0,hi,hz0,hz1,hz2⟩:=info_parts info_part
 go_enter Tryz.func219,Tryz.ntmps219
 go_wp2_with fail
 go_loopw [3,4] (fun v3 v4 wr=>∃ (k:Nat) (done:List Pt),v4=.int .i64 k∧k≤s.size∧done.length≤k∧done++parts (s.data.toList.drop k)=parts s.data.toList∧
  wr.ownsRow w.heap.size 232 2 v3 done.length (cellsP done)∧Kept (fun _=>False) w wr) (fun _ v4 _=>s.size - (intOf v4).toNat)
 case atStart=>exact ⟨0,[],rfl,Nat.zero_le _,Nat.le_refl _,by simp,World.ownsRow_nil _ _ _ _,Kept.refl _ _⟩
 case round=>
  obtain ⟨k,done,rfl,hk,hd,hp,hown,hkp⟩:=hrel
  by_cases hlt:k<s.size
  · obtain ⟨b,hb⟩:∃ b,b=s[k]:=⟨_,rfl⟩
    have hbl:s.data.toList[k]? =some b:=by
     rw[hb,List.getElem?_eq_getElem (by simpa using hlt)]
     rfl
    have hdrop:=parts_at hbl
    have HL:=Lib.hid hbl
    have HD:=Lib.hid hdrop
    have HP:=Lib.hid hp
    clear hbl hdrop hp
    have hb':s[k]=b:=hb.symm
    clear hb
    by_cases h0:kindB b=0
    · go_wp2_with (go_at_call 237;refine (kind_walk b _).mono ?_;rintro e w' ⟨rfl,rfl⟩)
      go_roundw
      case rel=>exact ⟨k+1,done,by go_num,by omega,by omega,by rw[← HP.out,HD.out,parts_nothing b h0],hown,hkp⟩
      case measure=>simp[intOf];omega
    · by_cases h4:kindB b=1∨kindB b=3
      · have h44:kindB b<4:=by omega
        go_wp2_with (first
         |(go_at_call 237;refine (kind_walk b _).mono ?_;rintro e w' ⟨rfl,rfl⟩)
         |(at_builtin;go_loud (refine wpList_append_own _ rfl _ _ 228 rfl w.heap.size 232 i0 (.agg #[.int .u8 0,.string ⟨#[]⟩]) 2 24 Tryz.underlying228 hi hz0 hz1 hz2 rfl (by decide) _ _ _ rfl (hown.alloc _) ⟨wr.heap.size,0,none⟩ 1 1 (cellsP [(kindB b,[])]) rfl rfl ?c1 (cellsP_one _) ?c3 ?c4 ?c5 ?_)))
        case c1=>exact new_part _ _ (kindB b,[])
        case c3=>unfold maxLen;omega
        case c4=>omega
        case c5=>have:=hkp.size;simp;omega
        intro v' w1 hown' hgrow _
        obtain ⟨g1,g2⟩:=parts_push hkp hown hown' hgrow
        clear hown' hgrow hown hkp
        go_wp2
        go_roundw
        case rel=>exact ⟨k+1,done++ [(kindB b,[])],by go_num,by omega,by simp;omega,by rw[← HP.out,HD.out,parts_one b h4];simp,g1,g2⟩
        case measure=>simp[intOf];omega
      · have h45:kindB b=4∨kindB b=5:=by have:=kindB_le b;have:=kindB_ne2 b;omega
        have hge:¬ kindB b<4:=by omega
        obtain ⟨T,hT,hkT,hTl,hTa,hTe⟩:=run_facts s k (kindB b) hlt b HL.out rfl
        have HT:=Lib.hid hT
        have HTa:=Lib.hid hTa
        have HTe:=Lib.hid hTe
        clear hT hTa hTe
        have hb0:((kindB b:Int)==0)=false:=by simp;omega
        go_upto_block 2 with (go_at_call 237;refine (kind_walk b _).mono ?_;rintro e w' ⟨rfl,rfl⟩)
        go_cut [6] from 7 to 67 (fun v6 wx=>v6=.int .i64 (T:Int)∧wx=wr)
        case first=>
         go_wp2_with fail
         go_loop [6] (fun v6=>∃ m:Nat,v6=.int .i64 (m:Int)∧k≤m∧m≤T) (fun v6=>s.size - (intOf v6).toNat)
         case atStart=>exact ⟨k,rfl,Nat.le_refl _,Nat.le_of_lt hkT⟩
         case round=>
          obtain ⟨m,rfl,hkm,hmT⟩:=hrel
          by_cases hms:m<s.size
          · obtain ⟨c,hc⟩:∃ c,c=s[m]:=⟨_,rfl⟩
            by_cases hmR:m<T
            · have hkc:=HTa.out m hms c hkm hmR hc
              have hc':s[m]=c:=hc.symm
              clear hc
              go_wp2_with (go_at_call 237;refine (kind_walk c _).mono ?_;rintro e w' ⟨rfl,rfl⟩)
              go_round
              case rel=>
               exact ⟨m+1,by go_num,by omega,by omega⟩
              case measure=>simp[intOf];omega
            · have hmT':m=T:=by omega
              subst hmT'
              have hkc:=HTe.out hms c hc
              have hc':s[m]=c:=hc.symm
              clear hc
              have hkb:((kindB c:Int)==(kindB b:Int))=false:=by simp;omega
              go_wp2_with (go_at_call 237;refine (kind_walk c _).mono ?_;rintro e w' ⟨rfl,rfl⟩)
              go_meet
              exact ⟨rfl,rfl⟩
          · have hmT':m=T:=by omega
            subst hmT'
            go_wp2
            go_meet
            exact ⟨rfl,rfl⟩
        case rest=>
         obtain ⟨rfl,rfl⟩:=hcut
         obtain ⟨F,hkF,hFT,hF0,hFa,hFe,hFn⟩:=zero_facts s k (kindB b) T HT.out
         obtain ⟨tl,htl,hex⟩:=part_text s hFn
         have HN:=Lib.hid htl
         have HX:=Lib.hid hex
         have HF0:=Lib.hid hF0
         have HFa:=Lib.hid hFa
         have HFe:=Lib.hid hFe
         clear hFn htl hex hF0 hFa hFe
         go_upto_block 4 with fail
         go_cut [4] from 7 to 67 (fun v4 wx=>v4=.int .i64 (F:Int)∧wx=wc)
         case first=>
          go_wp2_with fail
          go_loop [4] (fun v4=>∃ m:Nat,v4=.int .i64 (m:Int)∧k≤m∧m≤F) (fun v4=>s.size - (intOf v4).toNat)
          case atStart=>exact ⟨k,rfl,Nat.le_refl _,hkF⟩
          case round=>
           obtain ⟨m,rfl,hkm,hmF⟩:=hrel
           by_cases h5:kindB b=5
           · have hb5:((kindB b:Int)==5)=true:=by simp;omega
             have H5:=Lib.hid h5
             clear h5
             by_cases hmT:m<T
             · have hms:m<s.size:=by omega
               obtain ⟨c,hc⟩:∃ c,c=s[m]:=⟨_,rfl⟩
               by_cases hmR:m<F
               · have h48:=HFa.out H5.out m hms c hkm hmR hc
                 have hc':s[m]=c:=hc.symm
                 have hc4:((c.toNat:Int)==48)=true:=by simp;omega
                 clear hc
                 go_wp2
                 go_round
                 case rel=>exact ⟨m+1,by go_num,by omega,by omega⟩
                 case measure=>simp[intOf];omega
               · have hmF':m=F:=by omega
                 subst hmF'
                 have h48:=HFe.out H5.out hmT hms c hc
                 have hc':s[m]=c:=hc.symm
                 have hc4:((c.toNat:Int)==48)=false:=by simp;omega
                 clear hc
                 go_wp2
                 go_meet
                 exact ⟨rfl,rfl⟩
             · have hmF':m=F:=by omega
               have hmT':m=T:=by omega
               subst hmF'
               go_wp2
               go_meet
               exact ⟨by rw[hmT'],rfl⟩
           · have hb5:((kindB b:Int)==5)=false:=by simp;omega
             have hz0:=HF0.out h5
             have hmk:m=k:=by omega
             subst hmk
             subst hz0
             go_wp2
             go_meet
             exact ⟨rfl,rfl⟩
         case rest=>
          obtain ⟨rfl,rfl⟩:=hcut
          have hex:=HX.out
          have hkc:=hkp.size
          go_wp2_with (at_builtin;refine wpList_append_own _ rfl _ _ 228 rfl w.heap.size 232 i0 (.agg #[.int .u8 0,.string ⟨#[]⟩]) 2 24 Tryz.underlying228 hi hz0 hz1 hz2 rfl (by decide) _ _ _ rfl (hown.alloc _) ⟨_,0,none⟩ 1 1 (cellsP [(kindB b,tl)]) rfl rfl (new_part _ _ (kindB b,tl)) (cellsP_one _) (by unfold maxLen;omega) (by omega) (by simp;omega) ?_)
          intro v' w1 hown' hgrow _
          obtain ⟨g1,g2⟩:=parts_push hkp hown hown' hgrow
          clear hown' hgrow hown hkp
          go_wp2
          go_roundw
          case rel=>
           exact ⟨T,done++ [(kindB b,tl)],rfl,hTl,by simp;omega,by rw[← HP.out,parts_run (kindB b) (by omega) _ _ HL.out rfl,HN.out,← HT.out];simp,g1,g2⟩
          case measure=>simp[intOf];omega
  · go_wp2
    go_ret
    have e:k=s.size:=by omega
    subst e
    rw[List.drop_eq_nil_of_le (by simp)] at hp
    have hnil:parts []= []:=rfl
    rw[hnil,List.append_nil] at hp
    subst hp
    exact ⟨_,rfl,hown,hkp⟩
end
section
open Go.RowKit Ver
theorem at_out (v:Value) (a:Option Addr) (n c:Nat) (i:Nat) (w:World) (hv:v=.slice a n c) (hn:n≤i) (_hi:i≤9223372036854775807):
  Calls Tryz.prog 221 #[v,.int .i64 i] w fun e w'=>e=.returned (.agg #[.int .u8 2,.string ⟨#[]⟩])∧Kept (fun _=>False) w w':=by
 subst hv
 go_enter Tryz.func221,Tryz.ntmps221
 go_wp2
 go_returns
 exact ⟨rfl,(Kept.refl _ _).alloc _⟩
theorem at_in (g n c i k:Nat) (t:ByteArray) (w:World) (hn:i<n) (_hnn:n≤1000000) (h0:w.cell? ⟨g,i*2,none⟩=some (.int .u8 (k:Int))) (h1:w.cell? ⟨g,i*2+1,none⟩=some (.string t)) (hg:g<w.heap.size):
  Calls Tryz.prog 221 #[.slice (some ⟨g,0,none⟩) n c,.int .i64 i] w fun e w'=>e=.returned (.agg #[.int .u8 (k:Int),.string t])∧Kept (fun _=>False) w w':=by
 go_enter Tryz.func221,Tryz.ntmps221
 go_wp2
 go_returns
 exact ⟨rfl,(Kept.refl _ _).alloc _⟩
def aggP (p:Pt):Value:=.agg #[.int .u8 (p.1:Int),.string ⟨p.2.toArray⟩]
theorem below_case1 (k m:Nat) (s t:List UInt8) (h:k≠m):below (k,s) (m,t)=decide (k<m):=by simp[below,h]
theorem below_case2 (s t:List UInt8) (h:s.length≠t.length):below (5,s) (5,t)=decide (s.length<t.length):=by simp[below,h]
theorem below_case3 (k:Nat) (s t:List UInt8) (h:¬ (k=5∧s.length≠t.length)):below (k,s) (k,t)=Op.bytesLess s t:=by
 unfold below
 rw[if_neg (by simp),if_neg h]
theorem below_walk (k m:Nat) (s t:ByteArray) (w:World):
  Calls Tryz.prog 220 #[.agg #[.int .u8 (k:Int),.string s],.agg #[.int .u8 (m:Int),.string t]] w fun e w'=>e=.returned (.bool (below (k,s.data.toList) (m,t.data.toList)))∧Kept (fun _=>False) w w':=by
 have hsl:s.data.toList.length=s.size:=rfl
 have htl:t.data.toList.length=t.size:=rfl
 by_cases h1:k=m
 · subst h1
   by_cases h5:k=5
   · by_cases hl:s.size=t.size
     · have fin:=Lib.hid (below_case3 k s.data.toList t.data.toList (by rw[hsl,htl];exact fun h=>h.2 hl))
       have hb:((s.size:Int)!=(t.size:Int))=false:=by simp[hl]
       clear hsl htl
       subst h5
       have hl':=Lib.hid hl
       clear hl
       go_enter Tryz.func220,Tryz.ntmps220
       go_wp2
       all_goals go_ret
       all_goals exact ⟨by rw[fin.out,← ByteArray.toList_eq,← ByteArray.toList_eq];rfl,((Kept.refl _ _).alloc _).alloc _⟩
     · have fin:=Lib.hid (below_case2 s.data.toList t.data.toList (by rw[hsl,htl];exact hl))
       have hb:((s.size:Int)!=(t.size:Int))=true:=by simp;omega
       clear hsl htl
       subst h5
       go_enter Tryz.func220,Tryz.ntmps220
       go_wp2
       all_goals go_ret
       all_goals exact ⟨by rw[fin.out];rfl,((Kept.refl _ _).alloc _).alloc _⟩
   · have fin:=Lib.hid (below_case3 k s.data.toList t.data.toList (fun h=>h5 h.1))
     have hb:((k:Int)==5)=false:=by simp;omega
     clear hsl htl
     go_enter Tryz.func220,Tryz.ntmps220
     go_wp2
     all_goals go_ret
     all_goals exact ⟨by rw[fin.out,← ByteArray.toList_eq,← ByteArray.toList_eq];rfl,((Kept.refl _ _).alloc _).alloc _⟩
 · have fin:=Lib.hid (below_case1 k m s.data.toList t.data.toList h1)
   have hb:((k:Int)!=(m:Int))=true:=by simp;omega
   clear hsl htl
   go_enter Tryz.func220,Tryz.ntmps220
   go_wp2
   all_goals go_ret
   all_goals exact ⟨by rw[fin.out];rfl,((Kept.refl _ _).alloc _).alloc _⟩
theorem below_any (p q:Pt) (w:World):Calls Tryz.prog 220 #[aggP p,aggP q] w fun e w'=>e=.returned (.bool (below p q))∧Kept (fun _=>False) w w':=
 below_walk p.1 q.1 ⟨p.2.toArray⟩ ⟨q.2.toArray⟩ w
def ptAt (l:List Pt) (i:Nat):Pt:=l.getD i (2,[])
theorem cellsP_at:∀ (l:List Pt) (i:Nat) (_h:i<l.length),(cellsP l)[i*2]? =some (.int .u8 ((ptAt l i).1:Int))∧(cellsP l)[i*2+1]? =some (.string ⟨(ptAt l i).2.toArray⟩)
 |p::l,0,_=>⟨rfl,rfl⟩
 |p::l,i+1,h=>by
  have:=cellsP_at l i (by simpa using h)
  have e1:(i+1)*2=i*2+1+1:=by omega
  have e2:(i+1)*2+1=i*2+1+1+1:=by omega
  rw[e1]
  simpa [cellsP,ptAt] using this
theorem at_any (base:Nat) (v:Value) (l:List Pt) (i:Nat) (w:World) (h:w.ownsRow base 232 2 v l.length (cellsP l)) (hl:l.length≤1000000) (hi:i≤1000000):
  Calls Tryz.prog 221 #[v,.int .i64 i] w fun e w'=>e=.returned (aggP (ptAt l i))∧Kept (fun _=>False) w w':=by
 by_cases hlt:i<l.length
 · obtain ⟨c1,c2⟩:=cellsP_at l i hlt
   rcases h.2 with ⟨_,h0⟩|⟨g,cap,cur,e1,_⟩
   · omega
   · subst e1
     exact at_in g l.length cap i (ptAt l i).1 _ w hlt hl (own_cell h c1).1 (own_cell h c2).1 (own_cell h c1).2
 · have hp:ptAt l i=(2,[]):=by
    unfold ptAt
    rw[List.getD_eq_getElem?_getD,List.getElem?_eq_none (by omega)]
    rfl
   rw[hp]
   obtain ⟨a,c,e⟩:=own_form h
   exact at_out v a l.length c i w e (by omega) (by omega)
theorem ptAt_end (l:List Pt) (i:Nat) (h:l.length≤i):ptAt l i=(2,[]):=by
 unfold ptAt
 rw[List.getD_eq_getElem?_getD,List.getElem?_eq_none h]
 rfl
theorem ptAt_drop {l:List Pt} {i:Nat} (h:i<l.length):l.drop i=ptAt l i::l.drop (i+1):=by
 rw[List.drop_eq_getElem_cons h]
 unfold ptAt
 rw[List.getD_eq_getElem?_getD,List.getElem?_eq_getElem h]
 rfl
theorem ptAt_whole {l:List Pt} {i:Nat} (hw:Whole l) (h:i<l.length):(ptAt l i).1=1∨(ptAt l i).1=3∨(ptAt l i).1=4∨(ptAt l i).1=5:=by
 apply hw
 unfold ptAt
 rw[List.getD_eq_getElem?_getD,List.getElem?_eq_getElem h]
 exact List.getElem_mem h
theorem cmp_at (l m:List Pt) (i:Nat) (hl:Whole l) (hm:Whole m) (h:i<l.length∨i<m.length):
  cmpP (l.drop i) (m.drop i)=if below (ptAt l i) (ptAt m i)=true then -1 else if below (ptAt m i) (ptAt l i)=true then 1 else cmpP (l.drop (i+1)) (m.drop (i+1)):=by
 by_cases h1:i<l.length
 · rw[ptAt_drop h1]
   by_cases h2:i<m.length
   · rw[ptAt_drop h2,cmp_cc]
   · rw[List.drop_eq_nil_of_le (by omega:m.length≤i),cmp_cn,ptAt_end m i (by omega)]
     have hk:=ptAt_whole hl h1
     generalize ptAt l i=p at hk ⊢
     obtain ⟨k,t⟩:=p
     simp only at hk
     rcases hk with rfl|rfl|rfl|rfl<;>rfl
 · have h2:i<m.length:=by omega
   rw[ptAt_drop h2,List.drop_eq_nil_of_le (by omega:l.length≤i),cmp_nc,ptAt_end l i (by omega)]
   have hk:=ptAt_whole hm h2
   generalize ptAt m i=p at hk ⊢
   obtain ⟨k,t⟩:=p
   simp only at hk
   rcases hk with rfl|rfl|rfl|rfl<;>rfl
theorem norm_raw_len (x:List UInt8):(parts x).length≤x.length:=by
 unfold parts
 rw[List.length_map]
 induction x with
 |nil=>exact Nat.le_refl _
 |cons b l ih=>
  rw[raw_cons]
  split
  · simp only[List.length_cons];omega
  · split
    · simp only[List.length_cons];omega
    · split
      · split
        · simp
        · rename_i e;rw[e] at ih;simp only[List.length_cons] at ih ⊢;omega
      · simp only[List.length_cons];omega
theorem compare_walk (s t:ByteArray) (w:World) (hs:s.size≤1000000) (ht:t.size≤1000000):
  Calls Tryz.prog 196 #[.string s,.string t] w fun e w'=>e=.returned (.int .i64 (cmpV s.data.toList t.data.toList))∧Kept (fun _=>False) w w':=by
 go_enter Tryz.func196,Tryz.ntmps196
 go_wp2_with fail
 refine (parts_walk s w hs).mono ?_
 rintro e w1 ⟨v1,rfl,ho1,hk1⟩
 go_wp2_with fail
 refine (parts_walk t w1 ht).mono ?_
 rintro e w2 ⟨v2,rfl,ho2,hk2⟩
 have ho1:=hk2.owns ho1 (fun _ _ h=>h)
 have hw1:=parts_whole s.data.toList
 have hw2:=parts_whole t.data.toList
 have hl1:=norm_raw_len s.data.toList
 have hl2:=norm_raw_len t.data.toList
 have es:s.data.toList.length=s.size:=rfl
 have et:t.data.toList.length=t.size:=rfl
 rw[es] at hl1
 rw[et] at hl2
 have hfin:cmpP (parts s.data.toList) (parts t.data.toList)=cmpV s.data.toList t.data.toList:=rfl
 generalize parts s.data.toList=l at*
 generalize parts t.data.toList=m at*
 obtain ⟨a1,c1,f1⟩:=own_form ho1
 obtain ⟨a2,c2,f2⟩:=own_form ho2
 subst f1
 subst f2
 have HF:=Lib.hid hfin
 have HK:=Lib.hid (hk1.trans hk2 (fun _ _ h=>h))
 clear hfin hk1 hk2 es et
 go_wp2_with fail
 go_loopw [7] (fun v7 wr=>∃ i:Nat,v7=.int .i64 (i:Int)∧(i≤l.length∨i≤m.length)∧cmpP (l.drop i) (m.drop i)=cmpP l m∧Kept (fun _=>False) w2 wr) (fun v7 _=>(l.length+m.length) - (intOf v7).toNat)
 case atStart=>exact ⟨0,rfl,.inl (Nat.zero_le _),rfl,Kept.refl _ _⟩
 case round=>
  obtain ⟨i,rfl,hi,hc,hkr⟩:=hrel
  have ho1:=hkr.owns ho1 (fun _ _ h=>h)
  have ho2:=hkr.owns ho2 (fun _ _ h=>h)
  have HC:=Lib.hid hc
  clear hc
  by_cases hex:i<l.length∨i<m.length
  · have hlk:l.length≤1000000:=by omega
    have hmk:m.length≤1000000:=by omega
    have hik:i≤1000000:=by omega
    have hst:=cmp_at l m i hw1 hw2 hex
    rw[HC.out] at hst
    by_cases b1:below (ptAt l i) (ptAt m i)=true
    · rw[if_pos b1,HF.out] at hst
      have HS:=Lib.hid hst
      clear hst
      by_cases h1:i<l.length
      · go_wp2_with (first
         |(go_at_call 221;(first|(with_reducible refine (at_any w.heap.size _ l i _ ho1 hlk hik).mono ?_)|(with_reducible refine (at_any w1.heap.size _ m i _ ho2 hmk hik).mono ?_));rintro e w' ⟨rfl,hk⟩;have ho1:=hk.owns ho1 (fun _ _ h=>h);have ho2:=hk.owns ho2 (fun _ _ h=>h);have hkr:=hkr.trans hk (fun _ _ h=>h);clear hk)
         |(go_at_call 220;refine (below_any _ _ _).mono ?_;rintro e w' ⟨rfl,hk⟩;have ho1:=hk.owns ho1 (fun _ _ h=>h);have ho2:=hk.owns ho2 (fun _ _ h=>h);have hkr:=hkr.trans hk (fun _ _ h=>h);clear hk))
        go_ret
        exact ⟨by rw[HS.out];rfl,HK.out.trans hkr (fun _ _ h=>h)⟩
      · have h2:i<m.length:=by omega
        go_wp2_with (first
         |(go_at_call 221;(first|(with_reducible refine (at_any w.heap.size _ l i _ ho1 hlk hik).mono ?_)|(with_reducible refine (at_any w1.heap.size _ m i _ ho2 hmk hik).mono ?_));rintro e w' ⟨rfl,hk⟩;have ho1:=hk.owns ho1 (fun _ _ h=>h);have ho2:=hk.owns ho2 (fun _ _ h=>h);have hkr:=hkr.trans hk (fun _ _ h=>h);clear hk)
         |(go_at_call 220;refine (below_any _ _ _).mono ?_;rintro e w' ⟨rfl,hk⟩;have ho1:=hk.owns ho1 (fun _ _ h=>h);have ho2:=hk.owns ho2 (fun _ _ h=>h);have hkr:=hkr.trans hk (fun _ _ h=>h);clear hk))
        go_ret
        exact ⟨by rw[HS.out];rfl,HK.out.trans hkr (fun _ _ h=>h)⟩
    · have b1':below (ptAt l i) (ptAt m i)=false:=by simpa using b1
      rw[if_neg b1] at hst
      clear b1
      by_cases b2:below (ptAt m i) (ptAt l i)=true
      · rw[if_pos b2,HF.out] at hst
        have HS:=Lib.hid hst
        clear hst
        by_cases h1:i<l.length
        · go_wp2_with (first
           |(go_at_call 221;(first|(with_reducible refine (at_any w.heap.size _ l i _ ho1 hlk hik).mono ?_)|(with_reducible refine (at_any w1.heap.size _ m i _ ho2 hmk hik).mono ?_));rintro e w' ⟨rfl,hk⟩;have ho1:=hk.owns ho1 (fun _ _ h=>h);have ho2:=hk.owns ho2 (fun _ _ h=>h);have hkr:=hkr.trans hk (fun _ _ h=>h);clear hk)
           |(go_at_call 220;refine (below_any _ _ _).mono ?_;rintro e w' ⟨rfl,hk⟩;have ho1:=hk.owns ho1 (fun _ _ h=>h);have ho2:=hk.owns ho2 (fun _ _ h=>h);have hkr:=hkr.trans hk (fun _ _ h=>h);clear hk))
          go_ret
          exact ⟨by rw[HS.out];rfl,HK.out.trans hkr (fun _ _ h=>h)⟩
        · have h2:i<m.length:=by omega
          go_wp2_with (first
           |(go_at_call 221;(first|(with_reducible refine (at_any w.heap.size _ l i _ ho1 hlk hik).mono ?_)|(with_reducible refine (at_any w1.heap.size _ m i _ ho2 hmk hik).mono ?_));rintro e w' ⟨rfl,hk⟩;have ho1:=hk.owns ho1 (fun _ _ h=>h);have ho2:=hk.owns ho2 (fun _ _ h=>h);have hkr:=hkr.trans hk (fun _ _ h=>h);clear hk)
           |(go_at_call 220;refine (below_any _ _ _).mono ?_;rintro e w' ⟨rfl,hk⟩;have ho1:=hk.owns ho1 (fun _ _ h=>h);have ho2:=hk.owns ho2 (fun _ _ h=>h);have hkr:=hkr.trans hk (fun _ _ h=>h);clear hk))
          go_ret
          exact ⟨by rw[HS.out];rfl,HK.out.trans hkr (fun _ _ h=>h)⟩
      · rw[if_neg b2] at hst
        have b2':below (ptAt m i) (ptAt l i)=false:=by simpa using b2
        clear b2
        have HS:=Lib.hid hst
        clear hst
        by_cases h1:i<l.length
        · go_wp2_with (first
           |(go_at_call 221;(first|(with_reducible refine (at_any w.heap.size _ l i _ ho1 hlk hik).mono ?_)|(with_reducible refine (at_any w1.heap.size _ m i _ ho2 hmk hik).mono ?_));rintro e w' ⟨rfl,hk⟩;have ho1:=hk.owns ho1 (fun _ _ h=>h);have ho2:=hk.owns ho2 (fun _ _ h=>h);have hkr:=hkr.trans hk (fun _ _ h=>h);clear hk)
           |(go_at_call 220;refine (below_any _ _ _).mono ?_;rintro e w' ⟨rfl,hk⟩;have ho1:=hk.owns ho1 (fun _ _ h=>h);have ho2:=hk.owns ho2 (fun _ _ h=>h);have hkr:=hkr.trans hk (fun _ _ h=>h);clear hk))
          go_roundw
          case rel=>exact ⟨i+1,by go_num,by omega,HS.out.symm,hkr⟩
          case measure=>simp[intOf];omega
        · have h2:i<m.length:=by omega
          go_wp2_with (first
           |(go_at_call 221;(first|(with_reducible refine (at_any w.heap.size _ l i _ ho1 hlk hik).mono ?_)|(with_reducible refine (at_any w1.heap.size _ m i _ ho2 hmk hik).mono ?_));rintro e w' ⟨rfl,hk⟩;have ho1:=hk.owns ho1 (fun _ _ h=>h);have ho2:=hk.owns ho2 (fun _ _ h=>h);have hkr:=hkr.trans hk (fun _ _ h=>h);clear hk)
           |(go_at_call 220;refine (below_any _ _ _).mono ?_;rintro e w' ⟨rfl,hk⟩;have ho1:=hk.owns ho1 (fun _ _ h=>h);have ho2:=hk.owns ho2 (fun _ _ h=>h);have hkr:=hkr.trans hk (fun _ _ h=>h);clear hk))
          go_roundw
          case rel=>exact ⟨i+1,by go_num,by omega,HS.out.symm,hkr⟩
          case measure=>simp[intOf];omega
  · have h1:¬ i<l.length:=by omega
    have h2:¬ i<m.length:=by omega
    have hz:cmpP l m=0:=by
     rw[← HC.out,List.drop_eq_nil_of_le (by omega:l.length≤i),List.drop_eq_nil_of_le (by omega:m.length≤i)]
     rfl
    rw[HF.out] at hz
    have HS:=Lib.hid hz
    clear hz hex
    go_wp2
    go_ret
    exact ⟨by rw[HS.out];rfl,HK.out.trans hkr (fun _ _ h=>h)⟩
end
end Go.Proofs.YtkoiocpnikiolaaGreatDoor
