/-
  The texts Rune6, Ref04Tx, Evr3a, Num3, Flat, Text6. Conditions: as each theorem states.
-/
import Derived.Test.YtkoiocpnikiolaaGreatDoorK04
import Derived.Laws.Runes
import Derived.WalkMore
import Derived.Laws.RangeAny
import Derived.Lib.OthersKept
import Derived.Handy
import Derived.Lib.Hide
import Derived.LoopN
import Derived.Test.YtkoiocpnikiolaaGreatDoorRows
import Derived.Shelf.Strconv.Itoa3
import Derived.Shelf.Strconv.AtoiAll
import Derived.Shelf.Strconv.ErrVarAll
import Derived.Lib.AppendIntMem
import Derived.Lib.LaidTab
import Derived.WalkKit
import Derived.OpenShut
import Derived.ChangeArms
import Derived.LaidSub
import Derived.FnData
import Derived.Deep.CutRange
import Derived.BigQuiet
import Derived.Deep.QuietTactic
import Derived.Deep.CutBlock
set_option maxRecDepth 100000
set_option maxHeartbeats 16000000
namespace Go.Proofs.YtkoiocpnikiolaaGreatDoor
section
open Go.RowKit Ver Evr Dep
abbrev signs9:ByteArray:=⟨#[46,95,43,45,47,58,64,126,94]⟩
theorem signs_low:∀ (pos:Nat) (h:pos<signs9.size),(signs9[pos]'h).toNat<128:=by decide
theorem signs_all:∀ b∈signs9.data.toList,b.toNat<128:=by decide
theorem sign_none (a e:Nat) (c:UInt8) (hc:128≤c.toNat):Lib.indexByte (signs9.extract a e).data.toList c= -1:=by
 rw[← Lib.firstIdx_eq]
 exact firstIdx_ascii signs9 a e c signs_all hc
theorem rune_low (b:UInt8) (hb:b.toNat<128) (w:World):
  Calls Tryz.prog 205 #[.string signs9,.int .i32 (b.toNat:Int)] w fun e w'=>e=.returned (.int .i64 (Lib.indexByte signs9.data.toList b))∧w'=w:=
 (sh_strings_IndexRune_ascii signs9 (b.toNat:Int) w (by omega) (by omega)).mono fun e w' ⟨h1,h2⟩=>⟨by rw[h1];simp,h2⟩
theorem rune_err (w:World):
  Calls Tryz.prog 205 #[.string signs9,.int .i32 65533] w fun e w'=>e=.returned (.int .i64 (-1))∧Kept (fun _=>False) w w':=by
 go_enter Tryz.func205,Tryz.ntmps205
 go_wp2_with fail
 go_loopw [] (fun wr=>∃ pos:Nat,wr=w.iter signs9 pos∧pos≤9) (fun wr=>9 - wr.iterPos w.heap.size)
 case atStart=>exact ⟨0,rfl,by omega⟩
 case round=>
  obtain ⟨pos,rfl,hp⟩:=hrel
  by_cases h:pos<9
  · have hnx:∀ ty,(Instr.next (.pointer (some ⟨w.heap.size,0,none⟩)) true ty).run Tryz.prog (w.iter signs9 pos)=_:=fun ty=>run_next_ascii w signs9 pos ty h (signs_low pos h)
    have hlow:=signs_low pos h
    generalize (signs9[pos]'h).toNat=R at hnx hlow
    have hne:((R:Int)==65533)=false:=by simp;omega
    go_wp2_with fail
    go_roundw
    case rel=>exact ⟨pos+1,rfl,by omega⟩
    case measure=>simp;omega
  · have hnx:∀ ty,(Instr.next (.pointer (some ⟨w.heap.size,0,none⟩)) true ty).run Tryz.prog (w.iter signs9 pos)=_:=fun ty=>run_next_end w signs9 pos ty (by show ¬ pos<9;exact h)
    go_wp2_with fail
    go_ret
    exact ⟨rfl,(Kept.refl _ _).alloc _⟩
theorem rune_bad (r:Int) (h0:128≤r) (he:r≠65533) (hv:Lib.validRune r=false) (w:World):
  Calls Tryz.prog 205 #[.string signs9,.int .i32 r] w fun e w'=>e=.returned (.int .i64 (-1))∧Kept (fun _=>False) w w':=by
 have hV:∀ W,Calls Tryz.prog 226 #[.int .i32 r] W fun e w'=>e=.returned (.bool false)∧w'=W:=fun W=>by
  have:=sh_utf8_ValidRune r W
  rw[hv] at this
  exact this
 have g1:decide (r<128)=false:=by simp;omega
 have g2:(r==65533)=false:=by simp;exact he
 have g3:decide (0≤r)=true:=by simp;omega
 clear hv he
 go_enter Tryz.func205,Tryz.ntmps205
 go_wp2_with (go_at_call 226;with_reducible refine (hV _).mono ?_;rintro e w1 ⟨rfl,rfl⟩)
 go_ret
 exact ⟨rfl,Kept.refl _ _⟩
theorem rune_high (r:Int) (h0:128≤r) (he:r≠65533) (hv:Lib.validRune r=true) (w:World):
  Calls Tryz.prog 205 #[.string signs9,.int .i32 r] w fun e w'=>e=.returned (.int .i64 (-1))∧Kept (fun _=>False) w w':=by
 have hV:∀ W,Calls Tryz.prog 226 #[.int .i32 r] W fun e w'=>e=.returned (.bool true)∧w'=W:=fun W=>by
  have:=sh_utf8_ValidRune r W
  rw[hv] at this
  exact this
 obtain ⟨hs2,hs4,hlast⟩:=encode_facts r (by rw[validRune_eq];exact hv) h0
 have hconv:∀ W,(convert 21 9 (.int .i32 r)).run Tryz.prog W=.ok (.string (Utf8.encode r)) W:=fun W=>run_convert_int_string W _ _ _ _ (by kernel_rfl) Tryz.underlying9
 generalize Utf8.encode r=E at hconv hs2 hs4 hlast
 have g1:decide (r<128)=false:=by simp;omega
 have g2:(r==65533)=false:=by simp;exact he
 have g3:decide (0≤r)=true:=by simp;omega
 have hI:∀ (a e:Nat) (c:UInt8) (_:128≤c.toNat) (W:World),Calls Tryz.prog 206 #[.string (signs9.extract a e),.int .u8 (c.toNat:Int)] W fun e w'=>e=.returned (.int .i64 (-1))∧w'=W:=fun a e c hc W=>
  (sh_strings_IndexByte (signs9.extract a e) (c.toNat:Int) W).mono fun e' w' ⟨h1,h2⟩=>⟨by rw[h1];simp only[Int.toNat_natCast,Nat.toUInt8_eq,UInt8.ofNat_toNat];rw[sign_none a e c hc],h2⟩
 clear hv he
 obtain ⟨c,hc⟩:∃ c,c=E[E.size - 1]'(by omega):=⟨_,rfl⟩
 have hcl:128≤c.toNat:=by rw[hc];exact hlast _
 have hI2:=fun a e W=>hI a e c hcl W
 have HI:=Lib.hid hI2
 have hsz:E.size=2∨E.size=3∨E.size=4:=by omega
 clear hlast hI hI2
 have hn1:(((signs9[1]'(by decide)).toNat:Int)!=(c.toNat:Int))=true:=by
  rw[show (signs9[1]'(by decide))=95 from rfl]
  simp
  omega
 have hn2:(((signs9[2]'(by decide)).toNat:Int)!=(c.toNat:Int))=true:=by
  rw[show (signs9[2]'(by decide))=43 from rfl]
  simp
  omega
 have hn3:(((signs9[3]'(by decide)).toNat:Int)!=(c.toNat:Int))=true:=by
  rw[show (signs9[3]'(by decide))=45 from rfl]
  simp
  omega
 have hS2:∀ W,(Instr.slice 9 (.string signs9) (some (.int .i64 2)) none none).run Tryz.prog W=.ok (.string (signs9.extract 2 9)) W:=fun W=>by kernel_rfl
 have hS3:∀ W,(Instr.slice 9 (.string signs9) (some (.int .i64 3)) none none).run Tryz.prog W=.ok (.string (signs9.extract 3 9)) W:=fun W=>by kernel_rfl
 have hS4:∀ W,(Instr.slice 9 (.string signs9) (some (.int .i64 4)) none none).run Tryz.prog W=.ok (.string (signs9.extract 4 9)) W:=fun W=>by kernel_rfl
 have hw2:IntKind.i64.wrap 2=2:=by kernel_rfl
 have hw3:IntKind.i64.wrap 3=3:=by kernel_rfl
 have hw4:IntKind.i64.wrap 4=4:=by kernel_rfl
 rcases hsz with h2|h2|h2
 · have hc':E[1]'(by omega)=c:=by rw[hc];simp[h2]
   clear hc
   go_enter Tryz.func205,Tryz.ntmps205
   go_wp2_with (first|(go_at_call 226;with_reducible refine (hV _).mono ?_;rintro e w1 ⟨rfl,rfl⟩)|fail)
   go_step3
   go_wp2_with fail
   refine wp_loop_rounds 1 ?_
   rw[rounds_succ]
   go_wp2_with fail
   go_step3
   go_wp2_with fail
   go_quiet (fail)
   have hk:=(Kept.refl (fun _=>False) w1).drewN nq
   generalize w1.drewN nq=w2 at hk ⊢
   go_wp2_with fail
   go_quiet ((go_at_call 206;exact Calls.quiet_of_same (HI.out _ _ _)))
   go_wp2_with fail
   simp only[Exit.inBlock,Exit.then,Exit.noGoto_ret]
   go_ret
   exact ⟨rfl,hk.drewN _⟩
 · have hc':E[2]'(by omega)=c:=by rw[hc];simp[h2]
   clear hc
   go_enter Tryz.func205,Tryz.ntmps205
   go_wp2_with (first|(go_at_call 226;with_reducible refine (hV _).mono ?_;rintro e w1 ⟨rfl,rfl⟩)|fail)
   go_step3
   go_wp2_with fail
   refine wp_loop_rounds 1 ?_
   rw[rounds_succ]
   go_wp2_with fail
   go_step3
   go_wp2_with fail
   go_quiet (fail)
   have hk:=(Kept.refl (fun _=>False) w1).drewN nq
   generalize w1.drewN nq=w2 at hk ⊢
   go_wp2_with fail
   go_quiet ((go_at_call 206;exact Calls.quiet_of_same (HI.out _ _ _)))
   go_wp2_with fail
   simp only[Exit.inBlock,Exit.then,Exit.noGoto_ret]
   go_ret
   exact ⟨rfl,hk.drewN _⟩
 · have hc':E[3]'(by omega)=c:=by rw[hc];simp[h2]
   clear hc
   go_enter Tryz.func205,Tryz.ntmps205
   go_wp2_with (first|(go_at_call 226;with_reducible refine (hV _).mono ?_;rintro e w1 ⟨rfl,rfl⟩)|fail)
   go_step3
   go_wp2_with fail
   refine wp_loop_rounds 1 ?_
   rw[rounds_succ]
   go_wp2_with fail
   go_step3
   go_wp2_with fail
   go_quiet (fail)
   have hk:=(Kept.refl (fun _=>False) w1).drewN nq
   generalize w1.drewN nq=w2 at hk ⊢
   go_wp2_with fail
   go_quiet ((go_at_call 206;exact Calls.quiet_of_same (HI.out _ _ _)))
   go_wp2_with fail
   simp only[Exit.inBlock,Exit.then,Exit.noGoto_ret]
   go_ret
   exact ⟨rfl,hk.drewN _⟩
theorem index_sign9:∀ b:UInt8,decide (0≤Lib.indexByte signs9.data.toList b)=(decide (b.toNat=46)||decide (b.toNat=95)||decide (b.toNat=43)||decide (b.toNat=45)||decide (b.toNat=47)||decide (b.toNat=58)||decide (b.toNat=64)||decide (b.toNat=126)||decide (b.toNat=94)):=by
 intro b
 have key:((List.range 256).all fun n=>decide (0≤Lib.indexByte signs9.data.toList (UInt8.ofNat n))==(decide (n=46)||decide (n=95)||decide (n=43)||decide (n=45)||decide (n=47)||decide (n=58)||decide (n=64)||decide (n=126)||decide (n=94)))=true:=by kernel_rfl
 have h:=List.all_eq_true.1 key b.toNat (List.mem_range.2 (UInt8.toNat_lt b))
 have hb:UInt8.ofNat b.toNat=b:=by simp
 rw[hb] at h
 simpa using h
theorem contains_low (b:UInt8) (hb:b.toNat<128) (w:World):
  Calls Tryz.prog 181 #[.string signs9,.int .i32 (b.toNat:Int)] w fun e w'=>e=.returned (.bool (decide (0≤Lib.indexByte signs9.data.toList b)))∧w'=w:=by
 have hR:=fun W=>rune_low b hb W
 generalize Lib.indexByte signs9.data.toList b=ix at*
 go_enter Tryz.func181,Tryz.ntmps181
 go_wp2_with (go_at_call 205;with_reducible refine (hR _).mono ?_;rintro e w1 ⟨rfl,rfl⟩)
 go_ret
 exact ⟨rfl,rfl⟩
theorem contains_high (r:Int) (h0:128≤r) (w:World):
  Calls Tryz.prog 181 #[.string signs9,.int .i32 r] w fun e w'=>e=.returned (.bool false)∧Kept (fun _=>False) w w':=by
 have hR:∀ W,Calls Tryz.prog 205 #[.string signs9,.int .i32 r] W fun e w'=>e=.returned (.int .i64 (-1))∧Kept (fun _=>False) W w':=fun W=>by
  by_cases he:r=65533
  · subst he;exact rune_err W
  · cases hv:Lib.validRune r with
    |true=>exact rune_high r h0 he hv W
    |false=>exact rune_bad r h0 he hv W
 clear h0
 go_enter Tryz.func181,Tryz.ntmps181
 go_wp2_with (go_at_call 205;with_reducible refine (hR _).mono ?_;rintro e w1 ⟨rfl,hk⟩)
 go_ret
 exact ⟨rfl,hk⟩
theorem mayRune_low (b:UInt8) (hb:b.toNat<128) (w:World):
  Calls Tryz.prog 150 #[.int .i32 (b.toNat:Int)] w fun e w'=>e=.returned (.bool (signD b))∧w'=w:=by
 by_cases c3:(97≤b.toNat∧b.toNat≤122)∨(65≤b.toNat∧b.toNat≤90)∨(48≤b.toNat∧b.toNat≤57)
 · have fin:=Lib.hid (show signD b=true by unfold signD okB;simp;omega)
   rcases c3 with ⟨a1,a2⟩|⟨a1,a2⟩|⟨a1,a2⟩
   all_goals
    go_enter Tryz.func150,Tryz.ntmps150
    go_wp2_with fail
    go_ret
    exact ⟨by rw[fin.out];rfl,rfl⟩
 · have hI:=fun W=>contains_low b hb W
   have h1:=index_sign9 b
   have fin:=Lib.hid (show signD b=decide (0≤Lib.indexByte signs9.data.toList b) by
    rw[h1,Bool.eq_iff_iff]
    unfold signD okB
    simp
    omega)
   have hc:b.toNat<48∨(57<b.toNat∧b.toNat<65)∨(90<b.toNat∧b.toNat<97)∨122<b.toNat:=by omega
   generalize Lib.indexByte signs9.data.toList b=ix at*
   clear h1 c3 hb
   rcases hc with hc|⟨hc,hd⟩|⟨hc,hd⟩|hc
   all_goals
    go_enter Tryz.func150,Tryz.ntmps150
    go_wp2_with (go_at_call 181;with_reducible refine (hI _).mono ?_;rintro e w1 ⟨rfl,rfl⟩)
    go_ret
    exact ⟨by rw[fin.out];rfl,rfl⟩
theorem mayRune_high (r:Int) (h0:128≤r) (w:World):
  Calls Tryz.prog 150 #[.int .i32 r] w fun e w'=>e=.returned (.bool false)∧Kept (fun _=>False) w w':=by
 have hI:=fun W=>contains_high r h0 W
 go_enter Tryz.func150,Tryz.ntmps150
 go_wp2_with (go_at_call 181;with_reducible refine (hI _).mono ?_;rintro e w1 ⟨rfl,hk⟩)
 go_ret
 exact ⟨rfl,hk⟩
end
section
open Go.RowKit Span Evr
theorem op_cases (o:Nat):o=0∨o=1∨o=2∨o=3∨o=4∨o=6∨(((o:Int)==0)=false∧((o:Int)==1)=false∧((o:Int)==2)=false∧((o:Int)==3)=false∧((o:Int)==4)=false∧((o:Int)==6)=false∧mayO o=false∧textO o=⟨#[]⟩):=by
 by_cases h:o=0∨o=1∨o=2∨o=3∨o=4∨o=6
 · omega
 · refine .inr (.inr (.inr (.inr (.inr (.inr ⟨?_,?_,?_,?_,?_,?_,?_,?_⟩)))))
   all_goals first|(simp;omega;done)|(simp [mayO];omega;done)|(unfold textO;split<;>first|omega|rfl)
theorem may4 (o:Nat) (ho:o<256) (w:World):Calls Tryz.prog 162 #[.int .u8 (o:Int)] w fun e w'=>e=.returned (.bool (mayO o))∧Kept (fun _=>False) w w':=by
 rcases op_cases o with rfl|rfl|rfl|rfl|rfl|rfl|⟨g0,g1,g2,g3,g4,g6,hm,ht⟩
 all_goals go_enter Tryz.func162,Tryz.ntmps162
 all_goals go_wp2_with fail
 all_goals go_ret
 all_goals first|exact ⟨rfl,Kept.refl _ _⟩|exact ⟨by rw[hm];rfl,Kept.refl _ _⟩
end
section
open Go.RowKit Ver Evr
theorem mayByte_walk (b:UInt8) (w:World):
  Calls Tryz.prog 183 #[.int .u8 (b.toNat:Int)] w fun e w'=>e=.returned (.bool (okB b))∧w=w':=by
 have hb:b.toNat<256:=UInt8.toNat_lt b
 by_cases c3:(97≤b.toNat∧b.toNat≤122)∨(65≤b.toNat∧b.toNat≤90)∨(48≤b.toNat∧b.toNat≤57)
 · have fin:=Lib.hid (show okB b=true by unfold okB;simp;omega)
   rcases c3 with ⟨a1,a2⟩|⟨a1,a2⟩|⟨a1,a2⟩
   all_goals
    go_enter Tryz.func183,Tryz.ntmps183
    go_wp2_with fail
    go_ret
    exact ⟨by rw[fin.out];rfl,rfl⟩
 · have hI:=fun W=>index_sign b W
   have h1:=sign_index b
   have fin:=Lib.hid (show okB b=decide (0≤Lib.indexByte [46,95,43,126,94] b) by
    rw[h1]
    unfold okB
    have e1:decide (97≤b.toNat∧b.toNat≤122)=false:=by simp;omega
    have e2:decide (65≤b.toNat∧b.toNat≤90)=false:=by simp;omega
    have e3:decide (48≤b.toNat∧b.toNat≤57)=false:=by simp;omega
    rw[e1,e2,e3]
    simp)
   have hc:b.toNat<48∨(57<b.toNat∧b.toNat<65)∨(90<b.toNat∧b.toNat<97)∨122<b.toNat:=by omega
   generalize Lib.indexByte [46,95,43,126,94] b=ix at*
   clear h1 c3
   rcases hc with hc|⟨hc,hd⟩|⟨hc,hd⟩|hc
   all_goals
    go_enter Tryz.func183,Tryz.ntmps183
    go_wp2_with (first|(go_at_call 206;with_reducible refine (hI _).mono ?_;rintro e w1 ⟨rfl,rfl⟩)|fail)
    go_ret
    exact ⟨by rw[fin.out];rfl,rfl⟩
theorem word_long {s:List UInt8} (h:64<s.length):wordE s=false:=by
 unfold wordE
 rw[show decide (s.length≤64)=false by simp;omega]
 simp
theorem word_all {s:List UInt8} (h1:1≤s.length) (h2:s.length≤64) (h:s.all okB=true):wordE s=true:=by
 unfold wordE
 rw[h]
 simp[h1,h2]
theorem mayText_walk (s:ByteArray) (w:World):
  Calls Tryz.prog 152 #[.string s] w fun e w'=>e=.returned (.bool (wordE s.data.toList))∧w=w':=by
 by_cases h0:s=⟨#[]⟩
 · subst h0
   go_enter Tryz.func152,Tryz.ntmps152
   go_wp2_with fail
   go_ret
   exact ⟨rfl,rfl⟩
 · obtain ⟨b1,b2⟩:=text_ne h0
   have hsl:s.data.toList.length=s.size:=rfl
   have hs1:1≤s.size:=by
    rcases Nat.eq_zero_or_pos s.size with h|h
    · exact absurd (empty_text.1 (List.eq_nil_of_length_eq_zero (by rw[hsl];exact h))) h0
    · exact h
   clear h0
   by_cases h1:64<s.size
   · have HN:=Lib.hid (@word_long s.data.toList (by rw[hsl];exact h1))
     have h1':(64:Int)<(s.size:Int):=by omega
     clear hsl
     go_enter Tryz.func152,Tryz.ntmps152
     go_wp2_with fail
     go_ret
     exact ⟨by rw[HN.out];rfl,rfl⟩
   · have h1':¬ (64:Int)<(s.size:Int):=by omega
     have HY:=Lib.hid (fun h=>@word_all s.data.toList (by rw[hsl];exact hs1) (by rw[hsl];omega) h)
     have HSL:=Lib.hid hsl
     clear hsl
     go_enter Tryz.func152,Tryz.ntmps152
     go_wp2_with fail
     go_loop [13] (fun v=>∃ i:Nat,v=.int .i64 (i:Int)∧i≤s.size∧(s.data.toList.take i).all okB=true) (fun v=>s.size - (intOf v).toNat)
     case atStart=>exact ⟨0,rfl,Nat.zero_le _,rfl⟩
     case round=>
      obtain ⟨i,rfl,hi,ha⟩:=hrel
      have HA:=Lib.hid ha
      clear ha
      by_cases hlt:i<s.size
      · obtain ⟨c,hc⟩:∃ c,c=s[i]:=⟨_,rfl⟩
        have HCL:=Lib.hid (char_at hlt hc)
        have hc':s[i]=c:=hc.symm
        have hM:=fun W=>mayByte_walk c W
        clear hc
        cases hok:okB c with
        |true=>
         rw[hok] at hM
         have HOK:=Lib.hid hok
         clear hok
         go_wp2_with (first|(go_at_call 183;with_reducible refine (hM _).mono ?_;rintro e w1 ⟨rfl,rfl⟩)|fail)
         go_round
         case rel=>exact ⟨i+1,by go_num,by omega,take_ok HA.out HCL.out HOK.out⟩
         case measure=>simp[intOf];omega
        |false=>
         rw[hok] at hM
         have HN:=Lib.hid (word_not HCL.out hok)
         clear hok
         go_wp2_with (first|(go_at_call 183;with_reducible refine (hM _).mono ?_;rintro e w1 ⟨rfl,rfl⟩)|fail)
         go_ret
         exact ⟨by rw[HN.out];rfl,rfl⟩
      · obtain rfl:i=s.size:=by omega
        have HF:=Lib.hid (HY.out (by have:=HA.out;rwa [List.take_of_length_le (by rw[HSL.out];exact Nat.le_refl _)] at this))
        go_wp2_with fail
        go_ret
        exact ⟨by rw[HF.out];rfl,rfl⟩
theorem mayK_walk (n:Int) (v r:ByteArray) (dep:Bool) (w:World):
  Calls Tryz.prog 114 #[.agg #[.int .i64 n,.string v,.string r],.bool dep] w fun e w'=>e=.returned (.bool (mayE (evrE n v r) dep))∧Kept (fun _=>False) w w':=by
 have W1:=fun w=>mayText_walk v w
 have W2:=fun w=>mayText_walk r w
 by_cases h0:n<0
 · have HN:=Lib.hid (@may_low n v r dep (.inl h0))
   have g0:decide (n<0)=true:=by simp[h0]
   clear h0
   go_enter Tryz.func114,Tryz.ntmps114
   go_wp2_with fail
   go_ret
   exact ⟨by rw[HN.out];rfl,(Kept.refl _ _).alloc _⟩
 · by_cases h1:2147483647<n
   · have HN:=Lib.hid (@may_low n v r dep (.inr h1))
     have g0:decide (n<0)=false:=by simp;omega
     have g1:decide (2147483647<n)=true:=by simp[h1]
     clear h1 h0
     go_enter Tryz.func114,Tryz.ntmps114
     go_wp2_with fail
     go_ret
     exact ⟨by rw[HN.out];rfl,(Kept.refl _ _).alloc _⟩
   · have g0:decide (n<0)=false:=by simp;omega
     have g1:decide (2147483647<n)=false:=by simp;omega
     by_cases hw:wordE v.data.toList=true
     · by_cases hr0:r=⟨#[]⟩
       · subst hr0
         have HN:=Lib.hid (@may_dep n v dep (by omega) (by omega) hw)
         rw[hw] at W1
         rw[show wordE (⟨#[]⟩:ByteArray).data.toList=false from rfl] at W2
         clear h1 h0 hw
         cases dep
         all_goals
          go_enter Tryz.func114,Tryz.ntmps114
          go_wp2_with (first|(go_at_call 152;(first|(with_reducible refine (W1 _).mono ?_)|(with_reducible refine (W2 _).mono ?_));rintro e w1 ⟨rfl,rfl⟩)|fail)
          go_ret
          exact ⟨by rw[HN.out];rfl,(Kept.refl _ _).alloc _⟩
       · have HN:=Lib.hid (@may_rel n v r dep (by omega) (by omega) hw hr0)
         obtain ⟨b1,b2⟩:=text_ne hr0
         rw[hw] at W1
         clear h1 h0 hw hr0
         generalize wordE r.data.toList=wr at W2 HN
         cases wr
         all_goals
          cases dep
          all_goals
           go_enter Tryz.func114,Tryz.ntmps114
           go_wp2_with (first|(go_at_call 152;(first|(with_reducible refine (W1 _).mono ?_)|(with_reducible refine (W2 _).mono ?_));rintro e w1 ⟨rfl,rfl⟩)|fail)
           go_ret
           exact ⟨by rw[HN.out];rfl,(Kept.refl _ _).alloc _⟩
     · have hw':wordE v.data.toList=false:=by simpa using hw
       have HN:=Lib.hid (@may_ver n v r dep hw')
       rw[hw'] at W1
       clear h1 h0 hw hw'
       go_enter Tryz.func114,Tryz.ntmps114
       go_wp2_with (first|(go_at_call 152;with_reducible refine (W1 _).mono ?_;rintro e w1 ⟨rfl,rfl⟩)|fail)
       go_ret
       exact ⟨by rw[HN.out];rfl,(Kept.refl _ _).alloc _⟩
end
section
open Go.Shelf
open Go.RowKit Evr
structure LibW (w:World):Prop where
 pow:Lib.TabIs Tryz.prog w "internal/strconv.uint64pow10" .u64 Lib.pow10Tab
 syn:∃ tp p,w.var? Tryz.prog "strconv.ErrSyntax" =some #[.iface tp p]
 rng:∃ tp p,w.var? Tryz.prog "strconv.ErrRange" =some #[.iface tp p]
theorem var_kept {w w':World} {n:String} {cs:Array Value} (h:w.var? Tryz.prog n=some cs) (k:Kept (fun _=>False) w w'):w'.var? Tryz.prog n=some cs:=by
 unfold World.var? at h ⊢
 cases hg:Tryz.prog.globalNamed n with
 |none=>rw[hg] at h;cases h
 |some g=>
  rw[hg] at h
  simp only[Option.bind_some] at h ⊢
  have hlt:g<w.heap.size:=by
   by_cases hl:g<w.heap.size
   · exact hl
   · rw[Array.getElem?_eq_none (by omega)] at h;cases h
  rw[k.block g hlt (fun h=>h)]
  exact h
theorem LibW.kept {w w':World} (h:LibW w) (k:Kept (fun _=>False) w w'):LibW w':=by
 obtain ⟨t1,p1,h1⟩:=h.syn
 obtain ⟨t2,p2,h2⟩:=h.rng
 exact ⟨var_kept h.pow k,⟨t1,p1,var_kept h1 k⟩,⟨t2,p2,var_kept h2 k⟩⟩
end
section
def cutsB:List (Nat×Nat)→Nat→Nat→Bool
 | [],a,z=>a==z
 |(o,s)::r,a,z=>o==a&&cutsB r (a+s) z
theorem cuts_join (cs:List Value):∀ (l:List (Nat×Nat)) (rs:List (List Value)) (a:Nat),rs.length=l.length→(∀ (i:Nat) (x:Nat×Nat) (r:List Value),l[i]? =some x→rs[i]? =some r→(cs.drop x.1).take x.2=r)→cutsB l a cs.length=true→cs.drop a=rs.flatten
 | [],rs,a,hl,_,hc=>by
   obtain rfl:rs= []:=List.eq_nil_of_length_eq_zero hl
   have:a=cs.length:=by simpa [cutsB] using hc
   subst this
   simp
 |(o,s)::l,[],a,hl,_,_=>by simp at hl
 |(o,s)::l,r::rs,a,hl,hx,hc=>by
  simp only[cutsB,Bool.and_eq_true,beq_iff_eq] at hc
  obtain ⟨rfl,hc⟩:=hc
  have h0:(cs.drop o).take s=r:=hx 0 (o,s) r rfl rfl
  have h1:=cuts_join cs l rs (o+s) (by simpa using hl) (fun i x r hi hr=>hx (i+1) x r (by simpa using hi) (by simpa using hr)) hc
  rw[List.flatten_cons,← h1,← h0,← List.drop_drop,List.take_append_drop]
def flatC {H:Type} (P:Program):Nat→TypeId→DataW H→Option (List Value)
 | 0,_,_=>none
 |n+1,t,d=>
  match P.underlying t,d with
  |some .bool,.lit (.bool b)=>some [.bool b]
  |some (.int k),.lit (.int k' z)=>if k=k' then some [.int k z] else none
  |some .string,.lit (.string l)=>some [.string ⟨l.toArray⟩]
  |some (.array m e),.agg ds=>if ds.length=m∧cutsB ((List.range m).map fun i=>(i*P.cellsOf e,P.cellsOf e)) 0 (P.cellsOf t)=true then (ds.mapM (flatC P n e)).map List.flatten else none
  |some (.struct fs),.agg ds=>if ds.length=fs.size∧cutsB (fs.toList.map fun f=>(f.offset,P.cellsOf f.type)) 0 (P.cellsOf t)=true then ((fs.toList.zip ds).mapM fun x=>flatC P n x.1.type x.2).map List.flatten else none
  | _,_=>none
section
variable {H:Type} {enc:TypeId×Value→H} {P:Program} {w:World} {base:Nat} {sp:Nat→Bool} {held:Bool}
theorem flat_cells:∀ (n:Nat) (t:TypeId) (d:DataW H) (vs:List Value) (fuel:Nat) (cs:List Value) (p:List MemPlace),flatC P n t d=some vs→DataW.trod enc P w base sp held fuel t cs=some (d,p)→cs=vs
 | 0,t,d,vs,fuel,cs,p,h,_=>by simp[flatC] at h
 |n+1,t,d,vs,fuel,cs,p,h,ht=>by
  unfold flatC at h
  split at h
  · rename_i hu
    injection h with h
    subst h
    cases fuel with
    |zero=>simp[DataW.trod] at ht
    |succ m=>
     unfold DataW.trod at ht
     rw[hu] at ht
     split at ht<;>simp_all
  · rename_i k k' z hu
    split at h
    · rename_i hk
      subst hk
      injection h with h
      subst h
      obtain ⟨z',e1,e2,_⟩:=DataW.trod_int hu ht
      injection e2 with e2 _
      injection e2 with e2
      injection e2 with _ e2
      subst e2
      exact e1
    · cases h
  · rename_i l hu
    injection h with h
    subst h
    obtain ⟨s,e1,e2,_⟩:=DataW.trod_string hu ht
    injection e2 with e2 _
    injection e2 with e2
    injection e2 with e2
    subst e2
    rw[e1]
  · rename_i m e ds hu
    split at h
    · rename_i hc
      obtain ⟨hl,hc⟩:=hc
      obtain ⟨rs,hrs,rfl⟩:=Option.map_eq_some_iff.1 h
      obtain ⟨xs,f,rfl,hx,hcs,hxl,hall⟩:=DataW.trod_array hu ht
      injection hx with hx _
      injection hx with hx
      subst hx
      have hrl:=Lib.mapM_length hrs
      have:=cuts_join cs ((List.range m).map fun i=>(i*P.cellsOf e,P.cellsOf e)) rs 0 (by simp at hrl ⊢;omega) (fun i x r hi hr=>by
       obtain ⟨j,hj,rfl⟩:∃ j,(List.range m)[i]? =some j∧(j*P.cellsOf e,P.cellsOf e)=x:=by simpa using hi
       obtain ⟨him,hj⟩:=List.getElem?_eq_some_iff.1 hj
       simp at him hj
       subst hj
       have hxi:=hall i him
       obtain ⟨y,hy⟩:∃ y,xs[i]? =some y:=⟨_,List.getElem?_eq_getElem (by omega)⟩
       rw[hy] at hxi
       obtain ⟨b,hb,hf⟩:=Lib.mapM_at hrs i y.1 (by simp[hy])
       obtain rfl:=Option.some.inj (hr.symm.trans hb)
       exact flat_cells n e y.1 _ f _ y.2 hf hxi) (by rw[hcs];exact hc)
      simpa using this
    · cases h
  · rename_i fs ds hu
    split at h
    · rename_i hc
      obtain ⟨hl,hc⟩:=hc
      obtain ⟨rs,hrs,rfl⟩:=Option.map_eq_some_iff.1 h
      obtain ⟨xs,f,rfl,hx,hcs,hxl,hall⟩:=DataW.trod_struct hu ht
      injection hx with hx _
      injection hx with hx
      subst hx
      have hrl:=Lib.mapM_length hrs
      have hxl':xs.length=fs.size:=by simpa using hl
      have:=cuts_join cs (fs.toList.map fun f=>(f.offset,P.cellsOf f.type)) rs 0 (by simp at hrl ⊢;omega) (fun i x r hi hr=>by
       obtain ⟨g,hg,rfl⟩:∃ g,fs.toList[i]? =some g∧(g.offset,P.cellsOf g.type)=x:=by simpa using hi
       have hxi:=hall i g (by simpa using hg)
       obtain ⟨him,_⟩:=List.getElem?_eq_some_iff.1 hg
       simp at him
       obtain ⟨y,hy⟩:∃ y,xs[i]? =some y:=⟨_,List.getElem?_eq_getElem (by omega)⟩
       rw[hy] at hxi
       obtain ⟨b,hb,hf⟩:=Lib.mapM_at hrs i (g,y.1) (List.getElem?_zip_eq_some.2 ⟨hg,by simp[hy]⟩)
       obtain rfl:=Option.some.inj (hr.symm.trans hb)
       exact flat_cells n g.type y.1 _ f _ y.2 hf hxi) (by rw[hcs];exact hc)
      simpa using this
    · cases h
  · cases h
end
theorem laid_cells {P:Program} {W:World} {name:String} {d:DataW Unit} {rest:List (String×DataW Unit)} {g:Nat} {t:TypeId} {vs:List Value} (n:Nat)
  (hg:P.globalNamed name=some g) (hty:(P.globals[g]?).map (·.type)=some t) (hf:flatC P n t d=some vs) (h:laidMet P ((name,d)::rest) W):∀ i,W.cell? ⟨g,i,none⟩=vs[i]? :=by
 obtain ⟨ps,⟨g',t',cs,fuel,p,q,hg',ht',hvar,hd,_,_⟩,_⟩:=h
 obtain rfl:=Option.some.inj (hg.symm.trans hg')
 obtain rfl:=Option.some.inj (hty.symm.trans ht')
 intro i
 rw[World.var?_cell hg hvar i,← flat_cells n t d vs fuel cs.toList p hf hd]
 simp
end
section
open Go.RowKit
theorem texts6_walk (va vb:Value) (xs ys:List ByteArray) (w:World) (hx:xs.length≤1000000) (ha:StrS w va xs) (hb:StrS w vb ys):
  Calls Tryz.prog 14 #[va,vb] w fun e w'=>e=.returned (.bool (decide (xs=ys)))∧Kept (fun _=>False) w w':=by
 obtain ⟨a1,c1,rfl,h1⟩:=ha
 obtain ⟨a2,c2,rfl,h2⟩:=hb
 by_cases hl:xs.length=ys.length
 · have hne:((xs.length:Int)!=(ys.length:Int))=false:=by simp[hl]
   have HL:=Lib.hid hl
   have H1:=Lib.hid h1
   have H2:=Lib.hid h2
   clear h1 h2 hl
   go_enter Tryz.func14,Tryz.ntmps14
   go_wp2_with fail
   go_loopw [5] (fun v5 wr=>∃ i:Nat,v5=.int .i64 (i:Int)∧i≤xs.length∧xs.take i=ys.take i∧Kept (fun _=>False) w wr) (fun v5 _=>xs.length - (intOf v5).toNat)
   case atStart=>exact ⟨0,rfl,Nat.zero_le _,rfl,Kept.refl _ _⟩
   case round=>
    obtain ⟨i,rfl,hi,ht,hk⟩:=hrel
    have HT:=Lib.hid ht
    clear ht
    by_cases hlt:i<xs.length
    · obtain ⟨u,hu⟩:∃ u,xs[i]? =some u:=⟨_,List.getElem?_eq_getElem hlt⟩
      obtain ⟨t,ht⟩:∃ t,ys[i]? =some t:=⟨_,List.getElem?_eq_getElem (by have:=HL.out;omega)⟩
      obtain ⟨p1,e1,g1,l1⟩:=H1.out i u hu
      obtain ⟨p2,e2,g2,l2⟩:=H2.out i t ht
      have hstep:=take_more hu ht HT.out
      have k1:=(hk.cell (p:=p1.add i) (by rw[add_block];exact l1) (fun h=>h)).trans g1
      have k2:=(hk.cell (p:=p2.add i) (by rw[add_block];exact l2) (fun h=>h)).trans g2
      have HS:=Lib.hid hstep
      clear hstep hu ht g1 g2
      subst e1
      subst e2
      have hlt2:i<ys.length:=by have:=HL.out;omega
      have d1:=(show wr.drew.cell? (p1.add i)=some (.string u) from k1)
      have d2:=(show wr.drew.cell? (p2.add i)=some (.string t) from k2)
      by_cases hut:u=t
      · have hb:(u.toList==t.toList)=true:=by rw[hut];simp
        go_wp2_with (go_quiet (fail))
        go_roundw
        case rel=>exact ⟨i+1,by go_num,by omega,HS.out.1 hut,hk.drewN _⟩
        case measure=>simp[intOf];omega
      · have hb:(u.toList==t.toList)=false:=by
         rw[ByteArray.toList_eq,ByteArray.toList_eq,beq_eq_false_iff_ne]
         exact fun e=>hut (Go.WideShapes.bytes_inj e)
        go_wp2_with (go_quiet (fail))
        go_ret
        exact ⟨by rw[decide_eq_false (HS.out.2 hut)];rfl,hk.drewN _⟩
    · go_wp2
      go_ret
      have e:xs=ys:=by
       have:=HT.out
       rw[List.take_of_length_le (by omega),List.take_of_length_le (by have:=HL.out;omega)] at this
       exact this
      exact ⟨by rw[decide_eq_true e];rfl,hk⟩
 · have hne:((xs.length:Int)!=(ys.length:Int))=true:=by simp;omega
   go_enter Tryz.func14,Tryz.ntmps14
   go_wp2
   go_ret
   exact ⟨by rw[decide_eq_false (fun e=>hl (by rw[e]))];rfl,Kept.refl _ _⟩
end
end Go.Proofs.YtkoiocpnikiolaaGreatDoor
