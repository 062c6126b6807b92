/-
  The texts MathDep, Rune6, Evr3a. Conditions: as each theorem states.
-/
import Derived.Test.YtapnddagongljaaGreatDoorK03
import Derived.Lib.SplitLaws
import Derived.Lib.Join
import Derived.Laws.Runes
import Derived.WalkMore
import Derived.Laws.RangeAny
import Derived.Lib.OthersKept
set_option maxRecDepth 100000
set_option maxHeartbeats 16000000
namespace Go.Proofs.YtapnddagongljaaGreatDoor
section
namespace Dep
open Ver Evr Span
def signD (b:UInt8):Bool:=okB b||decide (b.toNat=45)||decide (b.toNat=47)||decide (b.toNat=58)||decide (b.toNat=64)
def noNames:List (List UInt8):= [[97,110,100],[111,114],[105,102],[101,108,115,101],[117,110,108,101,115,115],[119,105,116,104],[119,105,116,104,111,117,116]]
def nameD (s:List UInt8):Bool:=decide (1≤s.length)&&decide (s.length≤64)&& !noNames.contains s&&s.all signD
def fileD (s:List UInt8):Bool:=nameD s&&s.head? ==some 47
structure D where
 name:List UInt8
 op:Nat
 evr:E
def zeroD:E:=⟨0,[],[]⟩
def noE (e:E):Bool:=decide (e.epoch=0)&&decide (e.ver= [])&&decide (e.rel= [])
def mayD (d:D):Bool:=nameD d.name&&mayO d.op&&(if d.op=0 then noE d.evr else !fileD d.name&&mayE d.evr true)
def textL (o:Nat):List UInt8:=(textO o).data.toList
def wordsD (d:D):List (List UInt8):=if d.op=0 then [d.name] else [d.name,textL d.op,showE d.evr]
def threeD (n o v:List UInt8):Option D:=match parseE v with
 |some e=>if (parseL o).2=true∧mayD ⟨n,(parseL o).1,e⟩=true then some ⟨n,(parseL o).1,e⟩ else none
 |none=>none
def ofD:List (List UInt8)→Option D
 | [n]=>if nameD n=true then some ⟨n,0,zeroD⟩ else none
 | [n,o,v]=>threeD n o v
 | _=>none
theorem of_one (n:List UInt8):ofD [n]=if nameD n=true then some ⟨n,0,zeroD⟩ else none:=rfl
theorem noE_iff {e:E}:noE e=true↔e=zeroD:=by
 unfold noE zeroD
 cases e
 simp[and_assoc]
theorem may_any {n:List UInt8} {e:E}:mayD ⟨n,0,e⟩=(nameD n&&noE e):=by
 unfold mayD
 simp[mayO]
theorem may_op {n:List UInt8} {o:Nat} {e:E} (h:o≠0):mayD ⟨n,o,e⟩=(nameD n&&mayO o&&(!fileD n&&mayE e true)):=by
 unfold mayD
 simp[h]
theorem op_back {o:Nat} (h:mayO o=true):parseL (textL o)=(o,true):=by
 have:o=0∨o=1∨o=2∨o=3∨o=4∨o=6:=by
  unfold mayO at h
  simp at h
  omega
 rcases this with rfl|rfl|rfl|rfl|rfl|rfl<;>rfl
theorem of_words {d:D} (h:mayD d=true):ofD (wordsD d)=some d:=by
 obtain ⟨n,o,e⟩:=d
 by_cases h0:o=0
 · subst h0
   rw[may_any,Bool.and_eq_true] at h
   show ofD [n]=_
   rw[of_one,if_pos h.1,noE_iff.1 h.2]
 · have h2:=h
   rw[may_op h0] at h
   simp only[Bool.and_eq_true] at h
   obtain ⟨⟨_,h3⟩,_,h4⟩:=h
   have e1:wordsD ⟨n,o,e⟩= [n,textL o,showE e]:=by unfold wordsD;rw[if_neg h0]
   rw[e1]
   show threeD n (textL o) (showE e)=_
   unfold threeD
   rw[parse_show h4,op_back h3]
   simp[h2]
def okT (b:UInt8):Bool:=signD b||decide (b.toNat=60)||decide (b.toNat=61)||decide (b.toNat=62)
theorem sign_okT {b:UInt8} (h:signD b=true):okT b=true:=by unfold okT;simp[h]
theorem okB_okT {b:UInt8} (h:okB b=true):okT b=true:=sign_okT (by unfold signD;simp[h])
theorem dig_okT {b:UInt8} (h:isDig b=true):okT b=true:=by
 apply okB_okT
 unfold isDig at h
 unfold okB
 simp at h ⊢
 omega
theorem name_parts {n:List UInt8} (h:nameD n=true):1≤n.length∧n.length≤64∧(∀ b∈n,signD b=true):=by
 unfold nameD at h
 simp only[Bool.and_eq_true,decide_eq_true_eq] at h
 exact ⟨h.1.1.1,h.1.1.2,List.all_eq_true.1 h.2⟩
theorem show_ok {e:E} (h:mayE e true=true):∀ b∈showE e,okT b=true:=by
 obtain ⟨_,_,h3,h4⟩:=may_parts h
 intro b hb
 unfold showE at hb
 rcases List.mem_append.1 hb with hb|hb
 · rcases List.mem_append.1 hb with hb|hb
   · split at hb
     · rcases List.mem_append.1 hb with hb|hb
       · exact dig_okT (List.all_eq_true.1 (digits_all _) b hb)
       · have:b=58:=by simpa using hb
         subst this;decide
     · cases hb
   · exact okB_okT ((word_ok h3).1 b hb)
 · split at hb
   · cases hb
   · rename_i hr
     rcases List.mem_cons.1 hb with rfl|hb
     · decide
     · rcases h4 with h4|h4
       · exact absurd h4 hr
       · exact okB_okT ((word_ok h4).1 b hb)
theorem text_ok {o:Nat} (h:mayO o=true):∀ b∈textL o,okT b=true:=by
 have:o=0∨o=1∨o=2∨o=3∨o=4∨o=6:=by
  unfold mayO at h
  simp at h
  omega
 rcases this with rfl|rfl|rfl|rfl|rfl|rfl<;>decide
theorem words_ok {d:D} (h:mayD d=true):∀ x∈wordsD d,∀ b∈x,okT b=true:=by
 obtain ⟨n,o,e⟩:=d
 by_cases h0:o=0
 · subst h0
   rw[may_any,Bool.and_eq_true] at h
   intro x hx b hb
   have:x=n:=by simpa [wordsD] using hx
   subst this
   exact sign_okT ((name_parts h.1).2.2 b hb)
 · rw[may_op h0] at h
   simp only[Bool.and_eq_true] at h
   obtain ⟨⟨h1,h3⟩,_,h4⟩:=h
   intro x hx b hb
   have e1:wordsD ⟨n,o,e⟩= [n,textL o,showE e]:=by unfold wordsD;rw[if_neg h0]
   rw[e1] at hx
   simp only[List.mem_cons,List.not_mem_nil,or_false] at hx
   rcases hx with rfl|rfl|rfl
   · exact sign_okT ((name_parts h1).2.2 b hb)
   · exact text_ok h3 b hb
   · exact show_ok h4 b hb
end Dep
end
section
open Go.RowKit Ver Evr Dep
abbrev signs9:ByteArray:=⟨#[46,95,43,45,47,58,64,126,94]⟩
theorem signs_low:∀ (pos:Nat) (h:pos<signs9.size),(signs9[pos]'h).toNat<128:=by decide
theorem signs_all:∀ b∈signs9.data.toList,b.toNat<128:=by decide
theorem sign_none (a e:Nat) (c:UInt8) (hc:128≤c.toNat):Lib.indexByte (signs9.extract a e).data.toList c= -1:=by
 rw[← Lib.firstIdx_eq]
 exact firstIdx_ascii signs9 a e c signs_all hc
theorem rune_low (b:UInt8) (hb:b.toNat<128) (w:World):
  Calls Tryz.prog 186 #[.string signs9,.int .i32 (b.toNat:Int)] w fun e w'=>e=.returned (.int .i64 (Lib.indexByte signs9.data.toList b))∧w'=w:=
 (sh_strings_IndexRune_ascii signs9 (b.toNat:Int) w (by omega) (by omega)).mono fun e w' ⟨h1,h2⟩=>⟨by rw[h1];simp,h2⟩
theorem rune_err (w:World):
  Calls Tryz.prog 186 #[.string signs9,.int .i32 65533] w fun e w'=>e=.returned (.int .i64 (-1))∧Kept (fun _=>False) w w':=by
 go_enter Tryz.func186,Tryz.ntmps186
 go_wp2_with fail
 go_loopw [] (fun wr=>∃ pos:Nat,wr=w.iter signs9 pos∧pos≤9) (fun wr=>9 - wr.iterPos w.heap.size)
 case atStart=>exact ⟨0,rfl,by omega⟩
 case round=>
  obtain ⟨pos,rfl,hp⟩:=hrel
  by_cases h:pos<9
  · have hnx:∀ ty,(Instr.next (.pointer (some ⟨w.heap.size,0,none⟩)) true ty).run Tryz.prog (w.iter signs9 pos)=_:=fun ty=>run_next_ascii w signs9 pos ty h (signs_low pos h)
    have hlow:=signs_low pos h
    generalize (signs9[pos]'h).toNat=R at hnx hlow
    have hne:((R:Int)==65533)=false:=by simp;omega
    go_wp2_with fail
    go_roundw
    case rel=>exact ⟨pos+1,rfl,by omega⟩
    case measure=>simp;omega
  · have hnx:∀ ty,(Instr.next (.pointer (some ⟨w.heap.size,0,none⟩)) true ty).run Tryz.prog (w.iter signs9 pos)=_:=fun ty=>run_next_end w signs9 pos ty (by show ¬ pos<9;exact h)
    go_wp2_with fail
    go_ret
    exact ⟨rfl,(Kept.refl _ _).alloc _⟩
theorem rune_bad (r:Int) (h0:128≤r) (he:r≠65533) (hv:Lib.validRune r=false) (w:World):
  Calls Tryz.prog 186 #[.string signs9,.int .i32 r] w fun e w'=>e=.returned (.int .i64 (-1))∧Kept (fun _=>False) w w':=by
 have hV:∀ W,Calls Tryz.prog 203 #[.int .i32 r] W fun e w'=>e=.returned (.bool false)∧w'=W:=fun W=>by
  have:=sh_utf8_ValidRune r W
  rw[hv] at this
  exact this
 have g1:decide (r<128)=false:=by simp;omega
 have g2:(r==65533)=false:=by simp;exact he
 have g3:decide (0≤r)=true:=by simp;omega
 clear hv he
 go_enter Tryz.func186,Tryz.ntmps186
 go_wp2_with (go_at_call 203;with_reducible refine (hV _).mono ?_;rintro e w1 ⟨rfl,rfl⟩)
 go_ret
 exact ⟨rfl,Kept.refl _ _⟩
theorem rune_high (r:Int) (h0:128≤r) (he:r≠65533) (hv:Lib.validRune r=true) (w:World):
  Calls Tryz.prog 186 #[.string signs9,.int .i32 r] w fun e w'=>e=.returned (.int .i64 (-1))∧Kept (fun _=>False) w w':=by
 have hV:∀ W,Calls Tryz.prog 203 #[.int .i32 r] W fun e w'=>e=.returned (.bool true)∧w'=W:=fun W=>by
  have:=sh_utf8_ValidRune r W
  rw[hv] at this
  exact this
 obtain ⟨hs2,hs4,hlast⟩:=encode_facts r (by rw[validRune_eq];exact hv) h0
 have hconv:∀ W,(convert 21 9 (.int .i32 r)).run Tryz.prog W=.ok (.string (Utf8.encode r)) W:=fun W=>run_convert_int_string W _ _ _ _ (by kernel_rfl) Tryz.underlying9
 generalize Utf8.encode r=E at hconv hs2 hs4 hlast
 have g1:decide (r<128)=false:=by simp;omega
 have g2:(r==65533)=false:=by simp;exact he
 have g3:decide (0≤r)=true:=by simp;omega
 have hI:∀ (a e:Nat) (c:UInt8) (_:128≤c.toNat) (W:World),Calls Tryz.prog 187 #[.string (signs9.extract a e),.int .u8 (c.toNat:Int)] W fun e w'=>e=.returned (.int .i64 (-1))∧w'=W:=fun a e c hc W=>
  (sh_strings_IndexByte (signs9.extract a e) (c.toNat:Int) W).mono fun e' w' ⟨h1,h2⟩=>⟨by rw[h1];simp only[Int.toNat_natCast,Nat.toUInt8_eq,UInt8.ofNat_toNat];rw[sign_none a e c hc],h2⟩
 clear hv he
 obtain ⟨c,hc⟩:∃ c,c=E[E.size - 1]'(by omega):=⟨_,rfl⟩
 have hcl:128≤c.toNat:=by rw[hc];exact hlast _
 have hI2:=fun a e W=>hI a e c hcl W
 have HI:=Lib.hid hI2
 have hsz:E.size=2∨E.size=3∨E.size=4:=by omega
 clear hlast hI hI2
 have hn1:(((signs9[1]'(by decide)).toNat:Int)!=(c.toNat:Int))=true:=by
  rw[show (signs9[1]'(by decide))=95 from rfl]
  simp
  omega
 have hn2:(((signs9[2]'(by decide)).toNat:Int)!=(c.toNat:Int))=true:=by
  rw[show (signs9[2]'(by decide))=43 from rfl]
  simp
  omega
 have hn3:(((signs9[3]'(by decide)).toNat:Int)!=(c.toNat:Int))=true:=by
  rw[show (signs9[3]'(by decide))=45 from rfl]
  simp
  omega
 have hS2:∀ W,(Instr.slice 9 (.string signs9) (some (.int .i64 2)) none none).run Tryz.prog W=.ok (.string (signs9.extract 2 9)) W:=fun W=>by kernel_rfl
 have hS3:∀ W,(Instr.slice 9 (.string signs9) (some (.int .i64 3)) none none).run Tryz.prog W=.ok (.string (signs9.extract 3 9)) W:=fun W=>by kernel_rfl
 have hS4:∀ W,(Instr.slice 9 (.string signs9) (some (.int .i64 4)) none none).run Tryz.prog W=.ok (.string (signs9.extract 4 9)) W:=fun W=>by kernel_rfl
 have hw2:IntKind.i64.wrap 2=2:=by kernel_rfl
 have hw3:IntKind.i64.wrap 3=3:=by kernel_rfl
 have hw4:IntKind.i64.wrap 4=4:=by kernel_rfl
 rcases hsz with h2|h2|h2
 · have hc':E[1]'(by omega)=c:=by rw[hc];simp[h2]
   clear hc
   go_enter Tryz.func186,Tryz.ntmps186
   go_wp2_with (first|(go_at_call 203;with_reducible refine (hV _).mono ?_;rintro e w1 ⟨rfl,rfl⟩)|fail)
   go_step3
   go_wp2_with fail
   refine wp_loop_rounds 1 ?_
   rw[rounds_succ]
   go_wp2_with fail
   go_step3
   go_wp2_with fail
   go_quiet (fail)
   have hk:=(Kept.refl (fun _=>False) w1).drewN nq
   generalize w1.drewN nq=w2 at hk ⊢
   go_wp2_with fail
   go_quiet ((go_at_call 187;exact Calls.quiet_of_same (HI.out _ _ _)))
   go_wp2_with fail
   simp only[Exit.inBlock,Exit.then,Exit.noGoto_ret]
   go_ret
   exact ⟨rfl,hk.drewN _⟩
 · have hc':E[2]'(by omega)=c:=by rw[hc];simp[h2]
   clear hc
   go_enter Tryz.func186,Tryz.ntmps186
   go_wp2_with (first|(go_at_call 203;with_reducible refine (hV _).mono ?_;rintro e w1 ⟨rfl,rfl⟩)|fail)
   go_step3
   go_wp2_with fail
   refine wp_loop_rounds 1 ?_
   rw[rounds_succ]
   go_wp2_with fail
   go_step3
   go_wp2_with fail
   go_quiet (fail)
   have hk:=(Kept.refl (fun _=>False) w1).drewN nq
   generalize w1.drewN nq=w2 at hk ⊢
   go_wp2_with fail
   go_quiet ((go_at_call 187;exact Calls.quiet_of_same (HI.out _ _ _)))
   go_wp2_with fail
   simp only[Exit.inBlock,Exit.then,Exit.noGoto_ret]
   go_ret
   exact ⟨rfl,hk.drewN _⟩
 · have hc':E[3]'(by omega)=c:=by rw[hc];simp[h2]
   clear hc
   go_enter Tryz.func186,Tryz.ntmps186
   go_wp2_with (first|(go_at_call 203;with_reducible refine (hV _).mono ?_;rintro e w1 ⟨rfl,rfl⟩)|fail)
   go_step3
   go_wp2_with fail
   refine wp_loop_rounds 1 ?_
   rw[rounds_succ]
   go_wp2_with fail
   go_step3
   go_wp2_with fail
   go_quiet (fail)
   have hk:=(Kept.refl (fun _=>False) w1).drewN nq
   generalize w1.drewN nq=w2 at hk ⊢
   go_wp2_with fail
   go_quiet ((go_at_call 187;exact Calls.quiet_of_same (HI.out _ _ _)))
   go_wp2_with fail
   simp only[Exit.inBlock,Exit.then,Exit.noGoto_ret]
   go_ret
   exact ⟨rfl,hk.drewN _⟩
theorem index_sign9:∀ b:UInt8,decide (0≤Lib.indexByte signs9.data.toList b)=(decide (b.toNat=46)||decide (b.toNat=95)||decide (b.toNat=43)||decide (b.toNat=45)||decide (b.toNat=47)||decide (b.toNat=58)||decide (b.toNat=64)||decide (b.toNat=126)||decide (b.toNat=94)):=by
 intro b
 have key:((List.range 256).all fun n=>decide (0≤Lib.indexByte signs9.data.toList (UInt8.ofNat n))==(decide (n=46)||decide (n=95)||decide (n=43)||decide (n=45)||decide (n=47)||decide (n=58)||decide (n=64)||decide (n=126)||decide (n=94)))=true:=by kernel_rfl
 have h:=List.all_eq_true.1 key b.toNat (List.mem_range.2 (UInt8.toNat_lt b))
 have hb:UInt8.ofNat b.toNat=b:=by simp
 rw[hb] at h
 simpa using h
theorem contains_low (b:UInt8) (hb:b.toNat<128) (w:World):
  Calls Tryz.prog 166 #[.string signs9,.int .i32 (b.toNat:Int)] w fun e w'=>e=.returned (.bool (decide (0≤Lib.indexByte signs9.data.toList b)))∧w'=w:=by
 have hR:=fun W=>rune_low b hb W
 generalize Lib.indexByte signs9.data.toList b=ix at*
 go_enter Tryz.func166,Tryz.ntmps166
 go_wp2_with (go_at_call 186;with_reducible refine (hR _).mono ?_;rintro e w1 ⟨rfl,rfl⟩)
 go_ret
 exact ⟨rfl,rfl⟩
theorem contains_high (r:Int) (h0:128≤r) (w:World):
  Calls Tryz.prog 166 #[.string signs9,.int .i32 r] w fun e w'=>e=.returned (.bool false)∧Kept (fun _=>False) w w':=by
 have hR:∀ W,Calls Tryz.prog 186 #[.string signs9,.int .i32 r] W fun e w'=>e=.returned (.int .i64 (-1))∧Kept (fun _=>False) W w':=fun W=>by
  by_cases he:r=65533
  · subst he;exact rune_err W
  · cases hv:Lib.validRune r with
    |true=>exact rune_high r h0 he hv W
    |false=>exact rune_bad r h0 he hv W
 clear h0
 go_enter Tryz.func166,Tryz.ntmps166
 go_wp2_with (go_at_call 186;with_reducible refine (hR _).mono ?_;rintro e w1 ⟨rfl,hk⟩)
 go_ret
 exact ⟨rfl,hk⟩
theorem mayRune_low (b:UInt8) (hb:b.toNat<128) (w:World):
  Calls Tryz.prog 140 #[.int .i32 (b.toNat:Int)] w fun e w'=>e=.returned (.bool (signD b))∧w'=w:=by
 by_cases c3:(97≤b.toNat∧b.toNat≤122)∨(65≤b.toNat∧b.toNat≤90)∨(48≤b.toNat∧b.toNat≤57)
 · have fin:=Lib.hid (show signD b=true by unfold signD okB;simp;omega)
   rcases c3 with ⟨a1,a2⟩|⟨a1,a2⟩|⟨a1,a2⟩
   all_goals
    go_enter Tryz.func140,Tryz.ntmps140
    go_wp2_with fail
    go_ret
    exact ⟨by rw[fin.out];rfl,rfl⟩
 · have hI:=fun W=>contains_low b hb W
   have h1:=index_sign9 b
   have fin:=Lib.hid (show signD b=decide (0≤Lib.indexByte signs9.data.toList b) by
    rw[h1,Bool.eq_iff_iff]
    unfold signD okB
    simp
    omega)
   have hc:b.toNat<48∨(57<b.toNat∧b.toNat<65)∨(90<b.toNat∧b.toNat<97)∨122<b.toNat:=by omega
   generalize Lib.indexByte signs9.data.toList b=ix at*
   clear h1 c3 hb
   rcases hc with hc|⟨hc,hd⟩|⟨hc,hd⟩|hc
   all_goals
    go_enter Tryz.func140,Tryz.ntmps140
    go_wp2_with (go_at_call 166;with_reducible refine (hI _).mono ?_;rintro e w1 ⟨rfl,rfl⟩)
    go_ret
    exact ⟨by rw[fin.out];rfl,rfl⟩
theorem mayRune_high (r:Int) (h0:128≤r) (w:World):
  Calls Tryz.prog 140 #[.int .i32 r] w fun e w'=>e=.returned (.bool false)∧Kept (fun _=>False) w w':=by
 have hI:=fun W=>contains_high r h0 W
 go_enter Tryz.func140,Tryz.ntmps140
 go_wp2_with (go_at_call 166;with_reducible refine (hI _).mono ?_;rintro e w1 ⟨rfl,hk⟩)
 go_ret
 exact ⟨rfl,hk⟩
end
section
open Go.RowKit Ver Evr
theorem mayByte_walk (b:UInt8) (w:World):
  Calls Tryz.prog 168 #[.int .u8 (b.toNat:Int)] w fun e w'=>e=.returned (.bool (okB b))∧w=w':=by
 have hb:b.toNat<256:=UInt8.toNat_lt b
 by_cases c3:(97≤b.toNat∧b.toNat≤122)∨(65≤b.toNat∧b.toNat≤90)∨(48≤b.toNat∧b.toNat≤57)
 · have fin:=Lib.hid (show okB b=true by unfold okB;simp;omega)
   rcases c3 with ⟨a1,a2⟩|⟨a1,a2⟩|⟨a1,a2⟩
   all_goals
    go_enter Tryz.func168,Tryz.ntmps168
    go_wp2_with fail
    go_ret
    exact ⟨by rw[fin.out];rfl,rfl⟩
 · have hI:=fun W=>index_sign b W
   have h1:=sign_index b
   have fin:=Lib.hid (show okB b=decide (0≤Lib.indexByte [46,95,43,126,94] b) by
    rw[h1]
    unfold okB
    have e1:decide (97≤b.toNat∧b.toNat≤122)=false:=by simp;omega
    have e2:decide (65≤b.toNat∧b.toNat≤90)=false:=by simp;omega
    have e3:decide (48≤b.toNat∧b.toNat≤57)=false:=by simp;omega
    rw[e1,e2,e3]
    simp)
   have hc:b.toNat<48∨(57<b.toNat∧b.toNat<65)∨(90<b.toNat∧b.toNat<97)∨122<b.toNat:=by omega
   generalize Lib.indexByte [46,95,43,126,94] b=ix at*
   clear h1 c3
   rcases hc with hc|⟨hc,hd⟩|⟨hc,hd⟩|hc
   all_goals
    go_enter Tryz.func168,Tryz.ntmps168
    go_wp2_with (first|(go_at_call 187;with_reducible refine (hI _).mono ?_;rintro e w1 ⟨rfl,rfl⟩)|fail)
    go_ret
    exact ⟨by rw[fin.out];rfl,rfl⟩
theorem word_long {s:List UInt8} (h:64<s.length):wordE s=false:=by
 unfold wordE
 rw[show decide (s.length≤64)=false by simp;omega]
 simp
theorem word_all {s:List UInt8} (h1:1≤s.length) (h2:s.length≤64) (h:s.all okB=true):wordE s=true:=by
 unfold wordE
 rw[h]
 simp[h1,h2]
theorem mayText_walk (s:ByteArray) (w:World):
  Calls Tryz.prog 142 #[.string s] w fun e w'=>e=.returned (.bool (wordE s.data.toList))∧w=w':=by
 by_cases h0:s=⟨#[]⟩
 · subst h0
   go_enter Tryz.func142,Tryz.ntmps142
   go_wp2_with fail
   go_ret
   exact ⟨rfl,rfl⟩
 · obtain ⟨b1,b2⟩:=text_ne h0
   have hsl:s.data.toList.length=s.size:=rfl
   have hs1:1≤s.size:=by
    rcases Nat.eq_zero_or_pos s.size with h|h
    · exact absurd (empty_text.1 (List.eq_nil_of_length_eq_zero (by rw[hsl];exact h))) h0
    · exact h
   clear h0
   by_cases h1:64<s.size
   · have HN:=Lib.hid (@word_long s.data.toList (by rw[hsl];exact h1))
     have h1':(64:Int)<(s.size:Int):=by omega
     clear hsl
     go_enter Tryz.func142,Tryz.ntmps142
     go_wp2_with fail
     go_ret
     exact ⟨by rw[HN.out];rfl,rfl⟩
   · have h1':¬ (64:Int)<(s.size:Int):=by omega
     have HY:=Lib.hid (fun h=>@word_all s.data.toList (by rw[hsl];exact hs1) (by rw[hsl];omega) h)
     have HSL:=Lib.hid hsl
     clear hsl
     go_enter Tryz.func142,Tryz.ntmps142
     go_wp2_with fail
     go_loop [13] (fun v=>∃ i:Nat,v=.int .i64 (i:Int)∧i≤s.size∧(s.data.toList.take i).all okB=true) (fun v=>s.size - (intOf v).toNat)
     case atStart=>exact ⟨0,rfl,Nat.zero_le _,rfl⟩
     case round=>
      obtain ⟨i,rfl,hi,ha⟩:=hrel
      have HA:=Lib.hid ha
      clear ha
      by_cases hlt:i<s.size
      · obtain ⟨c,hc⟩:∃ c,c=s[i]:=⟨_,rfl⟩
        have HCL:=Lib.hid (char_at hlt hc)
        have hc':s[i]=c:=hc.symm
        have hM:=fun W=>mayByte_walk c W
        clear hc
        cases hok:okB c with
        |true=>
         rw[hok] at hM
         have HOK:=Lib.hid hok
         clear hok
         go_wp2_with (first|(go_at_call 168;with_reducible refine (hM _).mono ?_;rintro e w1 ⟨rfl,rfl⟩)|fail)
         go_round
         case rel=>exact ⟨i+1,by go_num,by omega,take_ok HA.out HCL.out HOK.out⟩
         case measure=>simp[intOf];omega
        |false=>
         rw[hok] at hM
         have HN:=Lib.hid (word_not HCL.out hok)
         clear hok
         go_wp2_with (first|(go_at_call 168;with_reducible refine (hM _).mono ?_;rintro e w1 ⟨rfl,rfl⟩)|fail)
         go_ret
         exact ⟨by rw[HN.out];rfl,rfl⟩
      · obtain rfl:i=s.size:=by omega
        have HF:=Lib.hid (HY.out (by have:=HA.out;rwa [List.take_of_length_le (by rw[HSL.out];exact Nat.le_refl _)] at this))
        go_wp2_with fail
        go_ret
        exact ⟨by rw[HF.out];rfl,rfl⟩
theorem mayK_walk (n:Int) (v r:ByteArray) (dep:Bool) (w:World):
  Calls Tryz.prog 114 #[.agg #[.int .i64 n,.string v,.string r],.bool dep] w fun e w'=>e=.returned (.bool (mayE (evrE n v r) dep))∧Kept (fun _=>False) w w':=by
 have W1:=fun w=>mayText_walk v w
 have W2:=fun w=>mayText_walk r w
 by_cases h0:n<0
 · have HN:=Lib.hid (@may_low n v r dep (.inl h0))
   have g0:decide (n<0)=true:=by simp[h0]
   clear h0
   go_enter Tryz.func114,Tryz.ntmps114
   go_wp2_with fail
   go_ret
   exact ⟨by rw[HN.out];rfl,(Kept.refl _ _).alloc _⟩
 · by_cases h1:2147483647<n
   · have HN:=Lib.hid (@may_low n v r dep (.inr h1))
     have g0:decide (n<0)=false:=by simp;omega
     have g1:decide (2147483647<n)=true:=by simp[h1]
     clear h1 h0
     go_enter Tryz.func114,Tryz.ntmps114
     go_wp2_with fail
     go_ret
     exact ⟨by rw[HN.out];rfl,(Kept.refl _ _).alloc _⟩
   · have g0:decide (n<0)=false:=by simp;omega
     have g1:decide (2147483647<n)=false:=by simp;omega
     by_cases hw:wordE v.data.toList=true
     · by_cases hr0:r=⟨#[]⟩
       · subst hr0
         have HN:=Lib.hid (@may_dep n v dep (by omega) (by omega) hw)
         rw[hw] at W1
         rw[show wordE (⟨#[]⟩:ByteArray).data.toList=false from rfl] at W2
         clear h1 h0 hw
         cases dep
         all_goals
          go_enter Tryz.func114,Tryz.ntmps114
          go_wp2_with (first|(go_at_call 142;(first|(with_reducible refine (W1 _).mono ?_)|(with_reducible refine (W2 _).mono ?_));rintro e w1 ⟨rfl,rfl⟩)|fail)
          go_ret
          exact ⟨by rw[HN.out];rfl,(Kept.refl _ _).alloc _⟩
       · have HN:=Lib.hid (@may_rel n v r dep (by omega) (by omega) hw hr0)
         obtain ⟨b1,b2⟩:=text_ne hr0
         rw[hw] at W1
         clear h1 h0 hw hr0
         generalize wordE r.data.toList=wr at W2 HN
         cases wr
         all_goals
          cases dep
          all_goals
           go_enter Tryz.func114,Tryz.ntmps114
           go_wp2_with (first|(go_at_call 142;(first|(with_reducible refine (W1 _).mono ?_)|(with_reducible refine (W2 _).mono ?_));rintro e w1 ⟨rfl,rfl⟩)|fail)
           go_ret
           exact ⟨by rw[HN.out];rfl,(Kept.refl _ _).alloc _⟩
     · have hw':wordE v.data.toList=false:=by simpa using hw
       have HN:=Lib.hid (@may_ver n v r dep hw')
       rw[hw'] at W1
       clear h1 h0 hw hw'
       go_enter Tryz.func114,Tryz.ntmps114
       go_wp2_with (first|(go_at_call 142;with_reducible refine (W1 _).mono ?_;rintro e w1 ⟨rfl,rfl⟩)|fail)
       go_ret
       exact ⟨by rw[HN.out];rfl,(Kept.refl _ _).alloc _⟩
end
end Go.Proofs.YtapnddagongljaaGreatDoor
