/-
  The texts Rune6, Name6. Conditions: as each theorem states.
-/
import Derived.Test.YtnfhpecllidgoaaGreatDoorK00
import Derived.Test.YtnfhpecllidgoaaGreatDoorK02
import Derived.Laws.Runes
import Derived.WalkMore
import Derived.Laws.RangeAny
import Derived.Lib.OthersKept
set_option maxRecDepth 100000
set_option maxHeartbeats 16000000
namespace Go.Proofs.YtnfhpecllidgoaaGreatDoor
section
open Go.RowKit Ver Evr Dep
abbrev ξu:ByteArray:=⟨#[46,95,43,45,47,58,64,126,94]⟩
theorem ξhl:∀ (pos:Nat) (h:pos<ξu.size),(ξu[pos]'h).toNat<128:=by decide
theorem ξk7:∀ b∈ξu.data.toList,b.toNat<128:=by decide
theorem ξlt (a e:Nat) (c:UInt8) (hc:128≤c.toNat):Lib.indexByte (ξu.extract a e).data.toList c= -1:=by
 rw[← Lib.firstIdx_eq];exact firstIdx_ascii ξu a e c ξk7 hc
theorem rune_low (b:UInt8) (hb:b.toNat<128) (w:World):
  Calls Tryz.prog 214 #[.string ξu,.int .i32 (b.toNat:Int)] w fun e w'=>e=.returned (.int .i64 (Lib.indexByte ξu.data.toList b))∧w'=w:=
 (ξcM ξu (b.toNat:Int) w (by omega) (by omega)).mono fun e w' ⟨h1,h2⟩=>⟨by rw[h1];simp,h2⟩
theorem rune_err (w:World):
  Calls Tryz.prog 214 #[.string ξu,.int .i32 65533] w fun e w'=>e=.returned (.int .i64 (-1))∧Kept ω w w':=by
 go_enter Tryz.func214,Tryz.ntmps214
 go_wp2_with fail
 go_loopw [] (fun wr=>∃ pos:Nat,wr=w.iter ξu pos∧pos≤9) (fun wr=>9 - wr.iterPos w.heap.size)
 case atStart=>exact ⟨0,rfl,by omega⟩
 case round=>
  obtain ⟨pos,rfl,hp⟩:=hrel
  by_cases h:pos<9
  · have hnx:∀ ty,(Instr.next (.pointer (some ⟨w.heap.size,0,none⟩)) true ty).run Tryz.prog (w.iter ξu pos)=_:=fun ty=>run_next_ascii w ξu pos ty h (ξhl pos h);have hlow:=ξhl pos h;generalize (ξu[pos]'h).toNat=R at hnx hlow;have hne:((R:Int)==65533)=false:=by simp;omega
    go_wp2_with fail
    go_roundw
    case rel=>exact ⟨pos+1,rfl,by omega⟩
    case measure=>simp;omega
  · have hnx:∀ ty,(Instr.next (.pointer (some ⟨w.heap.size,0,none⟩)) true ty).run Tryz.prog (w.iter ξu pos)=_:=fun ty=>run_next_end w ξu pos ty (by show ¬ pos<9;exact h)
    go_wp2_with fail
    go_ret;exact ⟨rfl,(Kept.refl _ _).alloc _⟩
theorem rune_bad (r:Int) (h0:128≤r) (he:r≠65533) (hv:Lib.validRune r=false) (w:World):
  Calls Tryz.prog 214 #[.string ξu,.int .i32 r] w fun e w'=>e=.returned (.int .i64 (-1))∧Kept ω w w':=by
 have hV:∀ W,Calls Tryz.prog 222 #[.int .i32 r] W fun e w'=>e=.returned (.bool false)∧w'=W:=fun W=>by
  have:=ξcN r W;rw[hv] at this;exact this
 have g1:decide (r<128)=false:=by simp;omega
 have g2:(r==65533)=false:=by simp;exact he
 have g3:decide (0≤r)=true:=by simp;omega
 clear hv he
 go_enter Tryz.func214,Tryz.ntmps214
 go_wp2_with (go_at_call 222;with_reducible refine (hV _).mono ?_;rintro e w1 ⟨rfl,rfl⟩)
 go_ret;exact ⟨rfl,Kept.refl _ _⟩
theorem ξmd (r:Int) (h0:128≤r) (he:r≠65533) (hv:Lib.validRune r=true) (w:World):
  Calls Tryz.prog 214 #[.string ξu,.int .i32 r] w fun e w'=>e=.returned (.int .i64 (-1))∧Kept ω w w':=by
 have hV:∀ W,Calls Tryz.prog 222 #[.int .i32 r] W fun e w'=>e=.returned (.bool true)∧w'=W:=fun W=>by
  have:=ξcN r W;rw[hv] at this;exact this
 obtain ⟨hs2,hs4,hlast⟩:=encode_facts r (by rw[validRune_eq];exact hv) h0;have hconv:∀ W,(convert 21 9 (.int .i32 r)).run Tryz.prog W=.ok (.string (Utf8.encode r)) W:=fun W=>run_convert_int_string W _ _ _ _ (by kernel_rfl) Tryz.underlying9;generalize Utf8.encode r=E at hconv hs2 hs4 hlast;have g1:decide (r<128)=false:=by simp;omega
 have g2:(r==65533)=false:=by simp;exact he
 have g3:decide (0≤r)=true:=by simp;omega
 have hI:∀ (a e:Nat) (c:UInt8) (_:128≤c.toNat) (W:World),Calls Tryz.prog 215 #[.string (ξu.extract a e),.int .u8 (c.toNat:Int)] W fun e w'=>e=.returned (.int .i64 (-1))∧w'=W:=fun a e c hc W=>
  (ξb6 (ξu.extract a e) (c.toNat:Int) W).mono fun e' w' ⟨h1,h2⟩=>⟨by rw[h1];simp only[Int.toNat_natCast,Nat.toUInt8_eq,UInt8.ofNat_toNat];rw[ξlt a e c hc],h2⟩
 clear hv he;obtain ⟨c,hc⟩:∃ c,c=E[E.size - 1]'(by omega):=⟨_,rfl⟩;have hcl:128≤c.toNat:=by rw[hc];exact hlast _
 have hI2:=fun a e W=>hI a e c hcl W;have HI:=ψ hI2;have hsz:E.size=2∨E.size=3∨E.size=4:=by omega
 clear hlast hI hI2
 have hn1:(((ξu[1]'(by decide)).toNat:Int)!=(c.toNat:Int))=true:=by
  rw[show (ξu[1]'(by decide))=95 from rfl];simp;omega
 have hn2:(((ξu[2]'(by decide)).toNat:Int)!=(c.toNat:Int))=true:=by
  rw[show (ξu[2]'(by decide))=43 from rfl];simp;omega
 have hn3:(((ξu[3]'(by decide)).toNat:Int)!=(c.toNat:Int))=true:=by
  rw[show (ξu[3]'(by decide))=45 from rfl];simp;omega
 have hS2:∀ W,(Instr.slice 9 (.string ξu) (some (.int .i64 2)) none none).run Tryz.prog W=.ok (.string (ξu.extract 2 9)) W:=fun W=>by kernel_rfl
 have hS3:∀ W,(Instr.slice 9 (.string ξu) (some (.int .i64 3)) none none).run Tryz.prog W=.ok (.string (ξu.extract 3 9)) W:=fun W=>by kernel_rfl
 have hS4:∀ W,(Instr.slice 9 (.string ξu) (some (.int .i64 4)) none none).run Tryz.prog W=.ok (.string (ξu.extract 4 9)) W:=fun W=>by kernel_rfl
 have hw2:IntKind.i64.wrap 2=2:=by kernel_rfl
 have hw3:IntKind.i64.wrap 3=3:=by kernel_rfl
 have hw4:IntKind.i64.wrap 4=4:=by kernel_rfl
 rcases hsz with h2|h2|h2
 · have hc':E[1]'(by omega)=c:=by rw[hc];simp[h2]
   clear hc
   go_enter Tryz.func214,Tryz.ntmps214
   go_wp2_with (first|(go_at_call 222;with_reducible refine (hV _).mono ?_;rintro e w1 ⟨rfl,rfl⟩)|fail)
   go_step3
   go_wp2_with fail
   refine wp_loop_rounds 1 ?_;rw[rounds_succ]
   go_wp2_with fail
   go_step3
   go_wp2_with fail
   go_quiet (fail)
   have hk:=(Kept.refl ω w1).drewN nq;generalize w1.drewN nq=w2 at hk ⊢
   go_wp2_with fail
   go_quiet ((go_at_call 215;exact Calls.quiet_of_same (HI.out _ _ _)))
   go_wp2_with fail
   simp only[Exit.inBlock,Exit.then,Exit.noGoto_ret];go_ret;exact ⟨rfl,hk.drewN _⟩
 · have hc':E[2]'(by omega)=c:=by rw[hc];simp[h2]
   clear hc
   go_enter Tryz.func214,Tryz.ntmps214
   go_wp2_with (first|(go_at_call 222;with_reducible refine (hV _).mono ?_;rintro e w1 ⟨rfl,rfl⟩)|fail)
   go_step3
   go_wp2_with fail
   refine wp_loop_rounds 1 ?_;rw[rounds_succ]
   go_wp2_with fail
   go_step3
   go_wp2_with fail
   go_quiet (fail)
   have hk:=(Kept.refl ω w1).drewN nq;generalize w1.drewN nq=w2 at hk ⊢
   go_wp2_with fail
   go_quiet ((go_at_call 215;exact Calls.quiet_of_same (HI.out _ _ _)))
   go_wp2_with fail
   simp only[Exit.inBlock,Exit.then,Exit.noGoto_ret];go_ret;exact ⟨rfl,hk.drewN _⟩
 · have hc':E[3]'(by omega)=c:=by rw[hc];simp[h2]
   clear hc
   go_enter Tryz.func214,Tryz.ntmps214
   go_wp2_with (first|(go_at_call 222;with_reducible refine (hV _).mono ?_;rintro e w1 ⟨rfl,rfl⟩)|fail)
   go_step3
   go_wp2_with fail
   refine wp_loop_rounds 1 ?_;rw[rounds_succ]
   go_wp2_with fail
   go_step3
   go_wp2_with fail
   go_quiet (fail)
   have hk:=(Kept.refl ω w1).drewN nq;generalize w1.drewN nq=w2 at hk ⊢
   go_wp2_with fail
   go_quiet ((go_at_call 215;exact Calls.quiet_of_same (HI.out _ _ _)))
   go_wp2_with fail
   simp only[Exit.inBlock,Exit.then,Exit.noGoto_ret];go_ret;exact ⟨rfl,hk.drewN _⟩
theorem ξiK:∀ b:UInt8,decide (0≤Lib.indexByte ξu.data.toList b)=(decide (b.toNat=46)||decide (b.toNat=95)||decide (b.toNat=43)||decide (b.toNat=45)||decide (b.toNat=47)||decide (b.toNat=58)||decide (b.toNat=64)||decide (b.toNat=126)||decide (b.toNat=94)):=by
 intro b;have key:((List.range 256).all fun n=>decide (0≤Lib.indexByte ξu.data.toList (UInt8.ofNat n))==(decide (n=46)||decide (n=95)||decide (n=43)||decide (n=45)||decide (n=47)||decide (n=58)||decide (n=64)||decide (n=126)||decide (n=94)))=true:=by kernel_rfl
 have h:=List.all_eq_true.1 key b.toNat (List.mem_range.2 (UInt8.toNat_lt b));have hb:UInt8.ofNat b.toNat=b:=by simp
 rw[hb] at h
 simpa using h
theorem ξic (b:UInt8) (hb:b.toNat<128) (w:World):
  Calls Tryz.prog 198 #[.string ξu,.int .i32 (b.toNat:Int)] w fun e w'=>e=.returned (.bool (decide (0≤Lib.indexByte ξu.data.toList b)))∧w'=w:=by
 have hR:=fun W=>rune_low b hb W;generalize Lib.indexByte ξu.data.toList b=ix at*
 go_enter Tryz.func198,Tryz.ntmps198
 go_wp2_with (go_at_call 214;with_reducible refine (hR _).mono ?_;rintro e w1 ⟨rfl,rfl⟩)
 go_ret;exact ⟨rfl,rfl⟩
theorem ξhI (r:Int) (h0:128≤r) (w:World):
  Calls Tryz.prog 198 #[.string ξu,.int .i32 r] w fun e w'=>e=.returned (.bool false)∧Kept ω w w':=by
 have hR:∀ W,Calls Tryz.prog 214 #[.string ξu,.int .i32 r] W fun e w'=>e=.returned (.int .i64 (-1))∧Kept ω W w':=fun W=>by
  by_cases he:r=65533
  · subst he;exact rune_err W
  · cases hv:Lib.validRune r with
    |true=>exact ξmd r h0 he hv W
    |false=>exact rune_bad r h0 he hv W
 clear h0
 go_enter Tryz.func198,Tryz.ntmps198
 go_wp2_with (go_at_call 214;with_reducible refine (hR _).mono ?_;rintro e w1 ⟨rfl,hk⟩)
 go_ret;exact ⟨rfl,hk⟩
theorem ξiM (b:UInt8) (hb:b.toNat<128) (w:World):
  Calls Tryz.prog 171 #[.int .i32 (b.toNat:Int)] w fun e w'=>e=.returned (.bool (ξaG b))∧w'=w:=by
 by_cases c3:(97≤b.toNat∧b.toNat≤122)∨(65≤b.toNat∧b.toNat≤90)∨(48≤b.toNat∧b.toNat≤57)
 · have fin:=ψ (show ξaG b=true by unfold ξaG okB;simp;omega);rcases c3 with ⟨a1,a2⟩|⟨a1,a2⟩|⟨a1,a2⟩
   all_goals
    go_enter Tryz.func171,Tryz.ntmps171
    go_wp2_with fail
    go_ret;exact ⟨by rw[fin.out];rfl,rfl⟩
 · have hI:=fun W=>ξic b hb W;have h1:=ξiK b
   have fin:=ψ (show ξaG b=decide (0≤Lib.indexByte ξu.data.toList b) by
    rw[h1,Bool.eq_iff_iff];unfold ξaG okB;simp
    omega)
   have hc:b.toNat<48∨(57<b.toNat∧b.toNat<65)∨(90<b.toNat∧b.toNat<97)∨122<b.toNat:=by omega
   generalize Lib.indexByte ξu.data.toList b=ix at*;clear h1 c3 hb;rcases hc with hc|⟨hc,hd⟩|⟨hc,hd⟩|hc
   all_goals
    go_enter Tryz.func171,Tryz.ntmps171
    go_wp2_with (go_at_call 198;with_reducible refine (hI _).mono ?_;rintro e w1 ⟨rfl,rfl⟩)
    go_ret;exact ⟨by rw[fin.out];rfl,rfl⟩
theorem ξib (r:Int) (h0:128≤r) (w:World):
  Calls Tryz.prog 171 #[.int .i32 r] w fun e w'=>e=.returned (.bool false)∧Kept ω w w':=by
 have hI:=fun W=>ξhI r h0 W
 go_enter Tryz.func171,Tryz.ntmps171
 go_wp2_with (go_at_call 198;with_reducible refine (hI _).mono ?_;rintro e w1 ⟨rfl,hk⟩)
 go_ret;exact ⟨rfl,hk⟩
end
section
open Go.RowKit Ver Evr Dep
def nn0:ByteArray:=⟨#[97,110,100]⟩
def nn1:ByteArray:=⟨#[111,114]⟩
def nn2:ByteArray:=⟨#[105,102]⟩
def nn3:ByteArray:=⟨#[101,108,115,101]⟩
def nn4:ByteArray:=⟨#[117,110,108,101,115,115]⟩
def nn5:ByteArray:=⟨#[119,105,116,104]⟩
def nn6:ByteArray:=⟨#[119,105,116,104,111,117,116]⟩
structure NotW (w:World):Prop where
 old:1<w.heap.size
 n0:w.cell? ⟨1,0,none⟩=some (.string nn0)
 n1:w.cell? ⟨1,1,none⟩=some (.string nn1)
 n2:w.cell? ⟨1,2,none⟩=some (.string nn2)
 n3:w.cell? ⟨1,3,none⟩=some (.string nn3)
 n4:w.cell? ⟨1,4,none⟩=some (.string nn4)
 n5:w.cell? ⟨1,5,none⟩=some (.string nn5)
 n6:w.cell? ⟨1,6,none⟩=some (.string nn6)
theorem NotW.kept {w w':World} (h:NotW w) (k:Kept ω w w'):NotW w':=by
 have hlt:∀ i:Nat,(⟨1,i,none⟩:Addr).block<w.heap.size:=fun _=>h.old;exact ⟨Nat.lt_of_lt_of_le h.old k.size,(k.cell (hlt 0) (fun h=>h)).trans h.n0,(k.cell (hlt 1) (fun h=>h)).trans h.n1,(k.cell (hlt 2) (fun h=>h)).trans h.n2,(k.cell (hlt 3) (fun h=>h)).trans h.n3,(k.cell (hlt 4) (fun h=>h)).trans h.n4,(k.cell (hlt 5) (fun h=>h)).trans h.n5,(k.cell (hlt 6) (fun h=>h)).trans h.n6⟩
theorem no_name (s:ByteArray):ξc2.contains s.data.toList=((s.toList==nn0.toList)||(s.toList==nn1.toList)||(s.toList==nn2.toList)||(s.toList==nn3.toList)||(s.toList==nn4.toList)||(s.toList==nn5.toList)||(s.toList==nn6.toList)):=by
 simp only[ByteArray.toList_eq,ξc2,List.contains_cons,List.contains_nil,Bool.or_false,Bool.or_assoc]
 rfl
theorem ξmp {s:List UInt8} {i:Nat} {c:UInt8} (h:(s.take i).all ξaG=true) (hc:s[i]? =some c) (hok:ξaG c=true):(s.take (i+1)).all ξaG=true:=by
 rw[List.take_add_one,hc,List.all_append,h];simp[hok]
theorem ξh0 {s:List UInt8} {i:Nat} {c:UInt8} (hc:s[i]? =some c) (hok:ξaG c=false):ξY s=false:=by
 unfold ξY
 have:s.all ξaG=false:=by
  rw[Bool.eq_false_iff];intro h;have:=List.all_eq_true.1 h c (List.mem_of_getElem? hc);rw[hok] at this
  cases this
 rw[this];simp
theorem ξlN {s:List UInt8} (h:64<s.length):ξY s=false:=by
 unfold ξY;rw[show decide (s.length≤64)=false by simp;omega];simp
theorem ξhi {s:List UInt8} (h:ξc2.contains s=true):ξY s=false:=by
 unfold ξY;rw[h];simp
theorem name_all {s:List UInt8} (h1:1≤s.length) (h2:s.length≤64) (h:s.all ξaG=true) (hw:ξc2.contains s=false):ξY s=true:=by
 unfold ξY;rw[h,hw];simp[h1,h2]
theorem ξeB (s:ByteArray) (w:World) (hW:NotW w):
  Calls Tryz.prog 137 #[.string s] w fun e w'=>e=.returned (.bool (ξY s.data.toList))∧Kept ω w w':=by
 by_cases h0:s=⟨#[]⟩
 · subst h0
   go_enter Tryz.func137,Tryz.ntmps137
   go_wp2_with fail
   go_ret;exact ⟨rfl,Kept.refl _ _⟩
 · obtain ⟨b1,b2⟩:=ξbG h0;have hsl:s.data.toList.length=s.size:=rfl
   have hs1:1≤s.size:=by
    rcases Nat.eq_zero_or_pos s.size with h|h
    · exact absurd (ξa1.1 (List.eq_nil_of_length_eq_zero (by rw[hsl];exact h))) h0
    · exact h
   clear h0
   by_cases h1:64<s.size
   · have HN:=ψ (@ξlN s.data.toList (by rw[hsl];exact h1));have h1':(64:Int)<(s.size:Int):=by omega
     clear hsl
     go_enter Tryz.func137,Tryz.ntmps137
     go_wp2_with fail
     go_ret;exact ⟨by rw[HN.out];rfl,Kept.refl _ _⟩
   · have h1':¬ (64:Int)<(s.size:Int):=by omega
     have HY:=ψ (fun h hw=>@name_all s.data.toList (by rw[hsl];exact hs1) (by rw[hsl];omega) h hw);have HC:=ψ (no_name s);have HSL:=ψ hsl;have HNW:=ψ hW;clear hsl hW
     go_enter Tryz.func137,Tryz.ntmps137
     go_wp2_with fail
     go_loopw [] (fun wr=>∃ pos:Nat,wr=w.iter s pos∧pos≤s.size∧Hid ((s.data.toList.take pos).all ξaG=true)) (fun wr=>s.size - wr.iterPos w.heap.size)
     case atStart=>exact ⟨0,rfl,Nat.zero_le _,ψ rfl⟩
     case round=>
      obtain ⟨pos,rfl,hp,HA⟩:=hrel
      by_cases hlt:pos<s.size
      · obtain ⟨c,hc⟩:∃ c,c=s[pos]:=⟨_,rfl⟩;have HCL:=ψ (ξcj hlt hc)
        by_cases hlow:c.toNat<128
        · have hnx:∀ ty,(Instr.next (.pointer (some ⟨w.heap.size,0,none⟩)) true ty).run Tryz.prog (w.iter s pos)=.ok (.tuple #[.bool true,.int .i64 pos,.int .i32 (c.toNat:Int)]) (w.iter s (pos+1)):=fun ty=>by
           rw[hc];exact run_next_ascii w s pos ty hlt (by rw[← hc];exact hlow)
          have hM:=fun W=>ξiM c hlow W;clear hc
          cases hok:ξaG c with
          |true=>
           rw[hok] at hM;have HOK:=ψ hok;clear hok hlow
           go_wp2_with (first|(go_at_call 171;with_reducible refine (hM _).mono ?_;rintro e w1 ⟨rfl,rfl⟩)|fail)
           go_roundw
           case rel=>exact ⟨pos+1,rfl,by omega,ψ (ξmp HA.out HCL.out HOK.out)⟩
           case measure=>simp;omega
          |false=>
           rw[hok] at hM;have HN:=ψ (ξh0 HCL.out hok);clear hok hlow
           go_wp2_with (first|(go_at_call 171;with_reducible refine (hM _).mono ?_;rintro e w1 ⟨rfl,rfl⟩)|fail)
           go_ret;exact ⟨by rw[HN.out];rfl,(Kept.refl _ _).alloc _⟩
        · have hhi:=decode_high s pos hlt (by rw[← hc];omega);have hnx:∀ ty,(Instr.next (.pointer (some ⟨w.heap.size,0,none⟩)) true ty).run Tryz.prog (w.iter s pos)=.ok (.tuple #[.bool true,.int .i64 pos,.int .i32 (Utf8.decode s pos).1]) (w.iter s (pos+(Utf8.decode s pos).2)):=fun ty=>run_next_any w s pos ty hlt;have HN:=ψ (ξh0 HCL.out (by unfold ξaG okB;simp;omega));generalize (Utf8.decode s pos).1=R at hnx hhi;generalize (Utf8.decode s pos).2=K at hnx hhi;have hM:=fun W=>ξib (R:Int) (by omega) W;clear hc hlow hhi
          go_wp2_with (first|(go_at_call 171;with_reducible refine (hM _).mono ?_;rintro e w1 ⟨rfl,hk1⟩)|fail)
          go_ret;exact ⟨by rw[HN.out];rfl,((Kept.refl _ _).alloc _).trans hk1 (fun _ _ h=>h)⟩
      · have hnx:∀ ty,(Instr.next (.pointer (some ⟨w.heap.size,0,none⟩)) true ty).run Tryz.prog (w.iter s pos)=.ok (.tuple #[.bool false]) (w.iter s pos):=fun ty=>run_next_end w s pos ty hlt;obtain rfl:pos=s.size:=by omega
        have hall:s.data.toList.all ξaG=true:=by have:=HA.out;rwa [List.take_of_length_le (by rw[HSL.out];exact Nat.le_refl _)] at this
        have HK:=ψ ((Kept.refl ω w).alloc (.stringIter s s.size));have hN2:=HNW.out.kept HK.out
        have HF:Hid (ξY s.data.toList= !((s.toList==nn0.toList)||(s.toList==nn1.toList)||(s.toList==nn2.toList)||(s.toList==nn3.toList)||(s.toList==nn4.toList)||(s.toList==nn5.toList)||(s.toList==nn6.toList))):=ψ (by
         rw[← HC.out]
         cases hw:ξc2.contains s.data.toList with
         |true=>exact ξhi hw
         |false=>exact HY.out hall hw)
        have c0:(w.iter s s.size).cell? ⟨1,0,none⟩=some (.string nn0):=hN2.n0;have c1:(w.iter s s.size).cell? ⟨1,1,none⟩=some (.string nn1):=hN2.n1;have c2:(w.iter s s.size).cell? ⟨1,2,none⟩=some (.string nn2):=hN2.n2;have c3:(w.iter s s.size).cell? ⟨1,3,none⟩=some (.string nn3):=hN2.n3;have c4:(w.iter s s.size).cell? ⟨1,4,none⟩=some (.string nn4):=hN2.n4;have c5:(w.iter s s.size).cell? ⟨1,5,none⟩=some (.string nn5):=hN2.n5;have c6:(w.iter s s.size).cell? ⟨1,6,none⟩=some (.string nn6):=hN2.n6;have hX0:∀ W,(Instr.index 200 (.agg #[.string nn0,.string nn1,.string nn2,.string nn3,.string nn4,.string nn5,.string nn6]) (.int .i64 0)).run Tryz.prog W=.ok (.string nn0) W:=fun W=>by kernel_rfl
        have hX1:∀ W,(Instr.index 200 (.agg #[.string nn0,.string nn1,.string nn2,.string nn3,.string nn4,.string nn5,.string nn6]) (.int .i64 1)).run Tryz.prog W=.ok (.string nn1) W:=fun W=>by kernel_rfl
        have hX2:∀ W,(Instr.index 200 (.agg #[.string nn0,.string nn1,.string nn2,.string nn3,.string nn4,.string nn5,.string nn6]) (.int .i64 2)).run Tryz.prog W=.ok (.string nn2) W:=fun W=>by kernel_rfl
        have hX3:∀ W,(Instr.index 200 (.agg #[.string nn0,.string nn1,.string nn2,.string nn3,.string nn4,.string nn5,.string nn6]) (.int .i64 3)).run Tryz.prog W=.ok (.string nn3) W:=fun W=>by kernel_rfl
        have hX4:∀ W,(Instr.index 200 (.agg #[.string nn0,.string nn1,.string nn2,.string nn3,.string nn4,.string nn5,.string nn6]) (.int .i64 4)).run Tryz.prog W=.ok (.string nn4) W:=fun W=>by kernel_rfl
        have hX5:∀ W,(Instr.index 200 (.agg #[.string nn0,.string nn1,.string nn2,.string nn3,.string nn4,.string nn5,.string nn6]) (.int .i64 5)).run Tryz.prog W=.ok (.string nn5) W:=fun W=>by kernel_rfl
        have hX6:∀ W,(Instr.index 200 (.agg #[.string nn0,.string nn1,.string nn2,.string nn3,.string nn4,.string nn5,.string nn6]) (.int .i64 6)).run Tryz.prog W=.ok (.string nn6) W:=fun W=>by kernel_rfl
        clear hall hN2 HY HC HA;generalize hq0:(s.toList==nn0.toList)=q0 at HF;generalize hq1:(s.toList==nn1.toList)=q1 at HF;generalize hq2:(s.toList==nn2.toList)=q2 at HF;generalize hq3:(s.toList==nn3.toList)=q3 at HF;generalize hq4:(s.toList==nn4.toList)=q4 at HF;generalize hq5:(s.toList==nn5.toList)=q5 at HF;generalize hq6:(s.toList==nn6.toList)=q6 at HF
        cases q0 with
        |true=>
         go_wp2_with fail
         refine wp_loop_rounds 8 ?_;rw[rounds_succ]
         go_wp2_with fail
         go_ret;exact ⟨by rw[HF.out];rfl,HK.out⟩
        |false=>
         cases q1 with
         |true=>
          go_wp2_with fail
          refine wp_loop_rounds 8 ?_;rw[rounds_succ]
          go_wp2_with fail
          rw[rounds_succ]
          go_wp2_with fail
          go_ret;exact ⟨by rw[HF.out];rfl,HK.out⟩
         |false=>
          cases q2 with
          |true=>
           go_wp2_with fail
           refine wp_loop_rounds 8 ?_;rw[rounds_succ]
           go_wp2_with fail
           rw[rounds_succ]
           go_wp2_with fail
           rw[rounds_succ]
           go_wp2_with fail
           go_ret;exact ⟨by rw[HF.out];rfl,HK.out⟩
          |false=>
           cases q3 with
           |true=>
            go_wp2_with fail
            refine wp_loop_rounds 8 ?_;rw[rounds_succ]
            go_wp2_with fail
            rw[rounds_succ]
            go_wp2_with fail
            rw[rounds_succ]
            go_wp2_with fail
            rw[rounds_succ]
            go_wp2_with fail
            go_ret;exact ⟨by rw[HF.out];rfl,HK.out⟩
           |false=>
            cases q4 with
            |true=>
             go_wp2_with fail
             refine wp_loop_rounds 8 ?_;rw[rounds_succ]
             go_wp2_with fail
             rw[rounds_succ]
             go_wp2_with fail
             rw[rounds_succ]
             go_wp2_with fail
             rw[rounds_succ]
             go_wp2_with fail
             rw[rounds_succ]
             go_wp2_with fail
             go_ret;exact ⟨by rw[HF.out];rfl,HK.out⟩
            |false=>
             cases q5 with
             |true=>
              go_wp2_with fail
              refine wp_loop_rounds 8 ?_;rw[rounds_succ]
              go_wp2_with fail
              rw[rounds_succ]
              go_wp2_with fail
              rw[rounds_succ]
              go_wp2_with fail
              rw[rounds_succ]
              go_wp2_with fail
              rw[rounds_succ]
              go_wp2_with fail
              rw[rounds_succ]
              go_wp2_with fail
              go_ret;exact ⟨by rw[HF.out];rfl,HK.out⟩
             |false=>
              cases q6 with
              |true=>
               go_wp2_with fail
               refine wp_loop_rounds 8 ?_;rw[rounds_succ]
               go_wp2_with fail
               rw[rounds_succ]
               go_wp2_with fail
               rw[rounds_succ]
               go_wp2_with fail
               rw[rounds_succ]
               go_wp2_with fail
               rw[rounds_succ]
               go_wp2_with fail
               rw[rounds_succ]
               go_wp2_with fail
               rw[rounds_succ]
               go_wp2_with fail
               go_ret;exact ⟨by rw[HF.out];rfl,HK.out⟩
              |false=>
               go_wp2_with fail
               refine wp_loop_rounds 8 ?_;rw[rounds_succ]
               go_wp2_with fail
               rw[rounds_succ]
               go_wp2_with fail
               rw[rounds_succ]
               go_wp2_with fail
               rw[rounds_succ]
               go_wp2_with fail
               rw[rounds_succ]
               go_wp2_with fail
               rw[rounds_succ]
               go_wp2_with fail
               rw[rounds_succ]
               go_wp2_with fail
               rw[rounds_succ]
               go_wp2_with fail
               go_ret;exact ⟨by rw[HF.out];rfl,HK.out⟩
theorem ξgo (s:ByteArray):Lib.hasPrefix s.data.toList [47]=(s.data.toList.head? ==some 47):=by
 unfold Lib.hasPrefix
 cases s.data.toList with
 |nil=>rfl
 |cons b l=>
  show (47==b&& [].isPrefixOf l)=(some b==some 47)
  rw[Bool.eq_iff_iff];simp;exact eq_comm
theorem ξez (s:ByteArray) (w:World) (hW:NotW w):
  Calls Tryz.prog 138 #[.string s] w fun e w'=>e=.returned (.bool (ξcw s.data.toList))∧Kept ω w w':=by
 have hN:=ξeB s w hW
 have hP:Calls Tryz.prog 172 #[.string s,.string ⟨#[47]⟩] w fun e w'=>e=.returned (.bool (s.data.toList.head? ==some 47))∧w'=w:=by
  have:=ξej s ⟨#[47]⟩ w;rw[show (⟨#[47]⟩:ByteArray).data.toList= [47] from rfl,ξgo] at this;exact this
 have HF:=ψ (show ξcw s.data.toList=(ξY s.data.toList&&s.data.toList.head? ==some 47) from rfl);generalize ξY s.data.toList=x at*;generalize (s.data.toList.head? ==some 47)=y at*
 cases y
 · go_enter Tryz.func138,Tryz.ntmps138
   go_wp2_with (go_at_call 172;with_reducible refine hP.mono ?_;rintro e w1 ⟨rfl,rfl⟩)
   go_ret;exact ⟨by rw[HF.out];cases x<;>rfl,Kept.refl _ _⟩
 · go_enter Tryz.func138,Tryz.ntmps138
   go_wp2_with (first
    |(go_at_call 172;with_reducible refine hP.mono ?_;rintro e w1 ⟨rfl,rfl⟩)
    |(go_at_call 137;with_reducible refine hN.mono ?_;rintro e w1 ⟨rfl,hk⟩))
   go_ret;exact ⟨by rw[HF.out];cases x<;>rfl,hk⟩
end
end Go.Proofs.YtnfhpecllidgoaaGreatDoor
