/-
  The texts Ver02a, Ver02b, Ver02c, Ver02d. Conditions: as each theorem states.
-/
import Derived.Test.YtapnddagongljaaGreatDoorK03
import Derived.Handy
import Derived.Lib.Hide
import Derived.Shelf.Abstract
import Derived.WalkKit
import Derived.OwnWalkIn
import Derived.TacticsInMore
import Derived.LoopNIn
import Derived.LoopIn
set_option maxRecDepth 100000
set_option maxHeartbeats 16000000
namespace Go.Proofs.YtapnddagongljaaGreatDoor
section
open Go.RowKit Ver
theorem kindOf_walk (b:UInt8) (w:World):
  Calls Tryz.prog 199 #[.int .u8 (b.toNat:Int)] w fun e w'=>e=.returned (.int .u8 (kindB b:Int))∧w=w':=by
 have hb:b.toNat<256:=UInt8.toNat_lt b
 have hk:kindB b=kindB b:=rfl
 unfold kindB at hk
 by_cases c1:b.toNat=126
 · have h1:((b.toNat:Int)==126)=true:=by simp;omega
   have fin:=Lib.hid (show (kindB b:Int)=1 by unfold kindB;rw[if_pos c1];rfl)
   clear hk c1
   go_enter Tryz.func199,Tryz.ntmps199
   go_wp2
   go_ret
   exact ⟨by rw[fin.out];rfl,rfl⟩
 · have h1:((b.toNat:Int)==126)=false:=by simp;omega
   by_cases c2:b.toNat=94
   · have h2:((b.toNat:Int)==94)=true:=by simp;omega
     have fin:=Lib.hid (show (kindB b:Int)=3 by unfold kindB;rw[if_neg c1,if_pos c2];rfl)
     clear hk c1 c2
     go_enter Tryz.func199,Tryz.ntmps199
     go_wp2
     go_ret
     exact ⟨by rw[fin.out];rfl,rfl⟩
   · have h2:((b.toNat:Int)==94)=false:=by simp;omega
     by_cases c3:(97≤b.toNat∧b.toNat≤122)∨(65≤b.toNat∧b.toNat≤90)
     · have fin:=Lib.hid (show (kindB b:Int)=4 by unfold kindB;rw[if_neg c1,if_neg c2,if_pos c3];rfl)
       clear hk c1 c2
       rcases c3 with ⟨a1,a2⟩|⟨a1,a2⟩
       · go_enter Tryz.func199,Tryz.ntmps199
         go_wp2
         go_ret
         exact ⟨by rw[fin.out];rfl,rfl⟩
       · go_enter Tryz.func199,Tryz.ntmps199
         go_wp2
         go_ret
         exact ⟨by rw[fin.out];rfl,rfl⟩
     · by_cases c4:48≤b.toNat∧b.toNat≤57
       · have fin:=Lib.hid (show (kindB b:Int)=5 by unfold kindB;rw[if_neg c1,if_neg c2,if_neg c3,if_pos c4];rfl)
         obtain ⟨a1,a2⟩:=c4
         clear hk c1 c2 c3
         go_enter Tryz.func199,Tryz.ntmps199
         go_wp2
         go_ret
         exact ⟨by rw[fin.out];rfl,rfl⟩
       · have fin:=Lib.hid (show (kindB b:Int)=0 by unfold kindB;rw[if_neg c1,if_neg c2,if_neg c3,if_neg c4];rfl)
         clear hk
         have hc:b.toNat<48∨(57<b.toNat∧b.toNat<65)∨(90<b.toNat∧b.toNat<97)∨122<b.toNat:=by omega
         clear c1 c2 c3 c4
         rcases hc with hc|⟨hc,hd⟩|⟨hc,hd⟩|hc
         all_goals
          go_enter Tryz.func199,Tryz.ntmps199
          go_wp2
          go_ret
          exact ⟨by rw[fin.out];rfl,rfl⟩
theorem run_walk (s:ByteArray) (kd:Nat) (w:World) (hs:s.size≤140737488355327):
  Calls Tryz.prog 198 #[.string s,.int .u8 (kd:Int)] w fun e w'=>e=.returned (.int .i64 ((run kd s.data.toList 0).length:Int))∧w=w':=by
 have hl:=run_len kd s.data.toList 0 (Nat.zero_le _)
 have hsl:s.data.toList.length=s.size:=rfl
 rw[hsl] at hl
 have hat:∀ m (hm:m<s.size) (c:UInt8),m<(run kd s.data.toList 0).length→c=s[m]→kindB c=kd:=fun m hm c h1 h2=>run_at h1 (by rw[Nat.zero_add];exact char_at hm h2)
 have hend:∀ (hm:(run kd s.data.toList 0).length<s.size) (c:UInt8),c=s[(run kd s.data.toList 0).length]→kindB c≠kd:=fun hm c h2=>run_end (by rw[Nat.zero_add];exact char_at hm h2)
 clear hsl
 generalize (run kd s.data.toList 0).length=T at*
 have HA:=Lib.hid hat
 have HE:=Lib.hid hend
 clear hat hend
 have hl':T≤s.size:=by omega
 clear hl
 go_enter Tryz.func198,Tryz.ntmps198
 go_wp2
 go_loop [8] (fun v=>∃ m:Nat,v=.int .i64 (m:Int)∧m≤T) (fun v=>s.size - (intOf v).toNat)
 case atStart=>exact ⟨0,rfl,Nat.zero_le _⟩
 case round=>
  obtain ⟨m,rfl,hmT⟩:=hrel
  by_cases hms:m<s.size
  · obtain ⟨c,hc⟩:∃ c,c=s[m]:=⟨_,rfl⟩
    by_cases hmR:m<T
    · have hkc:=HA.out m hms c hmR hc
      have hc':s[m]=c:=hc.symm
      clear hc
      go_wp2_with (go_at_call 199;refine (kindOf_walk c _).mono ?_;rintro e w' ⟨rfl,rfl⟩)
      go_round
      case rel=>exact ⟨m+1,by go_num,by omega⟩
      case measure=>simp[intOf];omega
    · have hmT':m=T:=by omega
      subst hmT'
      have hkc:=HE.out hms c hc
      have hc':s[m]=c:=hc.symm
      clear hc
      have hkb:((kindB c:Int)!=(kd:Int))=true:=by simp;omega
      go_wp2_with (go_at_call 199;refine (kindOf_walk c _).mono ?_;rintro e w' ⟨rfl,rfl⟩)
      go_ret
      exact ⟨rfl,rfl⟩
  · have hmT':m=T:=by omega
    subst hmT'
    have hms':m=s.size:=by omega
    go_wp2
    go_ret
    exact ⟨rfl,rfl⟩
def sgn (a b:Bool):Int:=if a=true then -1 else if b=true then 1 else 0
theorem nan_u8 (x:Nat) (w:World):Calls Tryz.prog 223 #[.int .u8 (x:Int)] w fun e w'=>e=.returned (.bool false)∧w=w':=by
 go_enter Tryz.func223,Tryz.ntmps223
 go_wp2
 go_ret
 exact ⟨rfl,rfl⟩
theorem cmp_u8 (x y:Nat) (w:World):Calls Tryz.prog 201 #[.int .u8 (x:Int),.int .u8 (y:Int)] w fun e w'=>e=.returned (.int .i64 (sgn (decide (x<y)) (decide (y<x))))∧w=w':=by
 go_enter Tryz.func201,Tryz.ntmps201
 go_wp2_with (go_at_call 223;refine (nan_u8 _ _).mono ?_;rintro e w' ⟨rfl,rfl⟩)
 all_goals go_ret
 all_goals refine ⟨?_,rfl⟩
 all_goals
  simp only[sgn,decide_eq_true_eq]
  show Ending.returned (Value.int .i64 _)=_
  congr 2
  split<;>first|omega|(split<;>omega)
theorem nan_i64 (x:Nat) (w:World):Calls Tryz.prog 182 #[.int .i64 (x:Int)] w fun e w'=>e=.returned (.bool false)∧w=w':=by
 go_enter Tryz.func182,Tryz.ntmps182
 go_wp2
 go_ret
 exact ⟨rfl,rfl⟩
theorem cmp_i64 (x y:Nat) (w:World):Calls Tryz.prog 162 #[.int .i64 (x:Int),.int .i64 (y:Int)] w fun e w'=>e=.returned (.int .i64 (sgn (decide (x<y)) (decide (y<x))))∧w=w':=by
 go_enter Tryz.func162,Tryz.ntmps162
 go_wp2_with (go_at_call 182;refine (nan_i64 _ _).mono ?_;rintro e w' ⟨rfl,rfl⟩)
 all_goals go_ret
 all_goals refine ⟨?_,rfl⟩
 all_goals
  simp only[sgn,decide_eq_true_eq]
  show Ending.returned (Value.int .i64 _)=_
  congr 2
  split<;>first|omega|(split<;>omega)
theorem nan_str (x:ByteArray) (w:World):Calls Tryz.prog 224 #[.string x] w fun e w'=>e=.returned (.bool false)∧w=w':=by
 go_enter Tryz.func224,Tryz.ntmps224
 go_wp2
 go_ret
 exact ⟨rfl,rfl⟩
theorem str_gtr (x y:ByteArray) (w:World):Sem.run Tryz.prog (binOp BinOp.gtr 9 (Value.string x) (Value.string y)) w=.ok (.bool (Op.bytesLess y.toList x.toList)) w:=by
 have h:Sem.run Tryz.prog (binOp BinOp.gtr 9 (Value.string x) (Value.string y)) w=.ok (.bool (!(Op.bytesLess x.toList y.toList||x.toList==y.toList))) w:=by kernel_rfl
 rw[h]
 congr 2
 cases h1:Op.bytesLess x.toList y.toList with
 |true=>
  cases h2:Op.bytesLess y.toList x.toList with
  |false=>rfl
  |true=>exact absurd (bl_trans _ _ _ h1 h2) (by rw[bl_irrefl];simp)
 |false=>
  by_cases he:x.toList=y.toList
  · rw[he,bl_irrefl];simp
  · cases h2:Op.bytesLess y.toList x.toList with
    |true=>simp[he]
    |false=>exact absurd (bl_total _ _ h1 h2) he
theorem cmp_str (x y:ByteArray) (w:World):Calls Tryz.prog 202 #[.string x,.string y] w fun e w'=>e=.returned (.int .i64 (sgn (Op.bytesLess x.data.toList y.data.toList) (Op.bytesLess y.data.toList x.data.toList)))∧w=w':=by
 rw[← ByteArray.toList_eq,← ByteArray.toList_eq]
 have hg:=str_gtr x y
 go_enter Tryz.func202,Tryz.ntmps202
 go_wp2_with (go_at_call 224;refine (nan_str _ _).mono ?_;rintro e w' ⟨rfl,rfl⟩)
 all_goals go_ret
 all_goals refine ⟨?_,rfl⟩
 all_goals
  show Ending.returned (Value.int .i64 _)=_
  congr 2
  simp_all [sgn]
end
section
open Go.RowKit Ver
def strLen:Value→Nat
 | .string s=>s.size
 | _=>0
theorem trimByte_walk (s:ByteArray) (w:World):
  Calls Tryz.prog 219 #[.string s,.int .u8 48] w fun e w'=>e=.returned (.string (s.extract (zeros s.data.toList) s.size))∧w=w':=by
 have hsl:s.data.toList.length=s.size:=rfl
 have hl:zeros s.data.toList≤s.size:=by rw[← hsl];exact tw_len _ _
 have hat:∀ m (hm:m<s.size) (c:UInt8),m<zeros s.data.toList→c=s[m]→c.toNat=48:=fun m hm c h1 h2=>by
  obtain ⟨d,h3,h4⟩:=tw_at (fun b:UInt8=>b.toNat==48) s.data.toList m h1
  rw[char_at hm h2] at h3
  rw[Option.some.inj h3]
  simpa using h4
 have hend:∀ (hm:zeros s.data.toList<s.size) (c:UInt8),c=s[zeros s.data.toList]→c.toNat≠48:=fun hm c h2=>by
  have:=tw_end (fun b:UInt8=>b.toNat==48) s.data.toList c (char_at hm h2)
  simpa using this
 have hget:∀ (m:Nat) (h0:0<(s.extract m s.size).size) (hm:m<s.size),(s.extract m s.size)[0]=s[m]:=fun m h0 hm=>by
  rw[ByteArray.getElem_extract]
  congr 1
 have hcut:∀ m,m<s.size→(s.extract m s.size).extract 1 (s.extract m s.size).size=s.extract (m+1) s.size:=fun m hm=>by
  rw[ByteArray.extract_extract,ByteArray.size_extract]
  congr 1
  omega
 clear hsl
 generalize zeros s.data.toList=T at*
 have HA:=Lib.hid hat
 have HE:=Lib.hid hend
 have HG:=Lib.hid hget
 have HC:=Lib.hid hcut
 clear hat hend hget hcut
 go_enter Tryz.func219,Tryz.ntmps219
 go_wp2
 go_loop [0] (fun v=>∃ (m:Nat) (t:ByteArray),v=.string t∧t=s.extract m s.size∧m≤T) (fun v=>strLen v)
 case atStart=>exact ⟨0,s,rfl,by rw[ByteArray.extract_zero_size],Nat.zero_le _⟩
 case round=>
  obtain ⟨m,t,rfl,ht,hmT⟩:=hrel
  have hts:t.size=s.size - m:=by rw[ht,ByteArray.size_extract];omega
  have Ht:=Lib.hid ht
  by_cases hms:m<s.size
  · have h0:0<t.size:=by omega
    obtain ⟨c,hc⟩:∃ c,c=t[0]:=⟨_,rfl⟩
    have hcs:c=s[m]:=by subst ht;rw[hc];exact HG.out m h0 hms
    have hcut:t.extract 1 t.size=s.extract (m+1) s.size:=by rw[ht];exact HC.out m hms
    clear ht
    obtain ⟨t',ht'⟩:∃ t',t'=t.extract 1 t.size:=⟨_,rfl⟩
    have HT':=Lib.hid (ht'.trans hcut)
    have hex:t.extract 1 t.size=t':=ht'.symm
    have hex2:t.extract 1 (s.size - m)=t':=by rw[← hts];exact hex
    have hsz':t'.size=s.size - m - 1:=by rw[ht',ByteArray.size_extract];omega
    have HSZ:=Lib.hid hsz'
    have HTS:=Lib.hid hts
    clear hcut ht' hsz' hts
    by_cases hmR:m<T
    · have h48:=HA.out m hms c hmR hcs
      have hc':t[0]=c:=hc.symm
      have hc4:((c.toNat:Int)==48)=true:=by simp;omega
      clear hc hcs
      go_wp2
      go_round
      case rel=>exact ⟨m+1,t',rfl,HT'.out,by omega⟩
      case measure=>simp[strLen];have:=HSZ.out;have:=HTS.out;omega
    · have hmT':m=T:=by omega
      subst hmT'
      have h48:=HE.out hms c hcs
      have hc':t[0]=c:=hc.symm
      have hc4:((c.toNat:Int)==48)=false:=by simp;omega
      clear hc hcs
      go_wp2
      go_ret
      exact ⟨by rw[Ht.out];rfl,rfl⟩
  · have hmT':m=T:=by omega
    have h0:¬ 0<t.size:=by omega
    have hz:t.size=0:=by omega
    clear ht hts h0
    go_wp2
    go_ret
    exact ⟨by rw[Ht.out,hmT'];rfl,rfl⟩
theorem trim_walk (s:ByteArray) (w:World):
  Calls Tryz.prog 200 #[.string s,.string ⟨#[48]⟩] w fun e w'=>e=.returned (.string (s.extract (zeros s.data.toList) s.size))∧w=w':=by
 cases hb:s.toList.isEmpty with
 |true=>
  have fin:=Lib.hid (show s.extract (zeros s.data.toList) s.size=s by
   have h0:s.toList= []:=by simpa using hb
   have h1:s=⟨#[]⟩:=by
    apply ByteArray.ext
    have h2:s.data.toList= []:=by rw[← ByteArray.toList_eq];exact h0
    simpa using h2
   rw[h1];rfl)
  go_enter Tryz.func200,Tryz.ntmps200
  go_wp2
  go_ret
  exact ⟨by rw[fin.out];rfl,rfl⟩
 |false=>
  go_enter Tryz.func200,Tryz.ntmps200
  go_wp2_with (go_at_call 219;refine (trimByte_walk s _).mono ?_;rintro e w' ⟨rfl,rfl⟩)
  go_ret
  exact ⟨rfl,rfl⟩
def cmpPt (p q:Pt):Int:=sgn (below p q) (below q p)
theorem compareParts_walk (k m:Nat) (s t:ByteArray) (w:World):
  Calls Tryz.prog 185 #[.agg #[.int .u8 (k:Int),.string s],.agg #[.int .u8 (m:Int),.string t]] w fun e w'=>e=.returned (.int .i64 (cmpPt (k,s.data.toList) (m,t.data.toList)))∧Kept (fun _=>False) w w':=by
 have hsl:s.data.toList.length=s.size:=rfl
 have htl:t.data.toList.length=t.size:=rfl
 unfold cmpPt
 by_cases h1:k=m
 · subst h1
   by_cases h5:k=5
   · subst h5
     by_cases hl:s.size=t.size
     · have f1:=Lib.hid (below_case3 5 s.data.toList t.data.toList (by rw[hsl,htl];exact fun h=>h.2 hl))
       have f2:=Lib.hid (below_case3 5 t.data.toList s.data.toList (by rw[hsl,htl];exact fun h=>h.2 hl.symm))
       have hb:((s.size:Int)!=(t.size:Int))=false:=by simp[hl]
       clear hsl htl hl
       go_enter Tryz.func185,Tryz.ntmps185
       go_wp2_with (go_at_call 202;refine (cmp_str _ _ _).mono ?_;rintro e w' ⟨rfl,rfl⟩)
       go_ret
       exact ⟨by rw[f1.out,f2.out];rfl,((Kept.refl _ _).alloc _).alloc _⟩
     · have f1:=Lib.hid (below_case2 s.data.toList t.data.toList (by rw[hsl,htl];exact hl))
       have f2:=Lib.hid (below_case2 t.data.toList s.data.toList (by rw[hsl,htl];omega))
       have hb:((s.size:Int)!=(t.size:Int))=true:=by simp;omega
       clear hsl htl hl
       go_enter Tryz.func185,Tryz.ntmps185
       go_wp2_with (go_at_call 162;refine (cmp_i64 _ _ _).mono ?_;rintro e w' ⟨rfl,rfl⟩)
       go_ret
       exact ⟨by rw[f1.out,f2.out];rfl,((Kept.refl _ _).alloc _).alloc _⟩
   · have f1:=Lib.hid (below_case3 k s.data.toList t.data.toList (fun h=>h5 h.1))
     have f2:=Lib.hid (below_case3 k t.data.toList s.data.toList (fun h=>h5 h.1))
     have hb:((k:Int)==5)=false:=by simp;omega
     clear hsl htl
     go_enter Tryz.func185,Tryz.ntmps185
     go_wp2_with (go_at_call 202;refine (cmp_str _ _ _).mono ?_;rintro e w' ⟨rfl,rfl⟩)
     go_ret
     exact ⟨by rw[f1.out,f2.out];rfl,((Kept.refl _ _).alloc _).alloc _⟩
 · have f1:=Lib.hid (below_case1 k m s.data.toList t.data.toList h1)
   have f2:=Lib.hid (below_case1 m k t.data.toList s.data.toList (fun h=>h1 h.symm))
   have hb:((k:Int)!=(m:Int))=true:=by simp;omega
   clear hsl htl
   go_enter Tryz.func185,Tryz.ntmps185
   go_wp2_with (go_at_call 201;refine (cmp_u8 _ _ _).mono ?_;rintro e w' ⟨rfl,rfl⟩)
   go_ret
   exact ⟨by rw[f1.out,f2.out];rfl,((Kept.refl _ _).alloc _).alloc _⟩
theorem compareParts_any (p q:Pt) (w:World):Calls Tryz.prog 185 #[aggP p,aggP q] w fun e w'=>e=.returned (.int .i64 (cmpPt p q))∧Kept (fun _=>False) w w':=
 compareParts_walk p.1 q.1 ⟨p.2.toArray⟩ ⟨q.2.toArray⟩ w
end
section
open Go.RowKit Ver
theorem skip_text (s:ByteArray):(s.extract (run 0 s.data.toList 0).length s.size).data.toList=skip s.data.toList:=by
 rw[extract_list]
 show ((s.data.toList.drop _).take _)=_
 rw[List.take_of_length_le (by simp)]
 unfold skip
 rw[dw_drop]
 rfl
theorem toList_nil {s:ByteArray} (h:s.toList.isEmpty=true):s.data.toList= []:=by rw[← ByteArray.toList_eq];simpa using h
theorem toList_cons {s:ByteArray} (h:s.toList.isEmpty=false):∃ (b:UInt8) (r:List UInt8) (h0:0<s.size),s.data.toList=b::r∧s[0]=b∧(s.extract 1 s.size).data.toList=r:=by
 rw[ByteArray.toList_eq] at h
 cases hs:s.data.toList with
 |nil=>rw[hs] at h;simp at h
 |cons b r=>
  have h0:0<s.size:=by
   have:s.data.toList.length=s.size:=rfl
   rw[← this,hs];simp
  refine ⟨b,r,h0,rfl,?_,?_⟩
  · have:=char_at (s:=s) (k:=0) (b:=s[0]) h0 rfl
    rw[hs] at this
    simpa using this.symm
  · rw[extract_list,hs]
    have:s.size - 1=r.length:=by
     have:s.data.toList.length=s.size:=rfl
     rw[← this,hs];simp
    simp[this]
theorem first_walk (s:ByteArray) (w:World) (hs:s.size≤140737488355327):
  Calls Tryz.prog 184 #[.string s] w fun e w'=>(∃ rest:ByteArray,e=.returned (.tuple #[aggP (fst s.data.toList).1,.string rest])∧rest.data.toList=(fst s.data.toList).2)∧Kept (fun _=>False) w w':=by
 have hsl:s.data.toList.length=s.size:=rfl
 have hz:=run_len 0 s.data.toList 0 (Nat.zero_le _)
 have hsk:=skip_text s
 rw[hsl] at hz
 obtain ⟨z,hzz⟩:∃ z,z=(run 0 s.data.toList 0).length:=⟨_,rfl⟩
 have hr:∀ W,Calls Tryz.prog 198 #[.string s,.int .u8 0] W fun e w'=>e=.returned (.int .i64 (z:Int))∧W=w':=fun W=>by rw[hzz];exact run_walk s 0 W hs
 rw[← hzz] at hz hsk
 have hzs:z≤s.size:=by omega
 obtain ⟨s1,hs1⟩:∃ s1,s1=s.extract z s.size:=⟨_,rfl⟩
 rw[← hs1] at hsk
 have hx:s.extract z s.size=s1:=hs1.symm
 have hsz:s1.size≤140737488355327:=by rw[hs1,ByteArray.size_extract];omega
 have hss:s.size - z=s1.size:=by rw[hs1,ByteArray.size_extract];omega
 have HSK:=Lib.hid hsk
 clear hzz hz hs1 hsl hsk
 cases he:s1.toList.isEmpty with
 |true=>
  have fin:=Lib.hid (fst_nil (HSK.out.symm.trans (toList_nil he)))
  clear HSK
  go_enter Tryz.func184,Tryz.ntmps184
  go_wp2_with (go_at_call 198;refine (hr _).mono ?_;rintro e w' ⟨rfl,rfl⟩)
  go_returns
  exact ⟨⟨⟨#[]⟩,by rw[fin.out];rfl,by rw[fin.out]⟩,(Kept.refl _ _).alloc _⟩
 |false=>
  obtain ⟨b,r,h0,hbr,hb0,hrest⟩:=toList_cons he
  have hk0:=skip_head _ b r (HSK.out.symm.trans hbr)
  have HR:=Lib.hid hrest
  have HB:=Lib.hid hbr
  obtain ⟨s2,hs2⟩:∃ s2,s2=s1.extract 1 s1.size:=⟨_,rfl⟩
  have hx2:s1.extract 1 s1.size=s2:=hs2.symm
  rw[hx2] at HR
  clear hbr hrest hs2
  have h5:=kindB_le b
  have hn2:=kindB_ne2 b
  by_cases hb4:kindB b<4
  · have fin:=Lib.hid (fst_mark (HSK.out.symm.trans HB.out) hb4)
    have e4:((kindB b:Int)==4)=false:=by simp;omega
    have e5:((kindB b:Int)==5)=false:=by simp;omega
    clear HSK h5 hn2 hk0
    go_enter Tryz.func184,Tryz.ntmps184
    go_wp2_with (first
     |(go_at_call 198;refine (hr _).mono ?_;rintro e w' ⟨rfl,rfl⟩)
     |(go_at_call 199;refine (kindOf_walk b _).mono ?_;rintro e w' ⟨rfl,rfl⟩))
    go_region
    go_wp2
    go_returns
    exact ⟨⟨s2,by rw[fin.out];rfl,by rw[fin.out];exact HR.out⟩,by first|exact (Kept.refl _ _).alloc _|exact ((Kept.refl _ _).alloc _).drew⟩
  · have fin:=Lib.hid (fst_run (HSK.out.symm.trans HB.out) hb4)
    have hrl:=run_len (kindB b) s1.data.toList 0 (Nat.zero_le _)
    have hl1:s1.data.toList.length=s1.size:=rfl
    rw[hl1] at hrl
    obtain ⟨n,hn⟩:∃ n,n=(run (kindB b) s1.data.toList 0).length:=⟨_,rfl⟩
    have hr2:∀ W,Calls Tryz.prog 198 #[.string s1,.int .u8 (kindB b:Int)] W fun e w'=>e=.returned (.int .i64 (n:Int))∧W=w':=fun W=>by rw[hn];exact run_walk s1 (kindB b) W hsz
    rw[← hn] at hrl
    have hns:n≤s1.size:=by omega
    obtain ⟨t1,ht1⟩:∃ t1,t1=s1.extract 0 n:=⟨_,rfl⟩
    have hx3:s1.extract 0 n=t1:=ht1.symm
    have htl:t1.data.toList=run (kindB b) s1.data.toList 0:=by
     rw[ht1,extract_list,hn]
     show (s1.data.toList.drop 0).take _=_
     rw[Nat.sub_zero]
     exact (tw_take _ _).symm
    obtain ⟨s3,hs3⟩:∃ s3,s3=s1.extract n s1.size:=⟨_,rfl⟩
    have hx4:s1.extract n s1.size=s3:=hs3.symm
    have hs3l:s3.data.toList=(b::r).dropWhile (fun c=>kindB c==kindB b):=by
     rw[hs3,extract_list,dw_drop,← HB.out,hn]
     show (s1.data.toList.drop _).take _=_
     rw[List.take_of_length_le (by simp)]
     rfl
    have HT:=Lib.hid htl
    have HS3:=Lib.hid hs3l
    clear hn ht1 hs3 htl hs3l hrl hl1
    by_cases hb5:kindB b=5
    · have e4:((kindB b:Int)==4)=false:=by simp;omega
      have e5:((kindB b:Int)==5)=true:=by simp;omega
      have HB5:=Lib.hid hb5
      obtain ⟨t2,ht2⟩:∃ t2,t2=t1.extract (zeros t1.data.toList) t1.size:=⟨_,rfl⟩
      have hr3:∀ W,Calls Tryz.prog 200 #[.string t1,.string ⟨#[48]⟩] W fun e w'=>e=.returned (.string t2)∧W=w':=fun W=>by rw[ht2];exact trim_walk t1 W
      have ht2l:t2.data.toList=t1.data.toList.dropWhile (fun b=>b.toNat==48):=by
       rw[ht2,extract_list,dw_drop]
       show (t1.data.toList.drop _).take _=_
       rw[List.take_of_length_le (by simp)]
       rfl
      have HT2:=Lib.hid ht2l
      clear hb4 hb5 h5 hn2 hk0 ht2 ht2l HSK
      go_enter Tryz.func184,Tryz.ntmps184
      go_wp2_with (first
       |(go_at_call 199;refine (kindOf_walk b _).mono ?_;rintro e w' ⟨rfl,rfl⟩)
       |(go_at_call 200;refine (hr3 _).mono ?_;rintro e w' ⟨rfl,rfl⟩)
       |(go_at_call 198;with_reducible refine (hr2 _).mono ?_;rintro e w' ⟨rfl,rfl⟩)
       |(go_at_call 198;with_reducible refine (hr _).mono ?_;rintro e w' ⟨rfl,rfl⟩))
      go_region
      go_wp2
      go_returns
      refine ⟨⟨s3,?_,by rw[fin.out];exact HS3.out⟩,((Kept.refl _ _).alloc _).drew⟩
      rw[fin.out]
      have e6:norm (kindB b,(b::r).takeWhile (fun c=>kindB c==kindB b))=(kindB b,t2.data.toList):=by
       unfold norm
       rw[if_pos HB5.out,HT2.out,HT.out,HB.out]
       rfl
      rw[e6]
      rfl
    · have e4:((kindB b:Int)==4)=true:=by simp;omega
      have e5:((kindB b:Int)==5)=false:=by simp;omega
      have HB5:=Lib.hid hb5
      clear hb4 hb5 h5 hn2 hk0 HSK
      go_enter Tryz.func184,Tryz.ntmps184
      go_wp2_with (first
       |(go_at_call 199;refine (kindOf_walk b _).mono ?_;rintro e w' ⟨rfl,rfl⟩)
       |(go_at_call 198;with_reducible refine (hr2 _).mono ?_;rintro e w' ⟨rfl,rfl⟩)
       |(go_at_call 198;with_reducible refine (hr _).mono ?_;rintro e w' ⟨rfl,rfl⟩))
      go_region
      go_wp2
      go_returns
      refine ⟨⟨s3,?_,by rw[fin.out];exact HS3.out⟩,((Kept.refl _ _).alloc _).drew⟩
      rw[fin.out]
      have e6:norm (kindB b,(b::r).takeWhile (fun c=>kindB c==kindB b))=(kindB b,t1.data.toList):=by
       unfold norm
       rw[if_neg HB5.out,HT.out,HB.out]
       rfl
      rw[e6]
      rfl
theorem first_any (s:ByteArray) (w:World) (hs:s.size≤140737488355327):
  Calls Tryz.prog 184 #[.string s] w fun e w'=>(∃ (k:Nat) (tl:List UInt8) (rest:ByteArray),e=.returned (.tuple #[.agg #[.int .u8 (k:Int),.string ⟨tl.toArray⟩],.string rest])∧fst s.data.toList=((k,tl),rest.data.toList))∧Kept (fun _=>False) w w':=
 (first_walk s w hs).mono fun e w' ⟨⟨rest,he,hr⟩,hk⟩=>⟨⟨_,_,rest,he,by rw[hr]⟩,hk⟩
end
section
open Go.RowKit Ver Go.Shelf
attribute [local go_sem] Oper.semAt_some
theorem partsOf_in (n:Nat) (s:ByteArray) (w:World):
  CallsIn Fence.wide n Tryz.prog 183 #[.string s] w fun e w'=>e=.returned (.func (.func 197) #[] #[.pointer (some ⟨w.heap.size,0,none⟩)])∧w'=w.alloc (.cells #[.string s] 9):=by
 refine callsIn_of_wp Tryz.func183 rfl trivial ?_ rfl
 simp only[Tryz.ntmps183,List.size_toArray,List.length_cons,List.length_nil,Nat.reduceAdd,Nat.reduceSub,Array.replicate_succ,Array.replicate_zero,List.push_toArray,List.append_toArray,List.nil_append,List.cons_append]
 gi_wp2
 go_ret
 exact ⟨rfl,rfl⟩
def kindLeft:Option Value→Nat
 |some (.int _ k)=>if k=2 then 0 else 1
 | _=>0
def addrOf:Value→Addr
 | .pointer (some p)=>p
 | _=>⟨0,0,none⟩
abbrev encP (p:Pt):Array Value:=#[.agg #[.int .u8 (p.1:Int),.string ⟨p.2.toArray⟩]]
theorem parts_iter (n:Nat) (hn:1≤n) (l Bn n₀ :Nat) (M:World→Nat→Prop) (hM:Mut n₀ M) (s:ByteArray) (hs:s.size≤140737488355327) (J Jx:List Pt→World→Prop) (W:World) (hJ:AbidesFrom W.heap.size J)
  (hY:∀ pre x W,J pre W→pre.length<(parts s.data.toList).length→YieldAt Fence.wide (n - 1) Tryz.prog l (encP x) W fun e W'=>
    (e=.returned (.bool true)∧J (pre++ [x]) W'∧KpM M W W')∨(e=.returned (.bool false)∧Jx (pre++ [x]) W'))
  (hBn:W.cell? ⟨Bn,0,none⟩=some (.string s)) (hn₀ :n₀ ≤W.heap.size) (hT:There M W) (h0:J [] W):
  CallsIn Fence.wide n Tryz.prog 197 #[.func (.yield l) #[] #[],.pointer (some ⟨Bn,0,none⟩)] W fun e W'=>(∃ v,e=.returned v)∧
   ((∃ ys,ys=parts s.data.toList∧J ys W')∨(∃ pre,pre <+: parts s.data.toList∧Jx pre W')):=by
 refine callsIn_of_wp Tryz.func197 rfl trivial ?_ rfl
 simp only[Tryz.ntmps197,List.size_toArray,List.length_cons,List.length_nil,Nat.reduceAdd,Nat.reduceSub,Array.replicate_succ,Array.replicate_zero,List.push_toArray,List.append_toArray,List.nil_append,List.cons_append]
 have Hs:=Lib.hid hs
 gi_wp2_with (refine ⟨trivial,?_⟩;gi_at_call 184;refine (callsIn_wide.2 (first_any s _ Hs.out)).mono ?_;rintro e w0 ⟨⟨k0,tl0,rest0,rfl,hf0⟩,hk0⟩)
 have HF0:=Lib.hid hf0
 clear hf0
 gi_loopw [3,4] (fun v3 v4 wr=>∃ (pre:List Pt) (B k:Nat) (tl:List UInt8) (rest:ByteArray) (t:List UInt8),v3=.pointer (some ⟨B,0,none⟩)∧v4=.string rest∧Box wr B 214 #[.int .u8 (k:Int),.string ⟨tl.toArray⟩]∧¬ M wr B∧There M wr∧n₀ ≤wr.heap.size∧J pre wr∧
   fst t=((k,tl),rest.data.toList)∧parts s.data.toList=pre++parts t∧rest.size≤140737488355327) (fun v3 v4 wr=>strLen v4+kindLeft (wr.cell? (addrOf v3)))
 case atStart=>
  have hkA:=hk0.alloc (.cells #[.int .u8 (k0:Int),.string ⟨tl0.toArray⟩] 214)
  obtain ⟨h1,h2⟩:=KpM.fresh hM hn₀ hT hkA (g:=w0.heap.size) hk0.size
  exact ⟨[],w0.heap.size,k0,tl0,rest0,s.data.toList,rfl,rfl,Box.made _ _ _,h1,h2,Nat.le_trans hn₀ hkA.size,abides hJ h0 hkA,HF0.out,rfl,by
   have:=skip_fst_len s.data.toList
   rw[HF0.out] at this
   have e1:rest0.data.toList.length=rest0.size:=rfl
   have e2:s.data.toList.length=s.size:=rfl
   simp only[e1,e2] at this
   have:=Hs.out
   omega⟩
 case round=>
  obtain ⟨pre,B,k,tl,rest,t,rfl,rfl,hB,hMB,hTr,hnr,hJr,hf,hp,hrs⟩:=hrel
  have c0:wr.cell? ⟨B,0,none⟩=some (.int .u8 (k:Int)):=hB.cell 0
  have HF:=Lib.hid hf
  have HP:=Lib.hid hp
  clear hf hp
  by_cases h2:k=2
  · have hend:=fst_end (l:=t) (by rw[HF.out];exact h2)
    have hkb:((k:Int)!=2)=false:=by simp;omega
    have HE:=Lib.hid hend
    have H2:=Lib.hid h2
    clear hend h2
    gi_wp2
    go_end0
    exact ⟨⟨_,rfl⟩,.inl ⟨pre,by rw[HP.out,HE.out,List.append_nil],hJr⟩⟩
  · obtain ⟨hpt,hlt⟩:=fst_part (l:=t) (by rw[HF.out];exact h2)
    rw[HF.out] at hpt hlt
    have hkb:((k:Int)!=2)=true:=by simp;omega
    obtain ⟨fn,tmps,assign,body,hy,hR⟩:=hY pre (k,tl) wr hJr (by rw[HP.out,hpt];simp)
    have HPT:=Lib.hid hpt
    have HLT:=Lib.hid hlt
    have H2:=Lib.hid h2
    clear hpt hlt h2 hY
    have c1:wr.cell? ⟨B,1,none⟩=some (.string ⟨tl.toArray⟩):=hB.cell 1
    have Hrs:=Lib.hid hrs
    gi_wp2
    refine hR.mono ?_
    rintro e W3 (⟨rfl,hJ3,hk3⟩|⟨rfl,hJx3⟩)
    · have hB3:=hk3.box hB hMB
      have d0:W3.cell? ⟨B,0,none⟩=some (.int .u8 (k:Int)):=hB3.cell 0
      have d1:W3.cell? ⟨B,1,none⟩=some (.string ⟨tl.toArray⟩):=hB3.cell 1
      clear c0 c1
      gi_wp2_with (refine ⟨trivial,?_⟩;gi_at_call 184;refine (callsIn_wide.2 (first_any rest _ Hrs.out)).mono ?_;rintro e w4 ⟨⟨k4,tl4,rest4,rfl,hf4⟩,hk4⟩;have hB4:=hk4.box (Box.made W3 214 #[.int .u8 (k:Int),.string ⟨tl.toArray⟩]) (fun h=>h);have m0:w4.cell? ⟨W3.heap.size,0,none⟩=some (.int .u8 (k:Int)):=hB4.cell 0;have m1:w4.cell? ⟨W3.heap.size,1,none⟩=some (.string ⟨tl.toArray⟩):=hB4.cell 1;have m2:=hB4.free 0;have m3:=hB4.free 1;have HF4:=Lib.hid hf4;clear hf4)
      have hkE:Kept (fun _=>False) W3 ((w4.setCell ⟨W3.heap.size,0,none⟩ (.int .u8 (k4:Int))).setCell ⟨W3.heap.size,1,none⟩ (.string ⟨tl4.toArray⟩)):=
       ((((Kept.refl (fun _=>False) W3).alloc _).trans hk4 (fun _ _ h=>h)).setCell (p:=⟨W3.heap.size,0,none⟩) (.inr (Nat.le_refl _)) _).setCell (p:=⟨W3.heap.size,1,none⟩) (.inr (Nat.le_refl _)) _
      have hBE:Box ((w4.setCell ⟨W3.heap.size,0,none⟩ (.int .u8 (k4:Int))).setCell ⟨W3.heap.size,1,none⟩ (.string ⟨tl4.toArray⟩)) W3.heap.size 214 #[.int .u8 (k4:Int),.string ⟨tl4.toArray⟩]:=
       (hB4.stored 0 _).stored 1 _
      have hT3:=hTr.kept hk3
      have hn3:=Nat.le_trans hnr hk3.size
      obtain ⟨f1,f2⟩:=KpM.fresh hM hn3 hT3 hkE (g:=W3.heap.size) (Nat.le_refl _)
      have hJ5:=abides hJ hJ3 hkE
      have hl4:=skip_fst_len rest.data.toList
      have e1:rest4.data.toList.length=rest4.size:=rfl
      have e2:rest.data.toList.length=rest.size:=rfl
      rw[HF4.out] at hl4
      simp only[e1,e2] at hl4
      have hcE:((w4.setCell ⟨W3.heap.size,0,none⟩ (.int .u8 (k4:Int))).setCell ⟨W3.heap.size,1,none⟩ (.string ⟨tl4.toArray⟩)).cell? ⟨W3.heap.size,0,none⟩=some (.int .u8 (k4:Int)):=hBE.cell 0
      have hcB:wr.cell? ⟨B,0,none⟩=some (.int .u8 (k:Int)):=hB.cell 0
      have hmeas:strLen (.string rest4)+kindLeft (some (.int .u8 (k4:Int)))<strLen (.string rest)+kindLeft (some (.int .u8 (k:Int))):=by
       have hk2:¬ ((k:Int)=2):=by have:=H2.out;omega
       simp only[strLen,kindLeft,if_neg hk2]
       by_cases h4:k4=2
       · rw[if_pos (by omega)]
         have:=(fst_out (l:=rest.data.toList) (by rw[HF4.out];exact h4)).2
         rw[HF4.out] at this
         have e3:rest4.size=0:=by rw[← e1];simp only[] at this;rw[this];rfl
         omega
       · rw[if_neg (by omega)]
         have:=(fst_part (l:=rest.data.toList) (by rw[HF4.out];exact h4)).2
         rw[HF4.out] at this
         simp only[e1,e2] at this
         omega
      generalize (w4.setCell ⟨W3.heap.size,0,none⟩ (.int .u8 (k4:Int))).setCell ⟨W3.heap.size,1,none⟩ (.string ⟨tl4.toArray⟩)=w5 at*
      go_roundw
      case rel=>
       exact ⟨pre++ [(k,tl)],W3.heap.size,k4,tl4,rest4,rest.data.toList,rfl,rfl,hBE,f1,f2,Nat.le_trans hn3 hkE.size,hJ5,HF4.out,by rw[HP.out,HPT.out];simp,by have:=Hrs.out;omega⟩
      case measure=>
       simp only[addrOf]
       rw[hcE,hcB]
       exact hmeas
    · gi_wp2
      refine bodyPost_ret (results_none rfl _ _ _) rfl ?_
      exact ⟨⟨_,rfl⟩,.inr ⟨pre++ [(k,tl)],⟨parts rest.data.toList,by rw[HP.out,HPT.out];simp⟩,hJx3⟩⟩
theorem parts_stops (n:Nat) (hn:1≤n) (Bn n₀ :Nat) (M:World→Nat→Prop) (hM:Mut n₀ M) (s:ByteArray) (hs:s.size≤140737488355327) (w:World) (hB:Bn<w.heap.size) (hc:w.cell? ⟨Bn,0,none⟩=some (.string s)) (hn₀ :n₀ ≤w.heap.size) (hT:There M w):
  SeqStopsK Fence.wide n Tryz.prog 197 #[.pointer (some ⟨Bn,0,none⟩)] encP (KpM M) (fun ys=>ys=parts s.data.toList) (fun pre=>pre <+: parts s.data.toList) (parts s.data.toList).length w:=fun l J Jx W hW hJ _ hY h0=>
 parts_iter n hn l Bn n₀ M hM s hs J Jx W hJ hY ((hW.cell (p:=⟨Bn,0,none⟩) hB).trans hc) (Nat.le_trans hn₀ hW.size) (fun i hi=>Nat.lt_of_lt_of_le (hT i (hM w W (fun k hk=>hW.block k (by omega)) i hi)) hW.size) h0
end
end Go.Proofs.YtapnddagongljaaGreatDoor
