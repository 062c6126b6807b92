/-
  The texts Names12, Sort12, Obs12. Conditions: as each theorem states.
-/
import Derived.Test.YtkoiocpnikiolaaGreatDoorK35
import Derived.Maps.RangeWalk
import Derived.Shelf.Sort.Plain
import Derived.Shelf.Slices.In.SortNone
import Derived.Sort.OwnSorted
import Derived.Test.YtkoiocpnikiolaaGreatDoorK36
import Derived.BigQuiet
set_option maxRecDepth 100000
set_option maxHeartbeats 16000000
namespace Go.Proofs.YtkoiocpnikiolaaGreatDoor
section
open Go.RowKit Ver Evr Span Dep Rich
open Go.Maps Go.ChangeMaps Go.MapKept Go.ChangeShapes Go.WideMaps
open Go.WideElems (Fit rd rg pl rd_val rd_key rg_of elemAt)
def noElem:Value→Option (DataW Unit×List MemPlace):=fun _=>some (.nil,[])
theorem fit_keys {P:Program} {k:TypeId} {R:Value→Option (DataW Unit×List MemPlace)} {es:Array MapEntry} {clock:Nat} (F:Fit P k R es clock):Fit P k noElem es clock:=⟨F.size,F.stamped,fun x hx=>by
 obtain ⟨y,hy⟩:=F.reads x hx
 exact ⟨(y.1,.nil),by simp[WideElems.rd,rd_key hy,noElem]⟩⟩
theorem has_keys {P:Program} {k:TypeId} {R:Value→Option (DataW Unit×List MemPlace)} {es:Array MapEntry} {clock:Nat} (F:Fit P k R es clock) (kl:Lit):Maps.has (DataW.map ((es.toList.map (rg P k R)).foldr DataW.insert [])) kl=true↔∃ x∈es.toList,∃ l,keyOf P k x.key=some l∧l.sameKey kl=true:=by
 show ((es.toList.map (rg P k R)).foldr DataW.insert []).any (fun p=>p.1.sameKey kl)=true↔_
 rw[List.any_eq_true]
 constructor
 · rintro ⟨p,hp,hk⟩
   obtain ⟨x,hx,rfl⟩:=List.mem_map.1 (mem_sorted.1 hp)
   obtain ⟨y,hy⟩:=F.reads x hx
   rw[rg_of hy] at hk
   exact ⟨x,hx,y.1,rd_key hy,hk⟩
 · rintro ⟨x,hx,l,hl,hk⟩
   obtain ⟨y,hy⟩:=F.reads x hx
   refine ⟨rg P k R x,mem_sorted.2 (List.mem_map.2 ⟨x,hx,rfl⟩),?_⟩
   rw[rg_of hy]
   have:=rd_key hy
   rw[hl] at this
   injection this with this
   rw[← this]
   exact hk
theorem PG.keys {lo:Nat} {B:Nat→Prop} {inst:Int} {w:World} {pb:Nat} {v:Value} {mb:Nat} {D:DataW Unit} {l:List PRow} {L:List ByteArray} (h:PG lo B inst w pb v mb D l L):∃ D0,w.ownsMap Tryz.prog 9 noElem mb L.length D0∧∀ kl,Maps.has D0 kl=true↔∃ nm∈L,kl=.string nm.data.toList:=by
 have hgro:=h.gro
 obtain ⟨es,clock,hb,F,hs,rfl,_⟩:=h.grp
 refine ⟨_,⟨es,clock,hb,fit_keys F,hs,rfl⟩,fun kl=>?_⟩
 have e:Maps.has (DataW.map ((es.toList.map (rg Tryz.prog 9 noElem)).foldr DataW.insert [])) kl=true↔Maps.has (DataW.map ((es.toList.map (rg Tryz.prog 9 (rowElem w (mb+1) 3 .i64))).foldr DataW.insert [])) kl=true:=(has_keys (fit_keys F) kl).trans (has_keys F kl).symm
 rw[e]
 refine ⟨hgro.2.2 kl,?_⟩
 rintro ⟨nm,hnm,rfl⟩
 cases hh:Maps.has (DataW.map ((es.toList.map (rg Tryz.prog 9 (rowElem (H:=Unit) w (mb+1) 3 .i64))).foldr DataW.insert [])) (.string nm.data.toList) with
 |true=>rfl
 |false=>
  exfalso
  have h1:=atKey_of_not_has hh (.nil:DataW Unit)
  rw[hgro.2.1 nm] at h1
  unfold posD at h1
  obtain ⟨i,hi⟩:=List.mem_iff_getElem?.1 hnm
  have hm:=pos_mem.2 hi
  rw[if_neg (fun e=>by rw[e] at hm;cases hm)] at h1
  cases h1
theorem key_string {key:Value} {kl:Lit} (h:keyOf Tryz.prog 9 key=some kl):∃ s:ByteArray,key=.string s:=by
 obtain ⟨s,e,_⟩:=WideMaps.string_of_keyOf Tryz.underlying9 h
 exact ⟨s,e⟩
theorem key_lit {s:ByteArray} {kl:Lit} (h:keyOf Tryz.prog 9 (.string s)=some kl):kl=.string s.data.toList:=by
 obtain ⟨s',e,e2,_⟩:=WideMaps.string_of_keyOf Tryz.underlying9 h
 injection e with e
 subst e
 exact e2
theorem string_same {a b:ByteArray}:(Lit.string a.data.toList).sameKey (Lit.string b.data.toList)=true↔a=b:=by
 constructor
 · intro h
   have:=WideAt.sameKey_eq h
   injection this with this
   exact ByteArray.ext (Array.toList_inj.1 this)
 · rintro rfl
   exact WideAt.sameKey_self (show WideAt.IsKeyLit (.string a.data.toList) from trivial)
structure NmC (L:List ByteArray) (left:Lit→Bool) (acc:List ByteArray):Prop where
 mem:∀ nm,nm∈acc↔nm∈L∧left (.string nm.data.toList)=false
 nd:acc.Nodup
 lf:∀ kl,left kl=true→∃ nm∈L,kl=.string nm.data.toList
theorem NmC.start {L:List ByteArray} {D0:DataW Unit} (h:∀ kl,Maps.has D0 kl=true↔∃ nm∈L,kl=.string nm.data.toList):NmC L (Maps.has D0) []:=by
 refine ⟨fun nm=>⟨fun h=>(by cases h),fun ⟨h1,h2⟩=>?_⟩,List.nodup_nil,fun kl hk=>(h kl).1 hk⟩
 rw[(h _).2 ⟨nm,h1,rfl⟩] at h2
 cases h2
theorem NmC.step {L:List ByteArray} {left:Lit→Bool} {acc:List ByteArray} (h:NmC L left acc) {s:ByteArray} (hs:left (.string s.data.toList)=true):NmC L (fun z=>left z&& !z.sameKey (.string s.data.toList)) (acc++ [s]):=by
 have hsL:s∈L:=by
  obtain ⟨nm,h1,h2⟩:=h.lf _ hs
  injection h2 with h2
  rw[show s=nm from ByteArray.ext (Array.toList_inj.1 h2)]
  exact h1
 have hsn:s∉acc:=fun hm=>by
  have:=((h.mem s).1 hm).2
  rw[hs] at this
  cases this
 refine ⟨fun nm=>?_,?_,fun kl hk=>h.lf kl (by simp only[Bool.and_eq_true] at hk;exact hk.1)⟩
 · rw[List.mem_append,List.mem_singleton,h.mem nm]
   by_cases e:nm=s
   · subst e
     simp[hsL,string_same.2 rfl]
   · have:(Lit.string nm.data.toList).sameKey (.string s.data.toList)=false:=by
      cases hh:(Lit.string nm.data.toList).sameKey (.string s.data.toList) with
      |false=>rfl
      |true=>exact absurd (string_same.1 hh) e
     simp[e,this]
 · rw[List.nodup_append]
   exact ⟨h.nd,List.nodup_cons.2 ⟨List.not_mem_nil,List.nodup_nil⟩,fun a ha b hb=>by
    rw[List.mem_singleton] at hb
    subst hb
    exact fun e=>hsn (e ▸ ha)⟩
theorem NmC.le {L:List ByteArray} {left:Lit→Bool} {acc:List ByteArray} (h:NmC L left acc):acc.length≤L.length:=by
 exact List.Nodup.length_le_of_subset h.nd (fun x hx=>((h.mem x).1 hx).1)
def SortOk (sortB:List ByteArray→List ByteArray):Prop:=
 (∀ (W:World) (base blk cap:Nat) (ss:List ByteArray),W.ownsRow base 9 1 (.slice (some ⟨blk,0,none⟩) ss.length cap) ss.length (cellsS ss)→ss.length≤1000000→
   Calls Tryz.prog 46 #[.slice (some ⟨blk,0,none⟩) ss.length cap] W fun e w'=>e=.returned (.tuple #[])∧Kept (fun b=>b=blk) W w'∧w'.ownsRow base 9 1 (.slice (some ⟨blk,0,none⟩) ss.length cap) ss.length (cellsS (sortB ss)))∧
 (∀ W,Calls Tryz.prog 46 #[.slice none 0 0] W fun e w'=>e=.returned (.tuple #[])∧Kept (fun _=>False) W w')∧(sortB []= [])∧∀ ss,(sortB ss).length=ss.length
theorem names12_walk {lo:Nat} {B:Nat→Prop} {inst:Int} {w:World} {pb:Nat} {v:Value} {mb:Nat} {D:DataW Unit} {l:List PRow} {L:List ByteArray} (h:PG lo B inst w pb v mb D l L) (hL:L.length<1000000) (hsz:∀ nm∈L,nm.size≤1000000) {sortB:List ByteArray→List ByteArray} (hSo:SortOk sortB):
  Calls Tryz.prog 15 #[.pointer (some ⟨pb,0,none⟩)] w fun e w'=>(∃ (u:Value) (acc:List ByteArray),e=.returned u∧w'.ownsRow w.heap.size 9 1 u (sortB acc).length (cellsS (sortB acc))∧acc.Nodup∧∀ nm,nm∈acc↔nm∈L)∧Kept (fun _=>False) w w':=by
 obtain ⟨D0,hown,hkeys⟩:=h.keys
 have c2:w.cell? ⟨pb,2,none⟩=some (.map (some mb)):=h.box.cell 2
 have HK0:=Lib.hid hkeys
 have HSZ:=Lib.hid hsz
 have HSO:=Lib.hid hSo
 have hmlt:=(groups_lt h.grp).1
 obtain ⟨i0,z0f,z00,z01,z02⟩:=info_get10 info_str
 clear h hkeys hsz hSo
 go_enter Tryz.func15,Tryz.ntmps15
 go_wp2_with (first
  |(at_range;refine wpList_range_own _ rfl _ 78 rfl 9 34 string_keyed12 Tryz.underlying78 _ mb L.length D0 rfl hown ?_;intro w0 hrg0 hg0 hs0)
  |fail)
 go_frame
 go_loopw [3] (fun v3 wr=>∃ (left:Lit→Bool) (cnt:Nat) (acc:List ByteArray),wr.ranges Tryz.prog 9 noElem mb w.heap.size L.length D0 left cnt∧wr.ownsRow w.heap.size 9 1 v3 acc.length (cellsS acc)∧(∀ g,v3.ownBlock=some g→w.heap.size<g)∧Hid (NmC L left acc∧Kept (fun _=>False) w wr)) (fun _ wr=>wr.rangeLeft mb w.heap.size)
 case atStart=>exact ⟨_,_,[],hrg0,World.ownsRow_nil _ _ _ _,fun g hg=>(by cases hg),Lib.hid ⟨NmC.start HK0.out,kept_grown hg0 (fun i hi=>by cases hi)⟩⟩
 case round=>
  obtain ⟨left,cnt,acc,hrg,hrow,hob,HN⟩:=hrel
  rename World=>wr
  go_wp2_with (first
   |(at_next;refine wpList_next_ranges _ rfl _ rfl 9 string_keyed12 noElem Value.string (fun v:Value=>v) (fun key kl hk=>key_string hk) (fun v y _=>⟨v,rfl⟩) mb w.heap.size L.length _ _ _ rfl hrg ?_ ?_)
   |fail)
  · intro _ hl0
    have hlast:∀ nm,nm∈acc↔nm∈L:=fun nm=>by rw[HN.out.1.mem nm,hl0];simp
    have hnl:=HN.out.1.le
    rcases hrow.2 with ⟨rfl,h0⟩|⟨g,cap,cur,rfl,hg,_⟩
    · have hz:acc= []:=List.length_eq_zero_iff.1 h0
      subst hz
      have HS:=Lib.hid (HSO.out.2.1 wr)
      have HB:=Lib.hid (HSO.out.2.2.1)
      have HL:=Lib.hid hlast
      clear hrg hrow hob hlast
      go_wp2_with fail
      refine HS.out.mono ?_
      rintro e w9 ⟨rfl,hk9⟩
      go_wp2_with fail
      go_ret
      exact ⟨⟨_,[],rfl,by rw[HB.out];exact World.ownsRow_nil _ _ _ _,List.nodup_nil,HL.out⟩,HN.out.2.trans hk9 (fun _ _ h=>h)⟩
    · have HS:=Lib.hid (HSO.out.1 wr w.heap.size g cap acc hrow (by omega))
      have HL:=Lib.hid hlast
      have HG:=Lib.hid hg
      clear hrg hrow hob hlast
      go_wp2_with fail
      refine HS.out.mono ?_
      rintro e w9 ⟨rfl,hk9,ho9⟩
      go_wp2_with fail
      go_ret
      exact ⟨⟨_,acc,rfl,by rw[HSO.out.2.2.2 acc];exact ho9,HN.out.1.nd,HL.out⟩,HN.out.2.trans hk9 (fun b hb h=>by have:=HG.out;omega)⟩
  · intro x c kl y y2 w1 cnt1 hkk hlk _ _ hrg1 hlt hg1 hs1 hen
    obtain rfl:=key_lit hkk
    have hxL:x∈L:=by
     obtain ⟨nm,h1,h2⟩:=HN.out.1.lf _ hlk
     injection h2 with h2
     rw[show x=nm from ByteArray.ext (Array.toList_inj.1 h2)]
     exact h1
    have hnl:=(HN.out.1.step hlk).le
    rw[List.length_append,List.length_singleton] at hnl
    have hrow1:=hrow.kept hg1 (by cases hob':u3.ownBlock with|none=>exact .inl rfl|some g=>exact .inr (fun e=>by injection e with e;have:=hob g hob';omega))
    have hK1:Kept (fun _=>False) w w1:=HN.out.2.trans (kept_grown (S:=fun b=>b=w.heap.size) hg1 (fun i hi=>.inl (by injection hi with hi;exact hi.symm))) (fun b hb h=>by omega)
    have HC:=Lib.hid (clone_walk x w1 (Nat.le_trans (HSZ.out x hxL) (by decide)))
    have HST:=Lib.hid (HN.out.1.step hlk)
    have HR1:=Lib.hid (And.intro hrg1 (And.intro hrow1 (And.intro hob hK1)))
    have HLT:=Lib.hid (And.intro hlt (And.intro hrg.left_eq hmlt))
    clear hrg hrow hob hkk hlk hrg1 hlt hg1 hrow1 hK1 hxL
    go_wp2_with fail
    refine HC.out.mono ?_
    rintro e w2 ⟨rfl,hk2⟩
    have hg2:=grown_kept hk2
    have hrow2:=HR1.out.2.1.kept hg2 (by cases u3.ownBlock<;>simp)
    have hrg2:=HR1.out.1.kept hg2 (by simp) (by simp)
    have hsz2:=hk2.size
    have HB1:=Lib.hid (Box.made w2 9 #[.string x])
    have HRW:=Lib.hid (hrow2.alloc (.cells #[.string x] 9))
    have HRG:=Lib.hid (hrg2.alloc (.cells #[.string x] 9))
    have HK2:=Lib.hid ((HR1.out.2.2.2.trans hk2 (fun _ _ h=>h)).alloc (.cells #[.string x] 9))
    clear hk2 hg2 hrow2 hrg2
    go_wp2_with (first
     |(at_builtin;refine wpList_append_own_at _ rfl _ _ 40 rfl w.heap.size 9 i0 _ 1 16 Tryz.underlying40 z0f z00 z01 z02 rfl (by decide) u3 acc.length (cellsS acc) rfl HRW.out ⟨w2.heap.size,0,none⟩ 1 1 [.string x] rfl rfl (fun j u hj=>by rw[Addr.add_lit,Nat.zero_add,HB1.out.cell,← hj];simp) (by intro u hu;rw[List.mem_singleton] at hu;subst hu;rfl) (by unfold maxLen;omega) (by omega) (by have:=HK2.out.size;exact this) ?_;intro v9 w9 hown9 hgrow9 hnil9 hloc9;go_frame)
     |fail)
    go_roundw
    case rel=>
     refine ⟨_,cnt1,acc++ [x],HRG.out.kept hgrow9 ?_ ?_,?_,?_,Lib.hid ⟨HST.out,?_⟩⟩
     · intro e
       have:=(HRW.out.lt mb e.symm).1
       have:=HLT.out.2.2
       omega
     · intro e
       have:=HR1.out.2.2.1 w.heap.size e.symm
       omega
     · rw[List.length_append,List.length_singleton]
       unfold cellsS at hown9 ⊢
       rw[List.map_append]
       exact hown9
     · intro g hg
       rcases hloc9 with e|e
       · exact HR1.out.2.2.1 g (e ▸ hg)
       · rw[e] at hg
         injection hg with hg
         have:=HRG.out.lt
         simp only[World.size_alloc] at hg this
         omega
     · exact HK2.out.trans (kept_grown (S:=fun b=>w.heap.size≤b) hgrow9 (fun i hi=>.inl (HRW.out.lt i hi).1)) (fun b hb h=>by have h':w.heap.size≤b:=h;omega)
    case measure=>
     rw[(HRG.out.kept hgrow9 (fun e=>by have:=(HRW.out.lt mb e.symm).1;have:=HLT.out.2.2;omega) (fun e=>by have:=HR1.out.2.2.1 w.heap.size e.symm;omega)).left_eq,HLT.out.2.1]
     exact HLT.out.1
end
section
open Go.Shelf
open Go.RowKit
def sh_lays190_ren:Go.Shelf.Ren:=⟨fun| 190=>46| 125=>81| 258=>80| 128=>134| 129=>135| 302=>125| 303=>126| 304=>127| 305=>128| 306=>129| 307=>130| 308=>131| 309=>132| 310=>133| 333=>166| 329=>167| 330=>168| 334=>169| 335=>170| 336=>171| 344=>193|n=>n,fun| 31=>40| 9=>9| 3=>3| 46=>130| 0=>0| 51=>161| 53=>104| 4=>4| 183=>154| 182=>153| 131=>93| 5=>5| 218=>181| 222=>185| 228=>203| 229=>204|n=>n,fun|n=>n⟩
theorem sh_lays190:Go.Proofs.Lays.n190 Tryz.prog sh_lays190_ren:= {
 mixed:=by kernel_rfl
 f125:=Tryz.func81.trans (congrArg some (by kernel_rfl))
 f128:=Tryz.func134.trans (congrArg some (by kernel_rfl))
 f129:=Tryz.func135.trans (congrArg some (by kernel_rfl))
 f190:=Tryz.func46.trans (congrArg some (by kernel_rfl))
 f258:=Tryz.func80.trans (congrArg some (by kernel_rfl))
 f302:=Tryz.func125.trans (congrArg some (by kernel_rfl))
 f303:=Tryz.func126.trans (congrArg some (by kernel_rfl))
 f304:=Tryz.func127.trans (congrArg some (by kernel_rfl))
 f305:=Tryz.func128.trans (congrArg some (by kernel_rfl))
 f306:=Tryz.func129.trans (congrArg some (by kernel_rfl))
 f307:=Tryz.func130.trans (congrArg some (by kernel_rfl))
 f308:=Tryz.func131.trans (congrArg some (by kernel_rfl))
 f309:=Tryz.func132.trans (congrArg some (by kernel_rfl))
 f310:=Tryz.func133.trans (congrArg some (by kernel_rfl))
 f329:=Tryz.func167.trans (congrArg some (by kernel_rfl))
 f330:=Tryz.func168.trans (congrArg some (by kernel_rfl))
 f333:=Tryz.func166.trans (congrArg some (by kernel_rfl))
 f334:=Tryz.func169.trans (congrArg some (by kernel_rfl))
 f335:=Tryz.func170.trans (congrArg some (by kernel_rfl))
 f336:=Tryz.func171.trans (congrArg some (by kernel_rfl))
 f344:=Tryz.func193.trans (congrArg some (by kernel_rfl))
 t0:=Tryz.underlying0
 a0:=Tryz.isAgg0
 z0:=Tryz.sizeOf0
 v0:=Tryz.zeroValue0
 t3:=Tryz.underlying3
 a3:=Tryz.isAgg3
 z3:=Tryz.sizeOf3
 v3:=Tryz.zeroValue3
 t4:=Tryz.underlying4
 a4:=Tryz.isAgg4
 z4:=Tryz.sizeOf4
 v4:=Tryz.zeroValue4
 t5:=Tryz.underlying5
 a5:=Tryz.isAgg5
 z5:=Tryz.sizeOf5
 v5:=Tryz.zeroValue5
 t9:=Tryz.underlying9
 a9:=Tryz.isAgg9
 z9:=Tryz.sizeOf9
 v9:=Tryz.zeroValue9
 t31:=Tryz.underlying40
 a31:=Tryz.isAgg40
 z31:=Tryz.sizeOf40
 v31:=Tryz.zeroValue40
 t46:=Tryz.underlying130
 a46:=Tryz.isAgg130
 z46:=Tryz.sizeOf130
 v46:=Tryz.zeroValue130
 t51:=Tryz.underlying161
 a51:=Tryz.isAgg161
 z51:=Tryz.sizeOf161
 v51:=Tryz.zeroValue161
 t53:=Tryz.underlying104
 a53:=Tryz.isAgg104
 z53:=Tryz.sizeOf104
 v53:=Tryz.zeroValue104
 t131:=Tryz.underlying93
 a131:=Tryz.isAgg93
 z131:=Tryz.sizeOf93
 v131:=Tryz.zeroValue93
 t182:=Tryz.underlying153
 a182:=Tryz.isAgg153
 z182:=Tryz.sizeOf153
 v182:=Tryz.zeroValue153
 t183:=Tryz.underlying154
 a183:=Tryz.isAgg154
 z183:=Tryz.sizeOf154
 v183:=Tryz.zeroValue154
 t218:=Tryz.underlying181
 a218:=Tryz.isAgg181
 z218:=Tryz.sizeOf181
 v218:=Tryz.zeroValue181
 t222:=Tryz.underlying185
 a222:=Tryz.isAgg185
 z222:=Tryz.sizeOf185
 v222:=Tryz.zeroValue185
 t228:=Tryz.underlying203
 a228:=Tryz.isAgg203
 z228:=Tryz.sizeOf203
 v228:=Tryz.zeroValue203
 t229:=Tryz.underlying204
 a229:=Tryz.isAgg204
 z229:=Tryz.sizeOf204
 v229:=Tryz.zeroValue204 }
open Go.Sort Go.RowKit in
theorem sh_slices_Sort_string (blk off cap:Nat) (ss:List (List UInt8)) (w:World) (hH:Holds encStr w blk off ss.toArray) (hblk:blk<w.heap.size) (hsz:ss.length<4611686018427387904):
  Calls Tryz.prog 46 #[.slice (some ⟨blk,off,none⟩) ss.length cap] w fun e w'=>
   e=.returned (.tuple #[])∧∃ n os,w'=grow (putRow encStr (Sort.ahead w n) blk off (ss.mergeSort fun x y=>decide (x≤y)).toArray) os:=Any.slices_Sort_string sh_lays190 blk off cap ss w hH hblk hsz
open Go.RowKit Go.Sort in
theorem sh_slices_Sort_string_none (p:Option Addr) (cap:Nat) (w:World):
  Calls Tryz.prog 46 #[.slice p 0 cap] w fun e w'=>e=.returned (.tuple #[])∧w'=w:=Any.slices_Sort_string_none sh_lays190 p cap w
def bytesO (l:List ByteArray):List (List UInt8):=l.map fun s=>s.data.toList
def sortO (l:List ByteArray):List (List UInt8):=(bytesO l).mergeSort fun x y=>decide (x≤y)
def sortB (l:List ByteArray):List ByteArray:=(sortO l).map fun b=>⟨b.toArray⟩
theorem sortO_len (l:List ByteArray):(sortO l).length=l.length:=by
 unfold sortO bytesO
 rw[List.length_mergeSort,List.length_map]
theorem sortB_len (l:List ByteArray):(sortB l).length=l.length:=by
 unfold sortB
 rw[List.length_map,sortO_len]
theorem cells_sort (l:List ByteArray):cellsS (sortB l)=(sortO l).map encStr:=by
 unfold cellsS sortB
 rw[List.map_map]
 rfl
theorem cells_bytes (l:List ByteArray):cellsS l=(bytesO l).map encStr:=by
 unfold cellsS bytesO
 rw[List.map_map]
 refine List.map_congr_left fun s _=>?_
 show Value.string s=Value.string ⟨s.data.toList.toArray⟩
 simp
theorem sortB_mem {l:List ByteArray} {x:ByteArray}:x∈sortB l↔x∈l:=by
 unfold sortB sortO bytesO
 rw[List.mem_map]
 constructor
 · rintro ⟨b,hb,rfl⟩
   rw[List.mem_mergeSort,List.mem_map] at hb
   obtain ⟨s,hs,rfl⟩:=hb
   simpa using hs
 · intro hx
   exact ⟨x.data.toList,by rw[List.mem_mergeSort,List.mem_map];exact ⟨x,hx,rfl⟩,by simp⟩
theorem sortB_rise {l:List ByteArray} (h:l.Nodup):(sortB l).Pairwise fun a b=>a.data.toList<b.data.toList:=by
 have h1:(sortO l).Pairwise fun x y=>decide (x≤y)=true:=List.pairwise_mergeSort (fun a b c hab hbc=>by
  simp only[decide_eq_true_eq] at hab hbc ⊢
  exact List.le_trans hab hbc) (fun a b=>by
  rw[Bool.or_eq_true,decide_eq_true_eq,decide_eq_true_eq]
  exact List.le_total a b) _
 have h2:(sortO l).Nodup:=by
  unfold sortO
  rw[(List.mergeSort_perm _ _).nodup_iff]
  unfold bytesO
  exact List.Pairwise.map _ (fun a b hab e=>hab (ByteArray.ext (Array.toList_inj.1 e))) h
 have h3:(sortO l).Pairwise (· < ·):=(List.Pairwise.and h1 h2).imp fun {a b} h=>Std.lt_of_le_of_ne (of_decide_eq_true h.1) h.2
 unfold sortB
 exact List.Pairwise.map _ (fun a b hab=>hab) h3
theorem sort_ok12:SortOk sortB:=by
 refine ⟨fun W base blk cap ss hrow hn=>?_,fun W=>?_,by simp[sortB,sortO,bytesO],sortB_len⟩
 · rcases hrow.2 with ⟨h,_⟩|⟨g,cap',cur,h,hbase,hb,h1,h2,h3,h4⟩
   · cases h
   · injection h with h h5 h6
     injection h with h
     injection h with h h7 h8
     subst h h6
     have e1:(bytesO ss).length=ss.length:=List.length_map _
     have hH:Go.Sort.Holds encStr W blk 0 (bytesO ss).toArray:=holds_of_block hb (by rw[e1,← cells_bytes];simpa using h4)
     have hs:=sh_slices_Sort_string blk 0 cap (bytesO ss) W hH (Array.getElem?_eq_some_iff.1 hb).1 (by omega)
     rw[e1] at hs
     refine hs.mono fun e w' h=>?_
     obtain ⟨rfl,n,os,rfl⟩:=h
     refine ⟨rfl,kept_grown (grownBy_sorted _) (fun i hi=>.inl (by injection hi with hi;exact hi.symm)),?_⟩
     rw[cells_sort]
     have:=ownsRow_sorted (w:=W) (n:=n) (os:=os) (ts:=sortO ss) (ss:=bytesO ss) (by rw[sortO_len,e1]) hbase hb (by rw[e1];exact h1) h2 h3
     rw[e1] at this
     exact this
 · refine (sh_slices_Sort_string_none none 0 W).mono fun e w' h=>?_
   obtain ⟨rfl,rfl⟩:=h
   exact ⟨rfl,Kept.refl _ _⟩
end
section
open Go.RowKit Ver Evr Span Dep Rich
attribute [local go_sem ↓] execOp_loadPq
theorem mayD_sizes {d:Dep.D} (h:Dep.mayD d=true):d.name.length≤64∧d.evr.ver.length≤64∧d.evr.rel.length≤64:=by
 have h1:=(Dep.name_parts (Rich.may_name h)).2.1
 by_cases h0:d.op=0
 · obtain ⟨n,o,e⟩:=d
   simp only at h0
   subst h0
   rw[Dep.may_any,Bool.and_eq_true] at h
   have h2:=Dep.noE_iff.1 h.2
   simp only at h1 ⊢
   rw[h2]
   exact ⟨h1,by simp[Dep.zeroD],by simp[Dep.zeroD]⟩
 · obtain ⟨_,h2⟩:=Rich.may_ops h h0
   obtain ⟨_,_,h3,h4⟩:=Evr.may_parts h2
   refine ⟨h1,(Evr.word_ok h3).2.2,?_⟩
   rcases h4 with h4|h4
   · rw[h4];simp
   · exact (Evr.word_ok h4).2.2
theorem may_obok {p:Pk} (h:mayB p=true) (hF:PkFits p):∀ e∈p.ob,DeOk e:=fun e he=>by
 unfold mayB at h
 simp only[Bool.and_eq_true] at h
 have hd:=h.1.1.2
 unfold depsB at hd
 rw[Bool.and_eq_true] at hd
 obtain ⟨h1,h2,h3⟩:=mayD_sizes (List.all_eq_true.1 hd.2 e he)
 have h1':e.nm.size≤64:=by simpa [dD] using h1
 have h2':e.v.size≤64:=by simpa [dD,evrE] using h2
 have h3':e.r.size≤64:=by simpa [dD,evrE] using h3
 exact ⟨by omega,(hF.ob e he).2.1,by omega,by omega⟩
def rowN (l:List PRow) (n:Int):Option PRow:=if n<0 then none else l[n.toNat]?
def obsN (l:List PRow) (n m:Int):Bool:=match rowN l n,rowN l m with
 |some a,some b=> !decide (n=m)&&obsB a.p b.p
 | _,_=>false
theorem rowN_none {l:List PRow} {n:Int} (h:n<0∨(l.length:Int)≤n):rowN l n=none:=by
 unfold rowN
 by_cases h0:n<0
 · rw[if_pos h0]
 · rw[if_neg h0,List.getElem?_eq_none_iff]
   omega
theorem rowN_some {l:List PRow} {i:Nat} {r:PRow} (h:l[i]? =some r):rowN l (i:Int)=some r:=by
 unfold rowN
 rw[if_neg (by omega),Int.toNat_natCast,h]
section
variable {lo:Nat} {B:Nat→Prop} {inst:Int} {w:World} {pb:Nat} {v:Value} {mb:Nat} {D:DataW Unit} {l:List PRow} {L:List ByteArray}
theorem obsG12_walk (h:PG lo B inst w pb v mb D l L) (n m:Int) (hS:∀ r∈l,PkFits r.p∧mayB r.p=true):Calls Tryz.prog 17 #[.pointer (some ⟨pb,0,none⟩),.int .i64 n,.int .i64 m] w fun e w'=>e=.returned (.bool (obsN l n m))∧Kept (fun _=>False) w w':=by
 have HH:=Lib.hid h
 have HS:=Lib.hid hS
 clear h hS
 go_enter Tryz.func17,Tryz.ntmps17
 go_wp2_with fail
 refine (at12_walk HH.out n).mono ?_
 rintro e w1 ⟨⟨u,rfl,hu⟩,hk1⟩
 have HU:=Lib.hid hu
 have HK1:=Lib.hid hk1
 clear hu hk1
 go_wp2_with fail
 refine (at12_walk (HH.out.quiet HK1.out) m).mono ?_
 rintro e w2 ⟨⟨x,rfl,hx⟩,hk2⟩
 have HX:=Lib.hid hx
 have HK2:=Lib.hid (HK1.out.trans hk2 (fun _ _ h=>h))
 have HK12:=Lib.hid hk2
 clear hx hk2
 go_wp2_with fail
 rcases HU.out with ⟨hn,rfl⟩|⟨i,ra,g,c,rfl,hr,_,rfl,hg,hc⟩
 · have hz:obsN l n m=false:=by unfold obsN;rw[rowN_none hn]
   clear hn HU HX
   obtain ⟨T,F,t0,ht0,hFk,hFs⟩:=class_of w2
   have HFK:=Lib.hid hFk
   have HFS:=Lib.hid hFs
   have hnt:Nonempty T:=⟨t0⟩
   clear hFk hFs
   refine wp_region_class F t0 ht0 (by kernel_rfl) (by kernel_rfl) ?_
   repeat (go_big_quiet_step (fail))
   refine wpQuiet_nil ?_
   rintro _ ⟨tz,rfl⟩
   have HK9:=Lib.hid (HK2.out.trans (HFK.out tz) (fun _ _ h=>h))
   generalize F tz=w9 at HK9 ⊢
   clear HFK HFS
   go_wp2_with fail
   go_ret
   exact ⟨by rw[hz];rfl,HK9.out⟩
 obtain ⟨p,s,rp,pr⟩:=ra
 rcases HX.out with ⟨hm,rfl⟩|⟨k,rb,g',c',rfl,hr',_,rfl,hg',hc'⟩
 · have hz:obsN l (i:Int) m=false:=by unfold obsN;rw[rowN_none hm];cases rowN l (i:Int)<;>rfl
   clear hm HU HX hc
   obtain ⟨T,F,t0,ht0,hFk,hFs⟩:=class_of w2
   have HFK:=Lib.hid hFk
   have HFS:=Lib.hid hFs
   have hnt:Nonempty T:=⟨t0⟩
   clear hFk hFs
   refine wp_region_class F t0 ht0 (by kernel_rfl) (by kernel_rfl) ?_
   repeat (go_big_quiet_step (fail))
   refine wpQuiet_nil ?_
   rintro _ ⟨tz,rfl⟩
   have HK9:=Lib.hid (HK2.out.trans (HFK.out tz) (fun _ _ h=>h))
   generalize F tz=w9 at HK9 ⊢
   clear HFK HFS
   go_wp2_with fail
   go_ret
   exact ⟨by rw[hz];rfl,HK9.out⟩
 obtain ⟨q,s',rp',pr'⟩:=rb
 by_cases hd:(i:Int)=(k:Int)
 · have hz:obsN l (i:Int) (k:Int)=false:=by unfold obsN;rw[decide_eq_true hd];cases rowN l (i:Int)<;>cases rowN l (k:Int)<;>rfl
   clear HU HX hc hc'
   obtain ⟨T,F,t0,ht0,hFk,hFs⟩:=class_of w2
   have HFK:=Lib.hid hFk
   have HFS:=Lib.hid hFs
   have hnt:Nonempty T:=⟨t0⟩
   clear hFk hFs
   refine wp_region_class F t0 ht0 (by kernel_rfl) (by kernel_rfl) ?_
   repeat (go_big_quiet_step (fail))
   refine wpQuiet_nil ?_
   rintro _ ⟨tz,rfl⟩
   have HK9:=Lib.hid (HK2.out.trans (HFK.out tz) (fun _ _ h=>h))
   generalize F tz=w9 at HK9 ⊢
   clear HFK HFS
   go_wp2_with fail
   go_ret
   exact ⟨by rw[hz];rfl,HK9.out⟩
 have hz:obsN l (i:Int) (k:Int)=obsB p q:=by unfold obsN;rw[rowN_some hr,rowN_some hr',decide_eq_false hd];rfl
 have hbn:((i:Int)!=(k:Int))=true:=bne_iff_ne.2 hd
 have hm1:=HS.out _ (List.mem_of_getElem? hr)
 have hm2:=HS.out _ (List.mem_of_getElem? hr')
 have HC:=Lib.hid (fun (W:World) (hW:Kept (fun _=>False) w W)=>show Calls Tryz.prog 48 #[.agg (pkA p s),.agg (pkA q s')] W (fun e w'=>e=.returned (.bool (obsB p q))∧Kept (fun _=>False) W w') from
  obs10_walk p q s s' W (((HH.out.quiet hW)).pks _ (List.mem_of_getElem? hr)).here hm1.1.obl (may_obok hm1.2 hm1.1) (by have h:q.nm.size<140737488355328:=hm2.1.nm;omega) (by have h:q.v.size<140737488355328:=hm2.1.v;omega) (by have h:q.r.size<140737488355328:=hm2.1.r;omega))
 clear hm1 hm2 hr hr' HU HX
 obtain ⟨T,F,t0,ht0,hFk,hFs⟩:=class_of w2
 have la:=fun t=>run_loadPq (g:=g) (o:=i*17) (cs:=pkA p s) (w:=F t) (fun j x hx=>(((HK12.out.trans (hFk t) (fun _ _ h=>h)).cell (p:=⟨g,i*17+j,none⟩) (Nat.lt_of_lt_of_le hg HK1.out.size) (fun h=>h))).trans ((HK1.out.cell (p:=⟨g,i*17+j,none⟩) hg (fun h=>h)).trans (hc j x (by
  have hj:j<15:=by have:=(Array.getElem?_eq_some_iff.1 hx).1;simpa using this
  rcases (show j=0∨j=1∨j=2∨j=3∨j=4∨j=5∨j=6∨j=7∨j=8∨j=9∨j=10∨j=11∨j=12∨j=13∨j=14 by omega) with rfl|rfl|rfl|rfl|rfl|rfl|rfl|rfl|rfl|rfl|rfl|rfl|rfl|rfl|rfl<;>exact hx)))) rfl
 have lb:=fun t=>run_loadPq (g:=g') (o:=k*17) (cs:=pkA q s') (w:=F t) (fun j x hx=>(((HK12.out.trans (hFk t) (fun _ _ h=>h)).cell (p:=⟨g',k*17+j,none⟩) hg' (fun h=>h))).trans (hc' j x (by
  have hj:j<15:=by have:=(Array.getElem?_eq_some_iff.1 hx).1;simpa using this
  rcases (show j=0∨j=1∨j=2∨j=3∨j=4∨j=5∨j=6∨j=7∨j=8∨j=9∨j=10∨j=11∨j=12∨j=13∨j=14 by omega) with rfl|rfl|rfl|rfl|rfl|rfl|rfl|rfl|rfl|rfl|rfl|rfl|rfl|rfl|rfl<;>exact hx))) rfl
 have kC:=fun t=>HC.out (F t) (HK2.out.trans (hFk t) (fun _ _ h=>h))
 clear hc hc'
 obtain ⟨CA,hCA⟩:∃ C,C=pkA p s:=⟨_,rfl⟩
 obtain ⟨CB,hCB⟩:∃ C,C=pkA q s':=⟨_,rfl⟩
 simp only[← hCA,← hCB] at la lb kC
 clear hCA hCB HC
 have HFK:=Lib.hid hFk
 have HFS:=Lib.hid hFs
 have hnt:Nonempty T:=⟨t0⟩
 clear hFk hFs
 refine wp_region_class F t0 ht0 (by kernel_rfl) (by kernel_rfl) ?_
 repeat (go_big_quiet_step (first
  |(go_at_call 48;with_reducible exact class_call HFS.out (kC _))))
 refine wpQuiet_nil ?_
 rintro _ ⟨tz,rfl⟩
 have HK9:=Lib.hid (HK2.out.trans (HFK.out tz) (fun _ _ h=>h))
 generalize F tz=w9 at HK9 ⊢
 clear HFK HFS
 go_wp2_with fail
 go_ret
 exact ⟨by rw[hz];rfl,HK9.out⟩
theorem obs12_walk (h:PG lo B inst w pb v mb D l L) (n m:Int) (hS:∀ r∈l,PkMid r.p∧PkFits r.p∧mayB r.p=true):Calls Tryz.prog 17 #[.pointer (some ⟨pb,0,none⟩),.int .i64 n,.int .i64 m] w fun e w'=>e=.returned (.bool (obsN l n m))∧Kept (fun _=>False) w w':=
 obsG12_walk h n m fun r hr=>(hS r hr).2
end
end
end Go.Proofs.YtkoiocpnikiolaaGreatDoor
