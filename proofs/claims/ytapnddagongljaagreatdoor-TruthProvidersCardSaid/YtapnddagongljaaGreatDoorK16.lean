/-
  The texts Evr3e, Of6, Own6, LexFace, MathLex2, Lex7a, Ref07b, Lex7d. Conditions: as each theorem states.
-/
import Derived.Test.YtapnddagongljaaGreatDoorK12
import Derived.Deep.RegionWith
import Derived.Test.YtapnddagongljaaGreatDoorK10
import Derived.BigRegion
import Derived.Test.YtapnddagongljaaGreatDoorRows
import Derived.LoopN
import Derived.Deep.QuietTactic
import Derived.Handy
import Derived.Lib.Hide
import Derived.BigQuiet
import Derived.Laws.OwnMore
import Derived.Deep.AppendLies
set_option maxRecDepth 100000
set_option maxHeartbeats 16000000
namespace Go.Proofs.YtapnddagongljaaGreatDoor
section
open Go.RowKit Ver Evr
end
section
open Go.RowKit Ver Evr Span Dep
theorem five {S:Nat→Prop} {a w:World} (h:Kept S a w) {g:Nat} (hg:a.heap.size≤g) (x0 x1 x2 x3 x4:Value):Kept S a (((((w.setCell ⟨g,0,none⟩ x0).setCell ⟨g,1,none⟩ x1).setCell ⟨g,2,none⟩ x2).setCell ⟨g,3,none⟩ x3).setCell ⟨g,4,none⟩ x4):=
 ((((h.setCell (p:=⟨g,0,none⟩) (.inr hg) _).setCell (p:=⟨g,1,none⟩) (.inr hg) _).setCell (p:=⟨g,2,none⟩) (.inr hg) _).setCell (p:=⟨g,3,none⟩) (.inr hg) _).setCell (p:=⟨g,4,none⟩) (.inr hg) _
theorem five_box {w:World} {g:Nat} {t:TypeId} {a b c d e:Value} (h:Box w g t #[a,b,c,d,e]) (x0 x1 x2 x3 x4:Value):Box (((((w.setCell ⟨g,0,none⟩ x0).setCell ⟨g,1,none⟩ x1).setCell ⟨g,2,none⟩ x2).setCell ⟨g,3,none⟩ x3).setCell ⟨g,4,none⟩ x4) g t #[x0,x1,x2,x3,x4]:=
 ((((h.stored 0 _).stored 1 _).stored 2 _).stored 3 _).stored 4 _
end
section
open Go.RowKit Ver Evr Span Dep
theorem dep_result6 {fn:Func} {p:Tmp} (h:fn.results=#[.cell p 28]) (tmps:Array Value) (W:World) (g:Nat) (cs:Array Value) (hp:tmps.getD p undef=.pointer (some ⟨g,0,none⟩)) (hB:Box W g 28 cs) (hs:cs.size=5):
  (results fn tmps).run Tryz.prog W=.ok (.agg cs) W:=
 results_cell_row h tmps W g 28 cs (0,0) _ hp hB Tryz.underlying28 rfl (by rw[hs];kernel_rfl)
theorem own6_walk (nm:ByteArray) (n:Int) (v r:ByteArray) (hn:nm.size≤140737488355327) (hv:v.size≤140737488355327) (hr:r.size≤140737488355327) (w:World):
  Calls Tryz.prog 137 #[.string nm,.agg #[.int .i64 n,.string v,.string r]] w fun e w'=>e=.returned (.agg #[.string nm,.int .u8 2,.int .i64 n,.string v,.string r])∧Kept (fun _=>False) w w':=by
 have hC1:=fun W=>clone_walk v W hv
 have hC2:=fun W=>clone_walk r W hr
 have hC3:=fun W=>clone_walk nm W hn
 have hE0:=(Box.made w 26 #[.int .i64 n,.string v,.string r]).after_alloc (.cells #[.string ⟨#[]⟩,.int .u8 0,.int .i64 0,.string ⟨#[]⟩,.string ⟨#[]⟩] 28)
 have hR0:=Box.made (w.alloc (.cells #[.int .i64 n,.string v,.string r] 26)) 28 #[.string ⟨#[]⟩,.int .u8 0,.int .i64 0,.string ⟨#[]⟩,.string ⟨#[]⟩]
 rw[World.size_alloc] at hR0
 have hK0:=((Kept.refl (fun _=>False) w).alloc (.cells #[.int .i64 n,.string v,.string r] 26)).alloc (.cells #[.string ⟨#[]⟩,.int .u8 0,.int .i64 0,.string ⟨#[]⟩,.string ⟨#[]⟩] 28)
 have hne:w.heap.size+1≠w.heap.size:=by omega
 have HNE:=Lib.hid hne
 clear hne
 go_enter Tryz.func137,Tryz.ntmps137
 go_wp2_with fail
 generalize (w.alloc (.cells #[.int .i64 n,.string v,.string r] 26)).alloc (.cells #[.string ⟨#[]⟩,.int .u8 0,.int .i64 0,.string ⟨#[]⟩,.string ⟨#[]⟩] 28)=W0 at hE0 hR0 hK0 ⊢
 have HE:=Lib.hid (show Box W0.drew w.heap.size 26 #[.int .i64 n,.string v,.string r] from hE0)
 have HR:=Lib.hid (show Box W0.drew (w.heap.size+1) 28 #[.string ⟨#[]⟩,.int .u8 0,.int .i64 0,.string ⟨#[]⟩,.string ⟨#[]⟩] from hR0)
 have HK:=Lib.hid hK0.drew
 clear hE0 hR0 hK0
 have e0:=HE.out.cell 0
 have e1:=HE.out.cell 1
 have e2:=HE.out.cell 2
 have u0:=HE.out.free 0
 have u1:=HE.out.free 1
 have u2:=HE.out.free 2
 have r0:=HR.out.cell 0
 have r1:=HR.out.cell 1
 have r2:=HR.out.cell 2
 have r3:=HR.out.cell 3
 have r4:=HR.out.cell 4
 have t0:=HR.out.free 0
 have t1:=HR.out.free 1
 have t2:=HR.out.free 2
 have t3:=HR.out.free 3
 have t4:=HR.out.free 4
 go_region_with ((first
  |(go_at_call 101;(first|(with_reducible refine (hC1 _).mono ?_)|(with_reducible refine (hC2 _).mono ?_));rintro e w7 ⟨rfl,hk7⟩;have HR:=Lib.hid (hk7.box HR.out (fun h=>h));have HE:=Lib.hid (hk7.box HE.out (fun h=>h));have HK:=Lib.hid (Kept.trans HK.out hk7 (fun _ _ h=>h));have e0:=HE.out.cell 0;have e1:=HE.out.cell 1;have e2:=HE.out.cell 2;have u0:=HE.out.free 0;have u1:=HE.out.free 1;have u2:=HE.out.free 2;have r0:=HR.out.cell 0;have r1:=HR.out.cell 1;have r2:=HR.out.cell 2;have r3:=HR.out.cell 3;have r4:=HR.out.cell 4;have t0:=HR.out.free 0;have t1:=HR.out.free 1;have t2:=HR.out.free 2;have t3:=HR.out.free 3;have t4:=HR.out.free 4;clear hk7)
  |fail))
 all_goals
  have hE9:Box ((w7.setCell ⟨w.heap.size,1,none⟩ (.string v)).setCell ⟨w.heap.size,2,none⟩ (.string r)) w.heap.size 26 #[.int .i64 n,.string v,.string r]:=(HE.out.stored 1 (.string v)).stored 2 (.string r)
  have hR9:Box ((w7.setCell ⟨w.heap.size,1,none⟩ (.string v)).setCell ⟨w.heap.size,2,none⟩ (.string r)) (w.heap.size+1) 28 #[.string ⟨#[]⟩,.int .u8 0,.int .i64 0,.string ⟨#[]⟩,.string ⟨#[]⟩]:=box_off (box_off HR.out ⟨w.heap.size,1,none⟩ HNE.out _) ⟨w.heap.size,2,none⟩ HNE.out _
  have hK9:Kept (fun _=>False) w ((w7.setCell ⟨w.heap.size,1,none⟩ (.string v)).setCell ⟨w.heap.size,2,none⟩ (.string r)):=(HK.out.setCell (p:=⟨w.heap.size,1,none⟩) (.inr (Nat.le_refl _)) _).setCell (p:=⟨w.heap.size,2,none⟩) (.inr (Nat.le_refl _)) _
  generalize (w7.setCell ⟨w.heap.size,1,none⟩ (.string v)).setCell ⟨w.heap.size,2,none⟩ (.string r)=W9 at hE9 hR9 hK9 ⊢
  go_wp2_with fail
  have HE:=Lib.hid (show Box W9.drew w.heap.size 26 #[.int .i64 n,.string v,.string r] from hE9)
  have HR:=Lib.hid (show Box W9.drew (w.heap.size+1) 28 #[.string ⟨#[]⟩,.int .u8 0,.int .i64 0,.string ⟨#[]⟩,.string ⟨#[]⟩] from hR9)
  have HK:=Lib.hid hK9.drew
  clear hE9 hR9 hK9
  have e0:=HE.out.cell 0
  have e1:=HE.out.cell 1
  have e2:=HE.out.cell 2
  have u0:=HE.out.free 0
  have u1:=HE.out.free 1
  have u2:=HE.out.free 2
  have r0:=HR.out.cell 0
  have r1:=HR.out.cell 1
  have r2:=HR.out.cell 2
  have r3:=HR.out.cell 3
  have r4:=HR.out.cell 4
  have t0:=HR.out.free 0
  have t1:=HR.out.free 1
  have t2:=HR.out.free 2
  have t3:=HR.out.free 3
  have t4:=HR.out.free 4
  go_region_with ((first
   |(go_at_call 101;(with_reducible refine (hC3 _).mono ?_);rintro e w8 ⟨rfl,hk8⟩;have HR:=Lib.hid (hk8.box HR.out (fun h=>h));have HE:=Lib.hid (hk8.box HE.out (fun h=>h));have HK:=Lib.hid (Kept.trans HK.out hk8 (fun _ _ h=>h));have e0:=HE.out.cell 0;have e1:=HE.out.cell 1;have e2:=HE.out.cell 2;have u0:=HE.out.free 0;have u1:=HE.out.free 1;have u2:=HE.out.free 2;have r0:=HR.out.cell 0;have r1:=HR.out.cell 1;have r2:=HR.out.cell 2;have r3:=HR.out.cell 3;have r4:=HR.out.cell 4;have t0:=HR.out.free 0;have t1:=HR.out.free 1;have t2:=HR.out.free 2;have t3:=HR.out.free 3;have t4:=HR.out.free 4;clear hk8)
   |fail))
 all_goals
  go_wp2_with fail
  exact bodyPost_ret (dep_result6 rfl _ _ (w.heap.size+1) _ rfl (five_box HR.out _ _ _ _ _) rfl) rfl ⟨rfl,five HK.out (Nat.le_succ _) _ _ _ _ _⟩
end
section
open Go.RowKit Lex
end
section
namespace Lex
abbrev Tk:=(UInt8×List UInt8)×Nat
def w2 (t:Tk):Wd:=(t.1.1::t.1.2,t.2)
end Lex
end
section
open Go.RowKit Lex
end
section
open Go.RowKit Lex
end
section
open Go.RowKit Lex
end
end Go.Proofs.YtapnddagongljaaGreatDoor
