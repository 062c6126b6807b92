/-
  The texts Evr3b, Span4c, Span4d, Span4e. Conditions: as each theorem states.
-/
import Derived.Test.YtnfhpecllidgoaaGreatDoorK00
import Derived.Test.YtnfhpecllidgoaaGreatDoorK07
import Derived.LoopN
import Derived.Test.YtnfhpecllidgoaaGreatDoorK08
set_option maxRecDepth 100000
set_option maxHeartbeats 16000000
namespace Go.Proofs.YtnfhpecllidgoaaGreatDoor
section
open Go.RowKit Ver Evr
theorem ξgJ (x:Int) (w:World):Calls Tryz.prog 128 #[.int .i64 x] w fun e w'=>e=.returned (.bool false)∧w=w':=by
 go_enter Tryz.func128,Tryz.ntmps128
 go_wp2
 go_ret;exact ⟨rfl,rfl⟩
def ordI (x y:Int):Int:=if x<y then -1 else if y<x then 1 else 0
theorem cmp_int (x y:Int) (w:World):Calls Tryz.prog 88 #[.int .i64 x,.int .i64 y] w fun e w'=>e=.returned (.int .i64 (ordI x y))∧w=w':=by
 have h:=show (x<y∧ordI x y= -1)∨(y<x∧ordI x y=1)∨(x=y∧ordI x y=0) by
  unfold ordI;rcases Int.lt_trichotomy x y with h|h|h
  · exact .inl ⟨h,by rw[if_pos h]⟩
  · exact .inr (.inr ⟨h,by rw[if_neg (by omega),if_neg (by omega)]⟩)
  · exact .inr (.inl ⟨h,by rw[if_neg (by omega),if_pos h]⟩)
 rcases h with ⟨h,hv⟩|⟨h,hv⟩|⟨h,hv⟩
 · have HV:=ψ hv;have g1:decide (x<y)=true:=by simp[h]
   clear h hv
   go_enter Tryz.func88,Tryz.ntmps88
   go_wp2_with (go_at_call 128;refine (ξgJ _ _).mono ?_;rintro e w' ⟨rfl,rfl⟩)
   all_goals go_ret
   all_goals exact ⟨by rw[HV.out];rfl,rfl⟩
 · have HV:=ψ hv;have g1:decide (x<y)=false:=by simp;omega
   have g2:decide (y<x)=true:=by simp[h]
   clear h hv
   go_enter Tryz.func88,Tryz.ntmps88
   go_wp2_with (go_at_call 128;refine (ξgJ _ _).mono ?_;rintro e w' ⟨rfl,rfl⟩)
   all_goals go_ret
   all_goals exact ⟨by rw[HV.out];rfl,rfl⟩
 · subst h;have HV:=ψ hv;clear hv
   go_enter Tryz.func88,Tryz.ntmps88
   go_wp2_with (go_at_call 128;refine (ξgJ _ _).mono ?_;rintro e w' ⟨rfl,rfl⟩)
   all_goals go_ret
   all_goals exact ⟨by rw[HV.out];rfl,rfl⟩
section
variable (p q:Nat) (n m:Int) (v r u s:ByteArray) (w:World)
theorem ξlW (hA:Box w p 44 #[.int .i64 n,.string v,.string r]) (hB:Box w q 44 #[.int .i64 m,.string u,.string s]):
  Calls Tryz.prog 87 #[.pointer (some ⟨p,0,none⟩),.pointer (some ⟨q,0,none⟩)] w fun e w'=>e=.returned (.int .i64 (ordI n m))∧Kept ω w w':=by
 have a0:w.cell? ⟨p,0,none⟩=some (.int .i64 n):=hA.cell 0;have b0:w.cell? ⟨q,0,none⟩=some (.int .i64 m):=hB.cell 0;clear hA hB
 go_enter Tryz.func87,Tryz.ntmps87
 go_wp2_with (go_at_call 88;refine (cmp_int _ _ _).mono ?_;rintro e w' ⟨rfl,rfl⟩)
 go_ret;exact ⟨rfl,Kept.refl _ _⟩
theorem ξkx (hv:v.size≤140737488355327) (hu:u.size≤140737488355327) (hA:Box w p 44 #[.int .i64 n,.string v,.string r]) (hB:Box w q 44 #[.int .i64 m,.string u,.string s]):
  Calls Tryz.prog 89 #[.pointer (some ⟨p,0,none⟩),.pointer (some ⟨q,0,none⟩)] w fun e w'=>e=.returned (.int .i64 (cmpB v u))∧Kept ω w w':=by
 have hC:=fun W=>ξhk v u W hv hu;have a0:w.cell? ⟨p,1,none⟩=some (.string v):=hA.cell 1;have b0:w.cell? ⟨q,1,none⟩=some (.string u):=hB.cell 1;clear hA hB
 go_enter Tryz.func89,Tryz.ntmps89
 go_wp2_with (go_at_call 90;refine (hC _).mono ?_;rintro e w' ⟨rfl,hk⟩)
 go_ret;exact ⟨rfl,hk⟩
theorem ξkK (hA:Box w p 44 #[.int .i64 n,.string v,.string r]) (hB:Box w q 44 #[.int .i64 m,.string u,.string s]) (h:r=⟨#[]⟩∨s=⟨#[]⟩):
  Calls Tryz.prog 91 #[.pointer (some ⟨p,0,none⟩),.pointer (some ⟨q,0,none⟩)] w fun e w'=>e=.returned (.int .i64 0)∧Kept ω w w':=by
 have a0:w.cell? ⟨p,2,none⟩=some (.string r):=hA.cell 2;have b0:w.cell? ⟨q,2,none⟩=some (.string s):=hB.cell 2;clear hA hB
 by_cases hr:r=⟨#[]⟩
 · subst hr;clear h
   go_enter Tryz.func91,Tryz.ntmps91
   go_wp2_with fail
   go_ret;exact ⟨rfl,Kept.refl _ _⟩
 · have hs:s=⟨#[]⟩:=by rcases h with h|h;exact absurd h hr;exact h
   subst hs;obtain ⟨b1,b2⟩:=ξbG hr;clear h hr
   go_enter Tryz.func91,Tryz.ntmps91
   go_wp2_with fail
   go_ret;exact ⟨rfl,Kept.refl _ _⟩
theorem ξmq (hr:r.size≤140737488355327) (hs:s.size≤140737488355327) (hA:Box w p 44 #[.int .i64 n,.string v,.string r]) (hB:Box w q 44 #[.int .i64 m,.string u,.string s]) (h1:r≠⟨#[]⟩) (h2:s≠⟨#[]⟩):
  Calls Tryz.prog 91 #[.pointer (some ⟨p,0,none⟩),.pointer (some ⟨q,0,none⟩)] w fun e w'=>e=.returned (.int .i64 (cmpB r s))∧Kept ω w w':=by
 have hC:=fun W=>ξhk r s W hr hs;have a0:w.cell? ⟨p,2,none⟩=some (.string r):=hA.cell 2;have b0:w.cell? ⟨q,2,none⟩=some (.string s):=hB.cell 2;obtain ⟨b1,b2⟩:=ξbG h1;obtain ⟨b3,b4⟩:=ξbG h2;clear hA hB h1 h2
 go_enter Tryz.func91,Tryz.ntmps91
 go_wp2_with (go_at_call 90;refine (hC _).mono ?_;rintro e w' ⟨rfl,hk⟩)
 go_ret;exact ⟨rfl,hk⟩
end
abbrev clos (f p q:Nat):Value:=.func (.func f) #[] #[.pointer (some ⟨p,0,none⟩),.pointer (some ⟨q,0,none⟩)]
abbrev ξb3 (f p q:Nat) (c:Int) (w:World):Prop:=∀ W,Kept ω w W→Calls Tryz.prog f #[.pointer (some ⟨p,0,none⟩),.pointer (some ⟨q,0,none⟩)] W fun e W'=>e=.returned (.int .i64 c)∧Kept ω W W'
section
variable (B p q:Nat) (c1 c2 c3:Int) (w:World) (hB:Box w B 73 #[clos 87 p q,clos 89 p q,clos 91 p q])
include hB
theorem ξjr (h1:ξb3 87 p q c1 w) (hc:c1≠0):
  Calls Tryz.prog 86 #[.slice (some ⟨B,0,none⟩) 3 3] w fun e w'=>e=.returned (.int .i64 c1)∧Kept ω w w':=by
 have HB:=ψ hB;have x0:=hB.cell 0;have g1:(c1 !=0)=true:=by simp[hc]
 have H1:=ψ (h1 w (Kept.refl _ _));clear hB hc h1
 go_enter Tryz.func86,Tryz.ntmps86
 go_wp2_with fail
 refine wp_loop_rounds 1 ?_;rw[rounds_succ]
 go_wp2_with (first|(go_at_call 87;with_reducible refine (H1.out).mono ?_;rintro e w1 ⟨rfl,hk1⟩)|fail)
 go_ret;exact ⟨rfl,hk1⟩
theorem ξi2 (h1:ξb3 87 p q 0 w) (h2:ξb3 89 p q c2 w) (hc:c2≠0):
  Calls Tryz.prog 86 #[.slice (some ⟨B,0,none⟩) 3 3] w fun e w'=>e=.returned (.int .i64 c2)∧Kept ω w w':=by
 have HB:=ψ hB;have x0:=hB.cell 0;have g1:(c2 !=0)=true:=by simp[hc]
 have H1:=ψ (h1 w (Kept.refl _ _));have H2:=ψ h2;clear hB hc h1 h2
 go_enter Tryz.func86,Tryz.ntmps86
 go_wp2_with fail
 refine wp_loop_rounds 2 ?_;rw[rounds_succ]
 go_wp2_with (first|(go_at_call 87;with_reducible refine (H1.out).mono ?_;rintro e w1 ⟨rfl,hk1⟩;have x1:=(hk1.box HB.out (fun h=>h)).cell 1)|fail)
 rw[rounds_succ]
 go_wp2_with (first|(go_at_call 89;with_reducible refine (H2.out _ hk1).mono ?_;rintro e w2 ⟨rfl,hk2⟩)|fail)
 go_ret;exact ⟨rfl,hk1.trans hk2 (fun _ _ h=>h)⟩
theorem ξeq (h1:ξb3 87 p q 0 w) (h2:ξb3 89 p q 0 w) (h3:ξb3 91 p q c3 w):
  Calls Tryz.prog 86 #[.slice (some ⟨B,0,none⟩) 3 3] w fun e w'=>e=.returned (.int .i64 c3)∧Kept ω w w':=by
 have HB:=ψ hB;have x0:=hB.cell 0;have H1:=ψ (h1 w (Kept.refl _ _));have H2:=ψ h2;have H3:=ψ h3;clear hB h1 h2 h3
 by_cases hc:c3=0
 · subst hc
   go_enter Tryz.func86,Tryz.ntmps86
   go_wp2_with fail
   refine wp_loop_rounds 4 ?_;rw[rounds_succ]
   go_wp2_with (first|(go_at_call 87;with_reducible refine (H1.out).mono ?_;rintro e w1 ⟨rfl,hk1⟩;have x1:=(hk1.box HB.out (fun h=>h)).cell 1)|fail)
   rw[rounds_succ]
   go_wp2_with (first|(go_at_call 89;with_reducible refine (H2.out _ hk1).mono ?_;rintro e w2 ⟨rfl,hk2⟩;have hk12:=hk1.trans hk2 (fun _ _ h=>h);have x2:=(hk12.box HB.out (fun h=>h)).cell 2)|fail)
   rw[rounds_succ]
   go_wp2_with (first|(go_at_call 91;with_reducible refine (H3.out _ hk12).mono ?_;rintro e w3 ⟨rfl,hk3⟩)|fail)
   rw[rounds_succ]
   go_wp2_with fail
   go_ret;exact ⟨rfl,hk12.trans hk3 (fun _ _ h=>h)⟩
 · have g1:(c3 !=0)=true:=by simp[hc]
   clear hc
   go_enter Tryz.func86,Tryz.ntmps86
   go_wp2_with fail
   refine wp_loop_rounds 3 ?_;rw[rounds_succ]
   go_wp2_with (first|(go_at_call 87;with_reducible refine (H1.out).mono ?_;rintro e w1 ⟨rfl,hk1⟩;have x1:=(hk1.box HB.out (fun h=>h)).cell 1)|fail)
   rw[rounds_succ]
   go_wp2_with (first|(go_at_call 89;with_reducible refine (H2.out _ hk1).mono ?_;rintro e w2 ⟨rfl,hk2⟩;have hk12:=hk1.trans hk2 (fun _ _ h=>h);have x2:=(hk12.box HB.out (fun h=>h)).cell 2)|fail)
   rw[rounds_succ]
   go_wp2_with (first|(go_at_call 91;with_reducible refine (H3.out _ hk12).mono ?_;rintro e w3 ⟨rfl,hk3⟩)|fail)
   go_ret;exact ⟨rfl,hk12.trans hk3 (fun _ _ h=>h)⟩
end
theorem ξkP (n m:Int) (v r u s:ByteArray):
  (ordI n m≠0∧cmpE (ξt n v r) (ξt m u s)=ordI n m)∨
  (ordI n m=0∧cmpB v u≠0∧cmpE (ξt n v r) (ξt m u s)=cmpB v u)∨
  (ordI n m=0∧cmpB v u=0∧(r=⟨#[]⟩∨s=⟨#[]⟩)∧cmpE (ξt n v r) (ξt m u s)=0)∨
  (ordI n m=0∧cmpB v u=0∧r≠⟨#[]⟩∧s≠⟨#[]⟩∧cmpE (ξt n v r) (ξt m u s)=cmpB r s):=by
 rcases Int.lt_trichotomy n m with h|h|h
 · refine .inl ⟨by unfold ordI;rw[if_pos h];decide,?_⟩;rw[ξlG h];unfold ordI;rw[if_pos h]
 · subst h;have h0:ordI n n=0:=by unfold ordI;rw[if_neg (by omega),if_neg (by omega)]
   refine .inr ?_
   by_cases h1:cmpV v.data.toList u.data.toList=0
   · refine .inr ?_
     by_cases h2:r=⟨#[]⟩∨s=⟨#[]⟩
     · exact .inl ⟨h0,h1,h2,(ξhX (.inr h2)).trans h1⟩
     · have h3:r≠⟨#[]⟩:=fun e=>h2 (.inl e);have h4:s≠⟨#[]⟩:=fun e=>h2 (.inr e);exact .inr ⟨h0,h1,h3,h4,cmpE_rel h1 h3 h4⟩
   · exact .inl ⟨h0,h1,ξhX (.inl h1)⟩
 · have hn:¬ n<m:=by omega
   refine .inl ⟨by unfold ordI;rw[if_neg hn,if_pos h];decide,?_⟩;rw[ξl0 h];unfold ordI;rw[if_neg hn,if_pos h]
theorem ξcK (n m:Int) (v r u s:ByteArray) (w:World) (hv:v.size≤140737488355327) (hr:r.size≤140737488355327) (hu:u.size≤140737488355327) (hs:s.size≤140737488355327):
  Calls Tryz.prog 44 #[.agg #[.int .i64 n,.string v,.string r],.agg #[.int .i64 m,.string u,.string s]] w fun e w'=>e=.returned (.int .i64 (cmpE (ξt n v r) (ξt m u s)))∧Kept ω w w':=by
 have hk0:Kept ω w ((w.alloc (.cells #[.int .i64 n,.string v,.string r] 44)).alloc (.cells #[.int .i64 m,.string u,.string s] 44)):=((Kept.refl _ _).alloc _).alloc _;have bA:=(Box.made w 44 #[.int .i64 n,.string v,.string r]).after_alloc (.cells #[.int .i64 m,.string u,.string s] 44);have bB:=Box.made (w.alloc (.cells #[.int .i64 n,.string v,.string r] 44)) 44 #[.int .i64 m,.string u,.string s];rw[World.size_alloc] at bB
 have hD:∀ W,W=((w.alloc (.cells #[.int .i64 n,.string v,.string r] 44)).alloc (.cells #[.int .i64 m,.string u,.string s] 44)).alloc (.cells #[clos 87 w.heap.size (w.heap.size+1),clos 89 w.heap.size (w.heap.size+1),clos 91 w.heap.size (w.heap.size+1)] 73)→
   Calls Tryz.prog 86 #[.slice (some ⟨w.heap.size+1+1,0,none⟩) 3 3] W fun e w'=>e=.returned (.int .i64 (cmpE (ξt n v r) (ξt m u s)))∧Kept ω w w':=by
  intro W hW;have kW:Kept ω w W:=by rw[hW];exact hk0.alloc _
  have gA:∀ W',Kept ω W W'→Box W' w.heap.size 44 #[.int .i64 n,.string v,.string r]:=fun W' h=>h.box (by rw[hW];exact bA.after_alloc _) (fun h=>h);have gB:∀ W',Kept ω W W'→Box W' (w.heap.size+1) 44 #[.int .i64 m,.string u,.string s]:=fun W' h=>h.box (by rw[hW];exact bB.after_alloc _) (fun h=>h)
  have gF:Box W (w.heap.size+1+1) 73 #[clos 87 w.heap.size (w.heap.size+1),clos 89 w.heap.size (w.heap.size+1),clos 91 w.heap.size (w.heap.size+1)]:=by
   have h:=Box.made ((w.alloc (.cells #[.int .i64 n,.string v,.string r] 44)).alloc (.cells #[.int .i64 m,.string u,.string s] 44)) 73 #[clos 87 w.heap.size (w.heap.size+1),clos 89 w.heap.size (w.heap.size+1),clos 91 w.heap.size (w.heap.size+1)];rw[World.size_alloc,World.size_alloc] at h;rw[hW];exact h
  have a1:ξb3 87 w.heap.size (w.heap.size+1) (ordI n m) W:=fun W' h=>ξlW _ _ n m v r u s W' (gA W' h) (gB W' h);have a2:ξb3 89 w.heap.size (w.heap.size+1) (cmpB v u) W:=fun W' h=>ξkx _ _ n m v r u s W' hv hu (gA W' h) (gB W' h)
  have done:∀ c:Int,cmpE (ξt n v r) (ξt m u s)=c→Calls Tryz.prog 86 #[.slice (some ⟨w.heap.size+1+1,0,none⟩) 3 3] W (fun e w'=>e=.returned (.int .i64 c)∧Kept ω W w')→
    Calls Tryz.prog 86 #[.slice (some ⟨w.heap.size+1+1,0,none⟩) 3 3] W fun e w'=>e=.returned (.int .i64 (cmpE (ξt n v r) (ξt m u s)))∧Kept ω w w':=fun c hc h=>h.mono fun e w' ⟨h1,h2⟩=>⟨by rw[h1,hc],kW.trans h2 (fun _ _ h=>h)⟩
  rcases ξkP n m v r u s with ⟨h1,h2⟩|⟨h1,h2,h3⟩|⟨h1,h2,h3,h4⟩|⟨h1,h2,h3,h4,h5⟩
  · exact done _ h2 (ξjr _ _ _ _ W gF a1 h1)
  · rw[h1] at a1;exact done _ h3 (ξi2 _ _ _ _ W gF a1 a2 h2)
  · rw[h1] at a1;rw[h2] at a2;exact done _ h4 (ξeq _ _ _ _ W gF a1 a2 (fun W' h=>ξkK _ _ n m v r u s W' (gA W' h) (gB W' h) h3))
  · rw[h1] at a1;rw[h2] at a2;exact done _ h5 (ξeq _ _ _ _ W gF a1 a2 (fun W' h=>ξmq _ _ n m v r u s W' hr hs (gA W' h) (gB W' h) h3 h4))
 have hmf:∀ (fn:Fn) (first cap:Array Value) (w:World),(Instr.makeFunc fn first cap).run Tryz.prog w=.ok (.func fn first cap) w:=fun _ _ _ _=>rfl;clear hk0 bA bB
 go_enter Tryz.func44,Tryz.ntmps44
 go_wp2_with (first|(go_at_call 86;refine (hD _ rfl).mono ?_;rintro e w1 ⟨rfl,hk1⟩)|fail)
 go_ret;exact ⟨rfl,hk1⟩
end
section
open Go.RowKit Go.Maps Span Evr
theorem any_k (nm:ByteArray) (o:Nat) (ho:o<256) (n:Int) (v r:ByteArray) (w:World):Calls Tryz.prog 210 #[depV nm o n v r] w fun e w'=>e=.returned (.bool (o%8==0))∧Kept ω w w':=by
 have h7:=ξhp o ho
 go_enter Tryz.func210,Tryz.ntmps210
 go_wp2_with fail
 go_ret;have e:((o:Int)%8==0)=(o%8==0):=by rw[Bool.eq_iff_iff];simp;omega
 exact ⟨by rw[← e];rfl,(Kept.refl _ _).alloc _⟩
section
variable (nm:ByteArray) (o:Nat) (n:Int) (v r:ByteArray) (m:Int) (u x:ByteArray) (w:World) (ho:o<256)
include ho
theorem ξjJ (h:o%8=0) (W:World):Calls Tryz.prog 210 #[depV nm o n v r] W fun e w'=>e=.returned (.bool true)∧Kept ω W w':=by
 have:=any_k nm o ho n v r W;rw[h] at this;exact this
theorem ξby (h:o%8≠0) (W:World):Calls Tryz.prog 210 #[depV nm o n v r] W fun e w'=>e=.returned (.bool false)∧Kept ω W w':=by
 have:=any_k nm o ho n v r W;rw[show (o%8==0)=false by simp[h]] at this;exact this
end
end
section
open Go.RowKit Go.Maps Span Evr
section
variable (nm:ByteArray) (o:Nat) (n:Int) (v r:ByteArray) (m:Int) (u x:ByteArray) (w:World) (ho:o<256)
end
end
section
open Go.RowKit Go.Maps Span Evr
section
variable (nm:ByteArray) (o:Nat) (n:Int) (v r:ByteArray) (nb:ByteArray) (k:Nat) (m:Int) (u x:ByteArray) (w:World) (ho:o<256) (hk:k<256)
include ho hk
omit hk in
theorem ξlw (h:o%8=0):Calls Tryz.prog 183 #[depV nm o n v r,depV nb k m u x] w fun e w'=>e=.returned (.bool (true))∧Kept ω w w':=by
 have A1:=ξjJ nm o n v r ho h;have A2:=A1;have hk0:Kept ω w ((w.alloc (.cells #[.string nm,.int .u8 (o:Int),.int .i64 n,.string v,.string r] 57)).alloc (.cells #[.string nb,.int .u8 (k:Int),.int .i64 m,.string u,.string x] 57)):=((Kept.refl _ _).alloc _).alloc _;have HK:=ψ hk0;have bA:=(Box.made w 57 #[.string nm,.int .u8 (o:Int),.int .i64 n,.string v,.string r]).after_alloc (.cells #[.string nb,.int .u8 (k:Int),.int .i64 m,.string u,.string x] 57);have bB:=Box.made (w.alloc (.cells #[.string nm,.int .u8 (o:Int),.int .i64 n,.string v,.string r] 57)) 57 #[.string nb,.int .u8 (k:Int),.int .i64 m,.string u,.string x];rw[World.size_alloc] at bB;have HA:=ψ bA;have HB:=ψ bB;clear hk0 bA bB
 go_enter Tryz.func183,Tryz.ntmps183
 go_wp2_with (first
  |(go_at_call 210;(first|with_reducible refine (A1 _).mono ?_|with_reducible refine (A2 _).mono ?_);rintro e w5 ⟨rfl,hk5⟩;have HA:=ψ (hk5.box HA.out (fun h=>h));have HB:=ψ (hk5.box HB.out (fun h=>h));have a0:=HA.out.cell 0;have b0:=HB.out.cell 0;have a1:=HA.out.cell 1;have b1:=HB.out.cell 1;have a2:=HA.out.cell 2;have b2:=HB.out.cell 2;have a3:=HA.out.cell 3;have b3:=HB.out.cell 3;have a4:=HA.out.cell 4;have b4:=HB.out.cell 4;have HK:=ψ (Kept.trans HK.out hk5 (fun _ _ h=>h));clear hk5)
  |fail)
 go_ret;exact ⟨rfl,HK.out⟩
theorem ξlg (h:o%8≠0) (h2:k%8=0):Calls Tryz.prog 183 #[depV nm o n v r,depV nb k m u x] w fun e w'=>e=.returned (.bool (true))∧Kept ω w w':=by
 have A1:=ξby nm o n v r ho h;have A2:=ξjJ nb k m u x hk h2;have hk0:Kept ω w ((w.alloc (.cells #[.string nm,.int .u8 (o:Int),.int .i64 n,.string v,.string r] 57)).alloc (.cells #[.string nb,.int .u8 (k:Int),.int .i64 m,.string u,.string x] 57)):=((Kept.refl _ _).alloc _).alloc _;have HK:=ψ hk0;have bA:=(Box.made w 57 #[.string nm,.int .u8 (o:Int),.int .i64 n,.string v,.string r]).after_alloc (.cells #[.string nb,.int .u8 (k:Int),.int .i64 m,.string u,.string x] 57);have bB:=Box.made (w.alloc (.cells #[.string nm,.int .u8 (o:Int),.int .i64 n,.string v,.string r] 57)) 57 #[.string nb,.int .u8 (k:Int),.int .i64 m,.string u,.string x];rw[World.size_alloc] at bB;have HA:=ψ bA;have HB:=ψ bB;clear hk0 bA bB
 go_enter Tryz.func183,Tryz.ntmps183
 go_wp2_with (first
  |(go_at_call 210;(first|with_reducible refine (A1 _).mono ?_|with_reducible refine (A2 _).mono ?_);rintro e w5 ⟨rfl,hk5⟩;have HA:=ψ (hk5.box HA.out (fun h=>h));have HB:=ψ (hk5.box HB.out (fun h=>h));have a0:=HA.out.cell 0;have b0:=HB.out.cell 0;have a1:=HA.out.cell 1;have b1:=HB.out.cell 1;have a2:=HA.out.cell 2;have b2:=HB.out.cell 2;have a3:=HA.out.cell 3;have b3:=HB.out.cell 3;have a4:=HA.out.cell 4;have b4:=HB.out.cell 4;have HK:=ψ (Kept.trans HK.out hk5 (fun _ _ h=>h));clear hk5)
  |fail)
 go_ret;exact ⟨rfl,HK.out⟩
theorem ξkr (h:o%8≠0) (h2:k%8≠0) (q:bits .and .u8 (o:Int) 4=4) (C1:∀ W,Calls Tryz.prog 44 #[.agg #[.int .i64 n,.string v,.string r],.agg #[.int .i64 m,.string u,.string x]] W fun e w'=>e=.returned (.int .i64 (-1))∧Kept ω W w'):Calls Tryz.prog 183 #[depV nm o n v r,depV nb k m u x] w fun e w'=>e=.returned (.bool (true))∧Kept ω w w':=by
 have A1:=ξby nm o n v r ho h;have A2:=ξby nb k m u x hk h2;have hk0:Kept ω w ((w.alloc (.cells #[.string nm,.int .u8 (o:Int),.int .i64 n,.string v,.string r] 57)).alloc (.cells #[.string nb,.int .u8 (k:Int),.int .i64 m,.string u,.string x] 57)):=((Kept.refl _ _).alloc _).alloc _;have HK:=ψ hk0;have bA:=(Box.made w 57 #[.string nm,.int .u8 (o:Int),.int .i64 n,.string v,.string r]).after_alloc (.cells #[.string nb,.int .u8 (k:Int),.int .i64 m,.string u,.string x] 57);have bB:=Box.made (w.alloc (.cells #[.string nm,.int .u8 (o:Int),.int .i64 n,.string v,.string r] 57)) 57 #[.string nb,.int .u8 (k:Int),.int .i64 m,.string u,.string x];rw[World.size_alloc] at bB;have HA:=ψ bA;have HB:=ψ bB;clear hk0 bA bB
 go_enter Tryz.func183,Tryz.ntmps183
 go_wp2_with (first
  |(go_at_call 210;(first|with_reducible refine (A1 _).mono ?_|with_reducible refine (A2 _).mono ?_);rintro e w5 ⟨rfl,hk5⟩;have HA:=ψ (hk5.box HA.out (fun h=>h));have HB:=ψ (hk5.box HB.out (fun h=>h));have a0:=HA.out.cell 0;have b0:=HB.out.cell 0;have a1:=HA.out.cell 1;have b1:=HB.out.cell 1;have a2:=HA.out.cell 2;have b2:=HB.out.cell 2;have a3:=HA.out.cell 3;have b3:=HB.out.cell 3;have a4:=HA.out.cell 4;have b4:=HB.out.cell 4;have HK:=ψ (Kept.trans HK.out hk5 (fun _ _ h=>h));clear hk5)
  |(go_at_call 44;with_reducible refine (C1 _).mono ?_;rintro e w5 ⟨rfl,hk5⟩;have HA:=ψ (hk5.box HA.out (fun h=>h));have HB:=ψ (hk5.box HB.out (fun h=>h));have a0:=HA.out.cell 0;have b0:=HB.out.cell 0;have a1:=HA.out.cell 1;have b1:=HB.out.cell 1;have a2:=HA.out.cell 2;have b2:=HB.out.cell 2;have a3:=HA.out.cell 3;have b3:=HB.out.cell 3;have a4:=HA.out.cell 4;have b4:=HB.out.cell 4;have HK:=ψ (Kept.trans HK.out hk5 (fun _ _ h=>h));clear hk5)
  |fail)
 go_ret;exact ⟨rfl,HK.out⟩
theorem ξkm (h:o%8≠0) (h2:k%8≠0) (q:bits .and .u8 (o:Int) 4=0) (C1:∀ W,Calls Tryz.prog 44 #[.agg #[.int .i64 n,.string v,.string r],.agg #[.int .i64 m,.string u,.string x]] W fun e w'=>e=.returned (.int .i64 (-1))∧Kept ω W w'):Calls Tryz.prog 183 #[depV nm o n v r,depV nb k m u x] w fun e w'=>e=.returned (.bool (bits .and .u8 (k:Int) 1 !=0))∧Kept ω w w':=by
 have A1:=ξby nm o n v r ho h;have A2:=ξby nb k m u x hk h2;have hk0:Kept ω w ((w.alloc (.cells #[.string nm,.int .u8 (o:Int),.int .i64 n,.string v,.string r] 57)).alloc (.cells #[.string nb,.int .u8 (k:Int),.int .i64 m,.string u,.string x] 57)):=((Kept.refl _ _).alloc _).alloc _;have HK:=ψ hk0;have bA:=(Box.made w 57 #[.string nm,.int .u8 (o:Int),.int .i64 n,.string v,.string r]).after_alloc (.cells #[.string nb,.int .u8 (k:Int),.int .i64 m,.string u,.string x] 57);have bB:=Box.made (w.alloc (.cells #[.string nm,.int .u8 (o:Int),.int .i64 n,.string v,.string r] 57)) 57 #[.string nb,.int .u8 (k:Int),.int .i64 m,.string u,.string x];rw[World.size_alloc] at bB;have HA:=ψ bA;have HB:=ψ bB;clear hk0 bA bB
 go_enter Tryz.func183,Tryz.ntmps183
 go_wp2_with (first
  |(go_at_call 210;(first|with_reducible refine (A1 _).mono ?_|with_reducible refine (A2 _).mono ?_);rintro e w5 ⟨rfl,hk5⟩;have HA:=ψ (hk5.box HA.out (fun h=>h));have HB:=ψ (hk5.box HB.out (fun h=>h));have a0:=HA.out.cell 0;have b0:=HB.out.cell 0;have a1:=HA.out.cell 1;have b1:=HB.out.cell 1;have a2:=HA.out.cell 2;have b2:=HB.out.cell 2;have a3:=HA.out.cell 3;have b3:=HB.out.cell 3;have a4:=HA.out.cell 4;have b4:=HB.out.cell 4;have HK:=ψ (Kept.trans HK.out hk5 (fun _ _ h=>h));clear hk5)
  |(go_at_call 44;with_reducible refine (C1 _).mono ?_;rintro e w5 ⟨rfl,hk5⟩;have HA:=ψ (hk5.box HA.out (fun h=>h));have HB:=ψ (hk5.box HB.out (fun h=>h));have a0:=HA.out.cell 0;have b0:=HB.out.cell 0;have a1:=HA.out.cell 1;have b1:=HB.out.cell 1;have a2:=HA.out.cell 2;have b2:=HB.out.cell 2;have a3:=HA.out.cell 3;have b3:=HB.out.cell 3;have a4:=HA.out.cell 4;have b4:=HB.out.cell 4;have HK:=ψ (Kept.trans HK.out hk5 (fun _ _ h=>h));clear hk5)
  |fail)
 go_ret;exact ⟨rfl,HK.out⟩
theorem ξkI (h:o%8≠0) (h2:k%8≠0) (q:bits .and .u8 (o:Int) 1=1) (C1:∀ W,Calls Tryz.prog 44 #[.agg #[.int .i64 n,.string v,.string r],.agg #[.int .i64 m,.string u,.string x]] W fun e w'=>e=.returned (.int .i64 (1))∧Kept ω W w'):Calls Tryz.prog 183 #[depV nm o n v r,depV nb k m u x] w fun e w'=>e=.returned (.bool (true))∧Kept ω w w':=by
 have A1:=ξby nm o n v r ho h;have A2:=ξby nb k m u x hk h2;have hk0:Kept ω w ((w.alloc (.cells #[.string nm,.int .u8 (o:Int),.int .i64 n,.string v,.string r] 57)).alloc (.cells #[.string nb,.int .u8 (k:Int),.int .i64 m,.string u,.string x] 57)):=((Kept.refl _ _).alloc _).alloc _;have HK:=ψ hk0;have bA:=(Box.made w 57 #[.string nm,.int .u8 (o:Int),.int .i64 n,.string v,.string r]).after_alloc (.cells #[.string nb,.int .u8 (k:Int),.int .i64 m,.string u,.string x] 57);have bB:=Box.made (w.alloc (.cells #[.string nm,.int .u8 (o:Int),.int .i64 n,.string v,.string r] 57)) 57 #[.string nb,.int .u8 (k:Int),.int .i64 m,.string u,.string x];rw[World.size_alloc] at bB;have HA:=ψ bA;have HB:=ψ bB;clear hk0 bA bB
 go_enter Tryz.func183,Tryz.ntmps183
 go_wp2_with (first
  |(go_at_call 210;(first|with_reducible refine (A1 _).mono ?_|with_reducible refine (A2 _).mono ?_);rintro e w5 ⟨rfl,hk5⟩;have HA:=ψ (hk5.box HA.out (fun h=>h));have HB:=ψ (hk5.box HB.out (fun h=>h));have a0:=HA.out.cell 0;have b0:=HB.out.cell 0;have a1:=HA.out.cell 1;have b1:=HB.out.cell 1;have a2:=HA.out.cell 2;have b2:=HB.out.cell 2;have a3:=HA.out.cell 3;have b3:=HB.out.cell 3;have a4:=HA.out.cell 4;have b4:=HB.out.cell 4;have HK:=ψ (Kept.trans HK.out hk5 (fun _ _ h=>h));clear hk5)
  |(go_at_call 44;with_reducible refine (C1 _).mono ?_;rintro e w5 ⟨rfl,hk5⟩;have HA:=ψ (hk5.box HA.out (fun h=>h));have HB:=ψ (hk5.box HB.out (fun h=>h));have a0:=HA.out.cell 0;have b0:=HB.out.cell 0;have a1:=HA.out.cell 1;have b1:=HB.out.cell 1;have a2:=HA.out.cell 2;have b2:=HB.out.cell 2;have a3:=HA.out.cell 3;have b3:=HB.out.cell 3;have a4:=HA.out.cell 4;have b4:=HB.out.cell 4;have HK:=ψ (Kept.trans HK.out hk5 (fun _ _ h=>h));clear hk5)
  |fail)
 go_ret;exact ⟨rfl,HK.out⟩
theorem ξkk (h:o%8≠0) (h2:k%8≠0) (q:bits .and .u8 (o:Int) 1=0) (C1:∀ W,Calls Tryz.prog 44 #[.agg #[.int .i64 n,.string v,.string r],.agg #[.int .i64 m,.string u,.string x]] W fun e w'=>e=.returned (.int .i64 (1))∧Kept ω W w'):Calls Tryz.prog 183 #[depV nm o n v r,depV nb k m u x] w fun e w'=>e=.returned (.bool (bits .and .u8 (k:Int) 4 !=0))∧Kept ω w w':=by
 have A1:=ξby nm o n v r ho h;have A2:=ξby nb k m u x hk h2;have hk0:Kept ω w ((w.alloc (.cells #[.string nm,.int .u8 (o:Int),.int .i64 n,.string v,.string r] 57)).alloc (.cells #[.string nb,.int .u8 (k:Int),.int .i64 m,.string u,.string x] 57)):=((Kept.refl _ _).alloc _).alloc _;have HK:=ψ hk0;have bA:=(Box.made w 57 #[.string nm,.int .u8 (o:Int),.int .i64 n,.string v,.string r]).after_alloc (.cells #[.string nb,.int .u8 (k:Int),.int .i64 m,.string u,.string x] 57);have bB:=Box.made (w.alloc (.cells #[.string nm,.int .u8 (o:Int),.int .i64 n,.string v,.string r] 57)) 57 #[.string nb,.int .u8 (k:Int),.int .i64 m,.string u,.string x];rw[World.size_alloc] at bB;have HA:=ψ bA;have HB:=ψ bB;clear hk0 bA bB
 go_enter Tryz.func183,Tryz.ntmps183
 go_wp2_with (first
  |(go_at_call 210;(first|with_reducible refine (A1 _).mono ?_|with_reducible refine (A2 _).mono ?_);rintro e w5 ⟨rfl,hk5⟩;have HA:=ψ (hk5.box HA.out (fun h=>h));have HB:=ψ (hk5.box HB.out (fun h=>h));have a0:=HA.out.cell 0;have b0:=HB.out.cell 0;have a1:=HA.out.cell 1;have b1:=HB.out.cell 1;have a2:=HA.out.cell 2;have b2:=HB.out.cell 2;have a3:=HA.out.cell 3;have b3:=HB.out.cell 3;have a4:=HA.out.cell 4;have b4:=HB.out.cell 4;have HK:=ψ (Kept.trans HK.out hk5 (fun _ _ h=>h));clear hk5)
  |(go_at_call 44;with_reducible refine (C1 _).mono ?_;rintro e w5 ⟨rfl,hk5⟩;have HA:=ψ (hk5.box HA.out (fun h=>h));have HB:=ψ (hk5.box HB.out (fun h=>h));have a0:=HA.out.cell 0;have b0:=HB.out.cell 0;have a1:=HA.out.cell 1;have b1:=HB.out.cell 1;have a2:=HA.out.cell 2;have b2:=HB.out.cell 2;have a3:=HA.out.cell 3;have b3:=HB.out.cell 3;have a4:=HA.out.cell 4;have b4:=HB.out.cell 4;have HK:=ψ (Kept.trans HK.out hk5 (fun _ _ h=>h));clear hk5)
  |fail)
 go_ret;exact ⟨rfl,HK.out⟩
theorem ξlE (h:o%8≠0) (h2:k%8≠0) (C1:∀ W,Calls Tryz.prog 44 #[.agg #[.int .i64 n,.string v,.string r],.agg #[.int .i64 m,.string u,.string x]] W fun e w'=>e=.returned (.int .i64 (0))∧Kept ω W w'):Calls Tryz.prog 183 #[depV nm o n v r,depV nb k m u x] w fun e w'=>e=.returned (.bool (bits .and .u8 (bits .and .u8 (o:Int) (k:Int)) 7 !=0))∧Kept ω w w':=by
 have A1:=ξby nm o n v r ho h;have A2:=ξby nb k m u x hk h2;have hk0:Kept ω w ((w.alloc (.cells #[.string nm,.int .u8 (o:Int),.int .i64 n,.string v,.string r] 57)).alloc (.cells #[.string nb,.int .u8 (k:Int),.int .i64 m,.string u,.string x] 57)):=((Kept.refl _ _).alloc _).alloc _;have HK:=ψ hk0;have bA:=(Box.made w 57 #[.string nm,.int .u8 (o:Int),.int .i64 n,.string v,.string r]).after_alloc (.cells #[.string nb,.int .u8 (k:Int),.int .i64 m,.string u,.string x] 57);have bB:=Box.made (w.alloc (.cells #[.string nm,.int .u8 (o:Int),.int .i64 n,.string v,.string r] 57)) 57 #[.string nb,.int .u8 (k:Int),.int .i64 m,.string u,.string x];rw[World.size_alloc] at bB;have HA:=ψ bA;have HB:=ψ bB;clear hk0 bA bB
 go_enter Tryz.func183,Tryz.ntmps183
 go_wp2_with (first
  |(go_at_call 210;(first|with_reducible refine (A1 _).mono ?_|with_reducible refine (A2 _).mono ?_);rintro e w5 ⟨rfl,hk5⟩;have HA:=ψ (hk5.box HA.out (fun h=>h));have HB:=ψ (hk5.box HB.out (fun h=>h));have a0:=HA.out.cell 0;have b0:=HB.out.cell 0;have a1:=HA.out.cell 1;have b1:=HB.out.cell 1;have a2:=HA.out.cell 2;have b2:=HB.out.cell 2;have a3:=HA.out.cell 3;have b3:=HB.out.cell 3;have a4:=HA.out.cell 4;have b4:=HB.out.cell 4;have HK:=ψ (Kept.trans HK.out hk5 (fun _ _ h=>h));clear hk5)
  |(go_at_call 44;with_reducible refine (C1 _).mono ?_;rintro e w5 ⟨rfl,hk5⟩;have HA:=ψ (hk5.box HA.out (fun h=>h));have HB:=ψ (hk5.box HB.out (fun h=>h));have a0:=HA.out.cell 0;have b0:=HB.out.cell 0;have a1:=HA.out.cell 1;have b1:=HB.out.cell 1;have a2:=HA.out.cell 2;have b2:=HB.out.cell 2;have a3:=HA.out.cell 3;have b3:=HB.out.cell 3;have a4:=HA.out.cell 4;have b4:=HB.out.cell 4;have HK:=ψ (Kept.trans HK.out hk5 (fun _ _ h=>h));clear hk5)
  |fail)
 go_ret;exact ⟨rfl,HK.out⟩
theorem meet_k (hv:v.size≤140737488355327) (hr:r.size≤140737488355327) (hu:u.size≤140737488355327) (hx:x.size≤140737488355327):Calls Tryz.prog 183 #[depV nm o n v r,depV nb k m u x] w fun e w'=>e=.returned (.bool (ξa7 o k (cmpE (ξt n v r) (ξt m u x))))∧Kept ω w w':=by
 have hC:=fun W=>ξcK n m v r u x W hv hr hu hx;have h3:=Span.three (e_range (ξt n v r) (ξt m u x))
 by_cases h:o%8=0
 · have e:∀ c,ξa7 o k c=true:=fun c=>by unfold ξa7;simp[h]
   rw[e];exact ξlw nm o n v r nb k m u x w ho h
 · have h0:(o%8==0)=false:=by simp[h]
   by_cases h2:k%8=0
   · have e:∀ c,ξa7 o k c=true:=fun c=>by unfold ξa7;simp[h2]
     rw[e];exact ξlg nm o n v r nb k m u x w ho hk h h2
   · have h4:(k%8==0)=false:=by simp[h2]
     rcases h3 with h3|h3|h3
     · rw[h3] at hC ⊢
       by_cases q:o/4%2=1
       · have e:ξa7 o k (-1)=true:=by simp[ξa7,q]
         rw[e];exact ξkr nm o n v r nb k m u x w ho hk h h2 (by rw[ξfE o ho,q];rfl) hC
       · have e:ξa7 o k (-1)=(bits .and .u8 (k:Int) 1 !=0):=by
          rw[ξg2 k hk,Bool.eq_iff_iff];simp[ξa7,h0,h4,q];omega
         rw[e];exact ξkm nm o n v r nb k m u x w ho hk h h2 (by rw[ξfE o ho,show o/4%2=0 by omega];rfl) hC
     · rw[h3] at hC ⊢
       have e:ξa7 o k 0=(bits .and .u8 (bits .and .u8 (o:Int) (k:Int)) 7 !=0):=by
        have hb:=ξlZ o k;rw[ξjV o k ho hk,Bool.eq_iff_iff];simp only[ξa7,h0,h4,Bool.false_or,Int.lt_irrefl,if_false,bne_iff_ne,ne_eq,Bool.or_eq_true,Bool.and_eq_true,beq_iff_eq];rw[show ((((o%8) &&& (k%8):Nat):Int)=0)=(((o%8) &&& (k%8))=0) from propext Int.ofNat_eq_zero];rw[← ne_eq,hb,or_assoc]
       rw[e];exact ξlE nm o n v r nb k m u x w ho hk h h2 hC
     · rw[h3] at hC ⊢
       by_cases q:o%2=1
       · have e:ξa7 o k 1=true:=by simp[ξa7,q]
         rw[e];exact ξkI nm o n v r nb k m u x w ho hk h h2 (by rw[ξg2 o ho,q];rfl) hC
       · have e:ξa7 o k 1=(bits .and .u8 (k:Int) 4 !=0):=by
          rw[ξfE k hk,Bool.eq_iff_iff];simp[ξa7,h0,h4,q];omega
         rw[e];exact ξkk nm o n v r nb k m u x w ho hk h h2 (by rw[ξg2 o ho,show o%2=0 by omega];rfl) hC
end
end
end Go.Proofs.YtnfhpecllidgoaaGreatDoor
