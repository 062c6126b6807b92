/-
  The texts Ask15g, Wh13e. Conditions: as each theorem states.
-/
import Derived.Test.YtnfhpecllidgoaaGreatDoorK00
import Derived.Test.YtnfhpecllidgoaaGreatDoorK27
import Derived.Test.YtnfhpecllidgoaaGreatDoorK28
set_option maxRecDepth 100000
set_option maxHeartbeats 16000000
namespace Go.Proofs.YtnfhpecllidgoaaGreatDoor
section
open Go.RowKit Ver Evr Span Dep Rich
variable {lo:Nat} {w w':World} {ab pb xb sb:Nat} {r:Rq} {l:List Pk} {me su:List (List Int)} {f:Nat→Bool}
def SetS (w:World) (sb:Nat) (f:Nat→Bool):Prop:=∃ cs,Box w sb 138 cs∧∀ i,i<256→cs[i]? =some (.bool (f i))
theorem SetS.kept (h:SetS w sb f) (hk:Kept ω w w'):SetS w' sb f:=by
 obtain ⟨cs,h1,h2⟩:=h;exact ⟨cs,hk.box h1 (fun h=>h),h2⟩
def InP (zs:List Int):Prop:=∀ z∈zs,0≤z∧z<256
def anyS (f:Nat→Bool) (zs:List Int):Bool:=zs.any fun z=>f z.toNat
theorem has1_15 (h:SetS w sb f) (q:Nat) (hq:Box w q 99 #[.pointer (some ⟨sb,0,none⟩)]) (n:Nat) (hn:n<256):Calls Tryz.prog 135 #[.int .i64 (n:Int),.pointer (some ⟨q,0,none⟩)] w fun e w'=>e=.returned (.bool (f n))∧Kept ω w w':=by
 obtain ⟨cs,h1,h2⟩:=h;have hn0:(0:Int)≤(n:Int):=by omega
 have hnI:(n:Int)<256:=by omega
 have bc:=(h1.cell n).trans (h2 n hn);have bq:=hq.cell 0;clear h1 h2 hq
 go_enter Tryz.func135,Tryz.ntmps135
 go_wp2_with fail
 go_ret;exact ⟨rfl,Kept.refl _ _⟩
theorem ξbW (h:SetS w sb f) (zs:List Int) (v:Value) (hv:IntsS w v zs) (hl:zs.length<1000000) (hz:InP zs):Calls Tryz.prog 98 #[.pointer (some ⟨sb,0,none⟩),v] w fun e w'=>e=.returned (.bool (anyS f zs))∧Kept ω w w':=by
 have hk1:=(Kept.refl ω w).alloc (.cells #[.pointer (some ⟨sb,0,none⟩)] 99);have HB:=ψ (Box.made w 99 #[.pointer (some ⟨sb,0,none⟩)]);have HO:=ψ (h.kept hk1);have HK:=ψ hk1
 have CC:=ψ (ξb7 135 #[.pointer (some ⟨w.heap.size,0,none⟩)] (fun _ _=>by kernel_rfl) (fun z=>f z.toNat) zs v _ (hv.kept hk1) hl (fun x hx W hW=>by
  obtain ⟨n,rfl⟩:∃ n:Nat,x=(n:Int):=⟨x.toNat,by have:=(hz x hx).1;omega⟩
  exact has1_15 (HO.out.kept hW) _ (hW.box HB.out (fun h=>h)) n (by have:=(hz _ hx).2;omega)))
 obtain ⟨ao,cp,rfl,_⟩:=hv;clear h hk1 hz
 go_enter Tryz.func98,Tryz.ntmps98
 go_wp2_with (first
  |(go_at_call 134;refine CC.out.mono ?_;rintro x w2 ⟨rfl,hk2⟩)
  |fail)
 go_ret;exact ⟨rfl,HK.out.trans hk2 (fun _ _ h=>h)⟩
theorem ξgD (h:AskO lo w ab pb xb r l me su) (hs:SetS w sb f) (j:Nat) (zs:List Int) (hz:me[j]? =some zs) (hl:zs.length<1000000) (hp:InP zs):Calls Tryz.prog 52 #[.pointer (some ⟨ab,0,none⟩),.int .i64 (j:Int),.pointer (some ⟨sb,0,none⟩)] w fun e w'=>e=.returned (.bool (anyS f zs))∧Kept ω w w':=by
 obtain ⟨jv,ev,pv,mv,sv,h1,h2,h3,h4,h5,h7⟩:=h;obtain ⟨ao,cp,rfl,hm⟩:=h5;obtain ⟨b,off,u,rfl,hb,hc,hu⟩:=hm j zs hz;have hnl:=(List.getElem?_eq_some_iff.1 hz).1;have hn0:(0:Int)≤(j:Int):=by omega
 have hnI:(j:Int)<(me.length:Int):=by omega
 have bx:=h1.cell 8;have CC:=ψ (ξbW hs zs u (IntsS.of_own hu) hl hp);clear h1 h2 h3 h4 h7 hm hb hz hu hs
 go_enter Tryz.func52,Tryz.ntmps52
 go_wp2_with (first
  |(go_at_call 98;refine CC.out.mono ?_;rintro x w2 ⟨rfl,hk2⟩)
  |fail)
 go_ret;exact ⟨rfl,hk2⟩
theorem ξhO (h:AskO lo w ab pb xb r l me su) (hs:SetS w sb f) (j:Nat) (zs:List Int) (hz:me[j]? =some zs) (hl:zs.length<1000000) (hp:InP zs):Calls Tryz.prog 53 #[.pointer (some ⟨ab,0,none⟩),.int .i64 (j:Int),.pointer (some ⟨sb,0,none⟩)] w fun e w'=>e=.returned (.bool (!anyS f zs))∧Kept ω w w':=by
 obtain ⟨jv,ev,pv,mv,sv,h1,h2,h3,h4,h5,h7⟩:=h;obtain ⟨ao,cp,rfl,hm⟩:=h5;obtain ⟨b,off,u,rfl,hb,hc,hu⟩:=hm j zs hz;have hnl:=(List.getElem?_eq_some_iff.1 hz).1;have hn0:(0:Int)≤(j:Int):=by omega
 have hnI:(j:Int)<(me.length:Int):=by omega
 have bx:=h1.cell 8;have CC:=ψ (ξbW hs zs u (IntsS.of_own hu) hl hp);clear h1 h2 h3 h4 h7 hm hb hz hu hs
 go_enter Tryz.func53,Tryz.ntmps53
 go_wp2_with (first
  |(go_at_call 98;refine CC.out.mono ?_;rintro x w2 ⟨rfl,hk2⟩)
  |fail)
 go_ret;exact ⟨rfl,hk2⟩
theorem ξih (h:AskO lo w ab pb xb r l me su) (hs:SetS w sb f) (q1 q2:Nat) (hq1:Box w q1 99 #[.pointer (some ⟨sb,0,none⟩)]) (hq2:Box w q2 22 #[.pointer (some ⟨ab,0,none⟩)]) (i:Nat) (zs:List Int) (hz:su[i]? =some zs) (hl:zs.length<1000000) (hp:InP zs):
  Calls Tryz.prog 100 #[.int .i64 (i:Int),.pointer (some ⟨q1,0,none⟩),.pointer (some ⟨q2,0,none⟩)] w fun e w'=>e=.returned (.bool (anyS f zs))∧Kept ω w w':=by
 obtain ⟨jv,ev,pv,mv,sv,h1,h2,h3,h4,h5,h7⟩:=h;obtain ⟨ao,cp,rfl,hm⟩:=h7;obtain ⟨b,off,u,rfl,hb,hc,hu⟩:=hm i zs hz;have hnl:=(List.getElem?_eq_some_iff.1 hz).1;have hn0:(0:Int)≤(i:Int):=by omega
 have hnI:(i:Int)<(su.length:Int):=by omega
 have hi:=IntsS.of_own hu;have HC:=ψ (fun (W:World) (hk:Kept ω w W)=>ξbW (hs.kept hk) zs u (hi.kept hk) hl hp);clear h2 h3 h4 h5 hz hm hi hu hs hp
 go_enter Tryz.func100,Tryz.ntmps100
 go_wp2_with fail
 obtain ⟨T,F,t0,ht0,hFk,hFs⟩:=ξQ w;have lS:=fun t=>((hFk t).box hq1 (fun h=>h)).cell 0;have lX:=fun t=>((hFk t).box hq2 (fun h=>h)).cell 0;have lB:=fun t=>((hFk t).box h1 (fun h=>h)).cell 9;have lE:=fun t=>((hFk t).cell (p:=⟨b,off+i,none⟩) hb (fun h=>h)).trans hc;have kC:=fun t=>HC.out (F t) (hFk t);have HFK:=ψ hFk;have HFS:=ψ hFs;have hnt:Nonempty T:=⟨t0⟩;clear hFk hFs h1 hq1 hq2 hc;refine ξh F t0 ht0 (by kernel_rfl) (by kernel_rfl) ?_
 repeat (go_big_quiet_step (first
  |(go_at_call 98;with_reducible exact ξn HFS.out (kC _))))
 refine wpQuiet_nil ?_;rintro _ ⟨tz,rfl⟩
 go_wp2_with fail
 go_ret;exact ⟨rfl,HFK.out tz⟩
def synB (r:Rq) (l:List Pk) (su:List (List Int)) (f:Nat→Bool) (i:Int):Bool:=decide ((newL r l su i).length=0)||anyS f (newL r l su i)
theorem ξl5 (h:AskO lo w ab pb xb r l me su) (hW:AskW w r l) (hz:∀ zs∈su,zs.length<1000000) (hs:SetS w sb f) (q1 q2:Nat) (hq1:Box w q1 22 #[.pointer (some ⟨ab,0,none⟩)]) (hq2:Box w q2 99 #[.pointer (some ⟨sb,0,none⟩)]) (i:Int) (hl:(newL r l su i).length<1000000) (hp:InP (newL r l su i)):
  Calls Tryz.prog 101 #[.int .i64 i,.pointer (some ⟨q1,0,none⟩),.pointer (some ⟨q2,0,none⟩)] w fun e w'=>e=.returned (.bool (synB r l su f i))∧Kept ω w w':=by
 have HN:=ψ (ξiS h hW hz i);have bx:=hq1.cell 0;have HQ:=ψ hq2;have HS:=ψ hs
 by_cases h0:(newL r l su i).length=0
 · have HR:=ψ (show synB r l su f i=true by unfold synB;rw[decide_eq_true h0];rfl);have g:(((newL r l su i).length:Int)==0)=true:=by simp[h0]
   clear h hW hz hs hq1 hq2 hp h0
   go_enter Tryz.func101,Tryz.ntmps101
   go_wp2_with (first
    |(go_at_call 19;refine HN.out.mono ?_;rintro x w2 ⟨⟨v,rfl,hv⟩,hk2⟩;obtain ⟨ao,cp,rfl,_⟩:=IntsS.of_own hv;clear hv)
    |fail)
   go_ret;exact ⟨by rw[HR.out];rfl,hk2⟩
 · have HR:=ψ (show synB r l su f i=anyS f (newL r l su i) by unfold synB;rw[decide_eq_false h0];rfl);have g:(((newL r l su i).length:Int)==0)=false:=by rw[Bool.eq_false_iff];simp;intro e;exact h0 (by rw[e];rfl)
   have HP:=ψ hp;clear h hW hz hs hq1 hq2 hp h0
   go_enter Tryz.func101,Tryz.ntmps101
   go_wp2_with (first
    |(go_at_call 19;refine HN.out.mono ?_;rintro x w2 ⟨⟨v,rfl,hv⟩,hk2⟩;have HV:=ψ (IntsS.of_own hv);have HC:=ψ (ξbW (HS.out.kept hk2) (newL r l su i) v (IntsS.of_own hv) hl HP.out);obtain ⟨ao,cp,rfl,_⟩:=HV.out;have by0:=(hk2.box HQ.out (fun h=>h)).cell 0;clear hv)
    |(go_at_call 98;refine HC.out.mono ?_;rintro x w3 ⟨rfl,hk3⟩)
    |fail)
   go_ret;exact ⟨by rw[HR.out];rfl,hk2.trans hk3 (fun _ _ h=>h)⟩
theorem ξf0 (h:AskO lo w ab pb xb r l me su) (hs:SetS w sb f) (j:Nat) (zs:List Int) (hz:me[j]? =some zs) (hl:zs.length<1000000) (hi:∀ i∈zs,hasB su i=true) (hsu:∀ ys∈su,ys.length<1000000∧InP ys):Calls Tryz.prog 54 #[.pointer (some ⟨ab,0,none⟩),.int .i64 (j:Int),.pointer (some ⟨sb,0,none⟩)] w fun e w'=>e=.returned (.bool (zs.all fun i=>anyS f (sucL su i)))∧Kept ω w w':=by
 have hk1:=(Kept.refl ω w).alloc (.cells #[.pointer (some ⟨ab,0,none⟩)] 22);have hk2:=hk1.alloc (.cells #[.pointer (some ⟨sb,0,none⟩)] 99);have HB1:=ψ ((Box.made w 22 #[.pointer (some ⟨ab,0,none⟩)]).after_alloc (.cells #[.pointer (some ⟨sb,0,none⟩)] 99));have hb2:=Box.made (w.alloc (.cells #[.pointer (some ⟨ab,0,none⟩)] 22)) 99 #[.pointer (some ⟨sb,0,none⟩)];rw[World.size_alloc] at hb2;have HB2:=ψ hb2;have HO:=ψ (h.kept hk2);have HS:=ψ (hs.kept hk2);have bq:=HB1.out.cell 0;obtain ⟨jv,ev,pv,mv,sv,h1,h2,h3,h4,h5,h7⟩:=HO.out;obtain ⟨ao,cp,rfl,hm⟩:=h5;obtain ⟨b,off,u,rfl,hb,hc,hu⟩:=hm j zs hz;have hnl:=(List.getElem?_eq_some_iff.1 hz).1;have hn0:(0:Int)≤(j:Int):=by omega
 have hnI:(j:Int)<(me.length:Int):=by omega
 have bx:=h1.cell 8
 have CC:=ψ (ξfs 100 #[.pointer (some ⟨w.heap.size+1,0,none⟩),.pointer (some ⟨w.heap.size,0,none⟩)] (fun _ _=>by kernel_rfl) (fun i=>anyS f (sucL su i)) zs u _ (IntsS.of_own hu) hl (fun x hx W hW=>by
  have hh:=hi x hx;have h2:=hh;unfold hasB at h2;have h2:=of_decide_eq_true h2;obtain ⟨n,rfl⟩:∃ n:Nat,x=(n:Int):=⟨x.toNat,by omega⟩;have hlt:n<su.length:=by omega
  rw[show sucL su (n:Int)=su[n] by unfold sucL;rw[hh];simp[hlt]]
  exact ξih (HO.out.kept hW) (HS.out.kept hW) _ _ (hW.box HB2.out (fun h=>h)) (hW.box HB1.out (fun h=>h)) n su[n] (List.getElem?_eq_getElem hlt) (hsu _ (List.getElem_mem hlt)).1 (hsu _ (List.getElem_mem hlt)).2))
 have HK:=ψ hk2;clear h hs h1 h2 h3 h4 h7 hm hb hz hu hk1 hk2 hb2 hi hsu
 go_enter Tryz.func54,Tryz.ntmps54
 go_wp2_with (first
  |(go_at_call 99;refine CC.out.mono ?_;rintro x w2 ⟨rfl,hk2⟩)
  |fail)
 go_ret;exact ⟨rfl,HK.out.trans hk2 (fun _ _ h=>h)⟩
theorem ξiv (h:AskO lo w ab pb xb r l me su) (hs:SetS w sb f) (j:Nat) (zs:List Int) (hz:me[j]? =some zs) (hl:zs.length<1000000) (hW0:AskW w r l) (hi:∀ i∈zs,(newL r l su i).length<1000000∧InP (newL r l su i)) (hsu:∀ ys∈su,ys.length<1000000∧InP ys):Calls Tryz.prog 55 #[.pointer (some ⟨ab,0,none⟩),.int .i64 (j:Int),.pointer (some ⟨sb,0,none⟩)] w fun e w'=>e=.returned (.bool (zs.all (synB r l su f)))∧Kept ω w w':=by
 have hk1:=(Kept.refl ω w).alloc (.cells #[.pointer (some ⟨ab,0,none⟩)] 22);have hk2:=hk1.alloc (.cells #[.pointer (some ⟨sb,0,none⟩)] 99);have HB1:=ψ ((Box.made w 22 #[.pointer (some ⟨ab,0,none⟩)]).after_alloc (.cells #[.pointer (some ⟨sb,0,none⟩)] 99));have hb2:=Box.made (w.alloc (.cells #[.pointer (some ⟨ab,0,none⟩)] 22)) 99 #[.pointer (some ⟨sb,0,none⟩)];rw[World.size_alloc] at hb2;have HB2:=ψ hb2;have HO:=ψ (h.kept hk2);have HS:=ψ (hs.kept hk2);have bq:=HB1.out.cell 0;obtain ⟨jv,ev,pv,mv,sv,h1,h2,h3,h4,h5,h7⟩:=HO.out;obtain ⟨ao,cp,rfl,hm⟩:=h5;obtain ⟨b,off,u,rfl,hb,hc,hu⟩:=hm j zs hz;have hnl:=(List.getElem?_eq_some_iff.1 hz).1;have hn0:(0:Int)≤(j:Int):=by omega
 have hnI:(j:Int)<(me.length:Int):=by omega
 have bx:=h1.cell 8;have CC:=ψ (ξfs 101 #[.pointer (some ⟨w.heap.size,0,none⟩),.pointer (some ⟨w.heap.size+1,0,none⟩)] (fun _ _=>by kernel_rfl) (synB r l su f) zs u _ (IntsS.of_own hu) hl (fun x hx W hW=>ξl5 (HO.out.kept hW) (hW0.kept (hk2.trans hW (fun _ _ h=>h))) (fun ys h=>(hsu ys h).1) (HS.out.kept hW) _ _ (hW.box HB1.out (fun h=>h)) (hW.box HB2.out (fun h=>h)) x (hi x hx).1 (hi x hx).2));have HK:=ψ hk2;clear h hs h1 h2 h3 h4 h7 hm hb hz hu hk1 hk2 hb2 hi hsu
 go_enter Tryz.func55,Tryz.ntmps55
 go_wp2_with (first
  |(go_at_call 99;refine CC.out.mono ?_;rintro x w2 ⟨rfl,hk2⟩)
  |fail)
 go_ret;exact ⟨rfl,HK.out.trans hk2 (fun _ _ h=>h)⟩
end
section
open Go.RowKit Ver Evr Span Dep Rich
open Go.Maps Go.WideMaps
attribute [local go_sem ↓] ξE
theorem ξeR:(Tryz.prog.info? 40).map (fun i=>(i.zero,i.size,i.bytes))=some (some (.slice none 0 0),1,24):=by kernel_rfl
def ξch (l:List Pk) (p:Pk) (n xb m2 g c h0 cu:Nat) (au:Option Addr):List KdM:= [.lit (.func (.func 124) #[] #[.pointer (some ⟨h0,0,none⟩),.pointer (some ⟨h0+1,0,none⟩)]),.lit (.pointer (some ⟨xb,0,none⟩)),.lit (.pointer (some ⟨xb,0,none⟩)),.lit (.pointer (some ⟨xb,2,none⟩)),.lit (.map (some m2)),.lit (.pointer (some ⟨xb,0,none⟩)),.lit (.pointer (some ⟨xb,0,none⟩)),.lit (.pointer (some ⟨xb,0,none⟩)),.lit (.slice (some ⟨g,0,none⟩) l.length c),.lit (.int .i64 (n:Int)),.lit (.pointer (some ⟨g,n*15,none⟩)),.lit (.pointer (some ⟨g,n*15,none⟩)),.lit (.string p.nm),.lit (.slice au (evI p.nm (evF ξq 0 l)).length cu),.lst ([(.slice au (evI p.nm (evF ξq 0 l)).length cu,(evI p.nm (evF ξq 0 l)))]),.own (h0) ((obrL l (n:Int))),.own (h0) ((obrL l (n:Int)))]
theorem ξfi {lo:Nat} {w:World} {xb:Nat} {l:List Pk} (hI:IS lo w xb l) (hok:∀ p∈l,PkFits p) (hl:l.length<1000000) (hE:(evF ξq 0 l).length<1000000) (n:Nat) (p:Pk) (hp:l[n]? =some p):
  Calls Tryz.prog 82 #[.pointer (some ⟨xb,0,none⟩),.int .i64 (n:Int)] w fun e w'=>(∃ v,e=.returned v∧w'.ownsInts w.heap.size 3 .i64 v (obrL l (n:Int)))∧Kept ω w w':=by
 have hpn:=(hok p (List.mem_of_getElem? hp)).nm;have hpn2:p.nm.size≤maxLen:=by unfold maxLen;omega
 have hnl:=(List.getElem?_eq_some_iff.1 hp).1;have hn0:(0:Int)≤(n:Int):=by omega
 have hnI:(n:Int)<(l.length:Int):=by omega
 have hdd:decide (0≤(n:Int)∧(n:Int)<(l.length:Int))=true:=decide_eq_true ⟨hn0,hnI⟩;have hle:(evI p.nm (evF ξq 0 l)).length<1000000:=Nat.lt_of_le_of_lt (ξb0 _ _) hE;have HE:=ψ hle;have HE0:=ψ hE;have HP:=ψ hp;clear hpn hle hE;have hk1:=(Kept.refl ω w).alloc (.cells #[.pointer (some ⟨xb,0,none⟩)] 34);have hk2:=hk1.alloc (.cells #[.int .i64 (n:Int)] 3);have HX:=ψ ((Box.made w 34 #[.pointer (some ⟨xb,0,none⟩)]).after_alloc (.cells #[.int .i64 (n:Int)] 3));have hN0:=Box.made (w.alloc (.cells #[.pointer (some ⟨xb,0,none⟩)] 34)) 3 #[.int .i64 (n:Int)];rw[World.size_alloc] at hN0;have HN:=ψ hN0;have HI:=ψ (hI.quiet hk2);have HLL:=ψ hl;have HK:=ψ hk2;have HW:=ψ hk2.size;have HOK:=ψ hok;have y0:=HX.out.cell 0;have y1:=HN.out.cell 0;clear hk1 hk2 hI hok hl hN0
 go_enter Tryz.func82,Tryz.ntmps82
 go_wp2_with fail
 generalize ((w.alloc (.cells #[.pointer (some ⟨xb,0,none⟩)] 34)).alloc (.cells #[.int .i64 (n:Int)] 3))=w2 at HX HN HI HK HW y0 y1 ⊢;refine (ξk1 HI.out (n:Int)).mono ?_;rintro e w3 ⟨rfl,hk3⟩;rw[hdd];obtain ⟨g,c,m1,m2,s,hb,hg,hc,hP⟩:=(HI.out.quiet hk3).at HP.out;obtain ⟨a',c',m1',m2',au,cu,hb',hu,hlk⟩:=(HI.out.quiet hk3).look2 HE0.out hpn2
 obtain ⟨rfl,rfl⟩:m1=m1'∧m2=m2':=by
  have h1:=(hb.cell 1).symm.trans (hb'.cell 1);have h2:=(hb.cell 2).symm.trans (hb'.cell 2);exact ⟨by simpa using h1,by simpa using h2⟩
 have HX3:=ψ (hk3.box HX.out (fun h=>h));have HN3:=ψ (hk3.box HN.out (fun h=>h));have HI3:=ψ (HI.out.quiet hk3);have HB:=ψ hb;have HC:=ψ (And.intro hg (hc 0 _ rfl));have HU:=ψ hu;have HL:=ψ hlk;have HK3:=ψ (HK.out.trans hk3 (fun _ _ h=>h));have HW3:=ψ (Nat.le_trans HW.out hk3.size);clear hb hb' hg hc hP hu hlk hk3 y0 y1 hdd HX HN HI HK HW hpn2;have HX:=HX3;have HN:=HN3;have HI:=HI3;have HK:=HK3;have HW:=HW3
 go_wp2_with fail
 refine ξaE (SM (ξch l p n xb m2 g c w.heap.size cu au)) (fun w1 w2=>Kept ω w1 w2) (fun _ w'=>Kept ω w3 w') (by kernel_rfl) (by kernel_rfl) (Kept.refl ω w3).drew (fun j w1 w2 v h hs=>SM.kept (ξch l p n xb m2 g c w.heap.size cu au) j w1 w2 v h hs) ⟨OpOK.plain rfl ?r0,OpOK.plain rfl ?r1,OpOK.plain rfl ?r2,OpOK.plain rfl ?r3,OpOK.plain rfl ?r4,OpOK.plain rfl ?r5,OpOK.plain rfl ?r6,OpOK.plain rfl ?r7,OpOK.plain rfl ?r8,OpOK.plain rfl ?r9,OpOK.plain rfl ?r10,OpOK.plain rfl ?r11,OpOK.plain rfl ?r12,OpOK.plain rfl ?r13,OpOK.plain rfl ?r14,OpOK.plain rfl ?r15,OpOK.plain rfl ?r16,trivial⟩ ?rend
 case r0=>
  intro ls a wz hC hz hnew hwait hs hd K hK;obtain ⟨t2,t2'⟩:=ξb (hs 2 _ (by kernel_rfl) rfl);obtain ⟨t3,t3'⟩:=ξb (hs 3 _ (by kernel_rfl) rfl);clear hs hd;go_simp;exact hK _ _ (Kept.refl ω wz) hC (fun _=>SM.pl (by kernel_rfl))
 case r1=>
  intro ls a wz hC hz hnew hwait hs hd K hK;obtain ⟨t2,t2'⟩:=ξb (hs 2 _ (by kernel_rfl) rfl);have kx:=(hC.box HX.out (fun h=>h)).cell 0;clear hs hd;go_simp;exact hK _ _ (Kept.refl ω wz) hC (fun _=>SM.pl (by kernel_rfl))
 case r2=>
  intro ls a wz hC hz hnew hwait hs hd K hK;obtain ⟨d1,d1'⟩:=SM.lt (.pointer (some ⟨xb,0,none⟩)) (hd 1 10 (by kernel_rfl) (by kernel_rfl)) (by kernel_rfl);clear hs hd;go_simp;exact hK _ _ (Kept.refl ω wz) hC (fun _=>SM.pl (by kernel_rfl))
 case r3=>
  intro ls a wz hC hz hnew hwait hs hd K hK;obtain ⟨d2,d2'⟩:=SM.lt (.pointer (some ⟨xb,0,none⟩)) (hd 2 11 (by kernel_rfl) (by kernel_rfl)) (by kernel_rfl);clear hs hd;go_simp;exact hK _ _ (Kept.refl ω wz) hC (fun _=>SM.pl (by kernel_rfl))
 case r4=>
  intro ls a wz hC hz hnew hwait hs hd K hK;obtain ⟨d3,d3'⟩:=SM.lt (.pointer (some ⟨xb,2,none⟩)) (hd 3 12 (by kernel_rfl) (by kernel_rfl)) (by kernel_rfl);have km:=(hC.box HB.out (fun h=>h)).cell 2;clear hs hd;go_simp;exact hK _ _ (Kept.refl ω wz) hC (fun _=>SM.pl (by kernel_rfl))
 case r5=>
  intro ls a wz hC hz hnew hwait hs hd K hK;obtain ⟨t2,t2'⟩:=ξb (hs 2 _ (by kernel_rfl) rfl);have kx:=(hC.box HX.out (fun h=>h)).cell 0;clear hs hd;go_simp;exact hK _ _ (Kept.refl ω wz) hC (fun _=>SM.pl (by kernel_rfl))
 case r6=>
  intro ls a wz hC hz hnew hwait hs hd K hK;obtain ⟨d5,d5'⟩:=SM.lt (.pointer (some ⟨xb,0,none⟩)) (hd 5 14 (by kernel_rfl) (by kernel_rfl)) (by kernel_rfl);clear hs hd;go_simp;exact hK _ _ (Kept.refl ω wz) hC (fun _=>SM.pl (by kernel_rfl))
 case r7=>
  intro ls a wz hC hz hnew hwait hs hd K hK;obtain ⟨d6,d6'⟩:=SM.lt (.pointer (some ⟨xb,0,none⟩)) (hd 6 15 (by kernel_rfl) (by kernel_rfl)) (by kernel_rfl);clear hs hd;go_simp;exact hK _ _ (Kept.refl ω wz) hC (fun _=>SM.pl (by kernel_rfl))
 case r8=>
  intro ls a wz hC hz hnew hwait hs hd K hK;obtain ⟨d7,d7'⟩:=SM.lt (.pointer (some ⟨xb,0,none⟩)) (hd 7 16 (by kernel_rfl) (by kernel_rfl)) (by kernel_rfl);have km:=(hC.box HB.out (fun h=>h)).cell 0;clear hs hd;go_simp;exact hK _ _ (Kept.refl ω wz) hC (fun _=>SM.pl (by kernel_rfl))
 case r9=>
  intro ls a wz hC hz hnew hwait hs hd K hK;obtain ⟨t3,t3'⟩:=ξb (hs 3 _ (by kernel_rfl) rfl);have kn:=(hC.box HN.out (fun h=>h)).cell 0;clear hs hd;go_simp;exact hK _ _ (Kept.refl ω wz) hC (fun _=>SM.pl (by kernel_rfl))
 case r10=>
  intro ls a wz hC hz hnew hwait hs hd K hK;obtain ⟨d8,d8'⟩:=SM.lt (.slice (some ⟨g,0,none⟩) l.length c) (hd 8 17 (by kernel_rfl) (by kernel_rfl)) (by kernel_rfl);obtain ⟨d9,d9'⟩:=SM.lt (.int .i64 (n:Int)) (hd 9 18 (by kernel_rfl) (by kernel_rfl)) (by kernel_rfl);clear hs hd;go_simp;exact hK _ _ (Kept.refl ω wz) hC (fun _=>SM.pl (by kernel_rfl))
 case r11=>
  intro ls a wz hC hz hnew hwait hs hd K hK;obtain ⟨d10,d10'⟩:=SM.lt (.pointer (some ⟨g,n*15,none⟩)) (hd 10 19 (by kernel_rfl) (by kernel_rfl)) (by kernel_rfl);clear hs hd;go_simp;exact hK _ _ (Kept.refl ω wz) hC (fun _=>SM.pl (by kernel_rfl))
 case r12=>
  intro ls a wz hC hz hnew hwait hs hd K hK;obtain ⟨d11,d11'⟩:=SM.lt (.pointer (some ⟨g,n*15,none⟩)) (hd 11 20 (by kernel_rfl) (by kernel_rfl)) (by kernel_rfl);have kc:=(hC.cell (p:=⟨g,n*15,none⟩) HC.out.1 (fun h=>h)).trans HC.out.2;clear hs hd;go_simp;exact hK _ _ (Kept.refl ω wz) hC (fun _=>SM.pl (by kernel_rfl))
 case r13=>
  intro ls a wz hC hz hnew hwait hs hd K hK;obtain ⟨d4,d4'⟩:=SM.lt (.map (some m2)) (hd 4 13 (by kernel_rfl) (by kernel_rfl)) (by kernel_rfl);obtain ⟨d12,d12'⟩:=SM.lt (.string p.nm) (hd 12 21 (by kernel_rfl) (by kernel_rfl)) (by kernel_rfl);clear hs hd;refine ξaw (.tmp 13) (.tmp 21) 102 22 rfl rfl d4 d12 (HL.out wz hC) ?_;exact hK _ _ (Kept.refl _ _) hC (fun _=>SM.mk (tbl:=(ξch l p n xb m2 g c w.heap.size cu au)) (k:=.lit (.slice au (evI p.nm (evF ξq 0 l)).length cu)) (by kernel_rfl) rfl)
 case r14=>
  intro ls a wz hC hz hnew hwait hs hd K hK;obtain ⟨d13,d13'⟩:=SM.lt (.slice au (evI p.nm (evF ξq 0 l)).length cu) (hd 13 22 (by kernel_rfl) (by kernel_rfl)) (by kernel_rfl);have hui:=HU.out.kept hC;clear hs hd;go_simp;exact hK _ _ ((Kept.refl ω wz).alloc _) (hC.alloc _) (fun _=>SM.mk (tbl:=(ξch l p n xb m2 g c w.heap.size cu au)) (k:=.lst [(.slice au (evI p.nm (evF ξq 0 l)).length cu,(evI p.nm (evF ξq 0 l)))]) (by kernel_rfl) (ξg7 hui))
 case r15=>
  intro ls a wz hC hz hnew hwait hs hd K hK;obtain ⟨d0,d0'⟩:=SM.lt (.func (.func 124) #[] #[.pointer (some ⟨w.heap.size,0,none⟩),.pointer (some ⟨w.heap.size+1,0,none⟩)]) (hd 0 9 (by kernel_rfl) (by kernel_rfl)) (by kernel_rfl);obtain ⟨v14,d14,hv14⟩:=hd 14 23 (by kernel_rfl) (by kernel_rfl);have hq14:LstS wz v14 ([(.slice au (evI p.nm (evF ξq 0 l)).length cu,(evI p.nm (evF ξq 0 l)))]):=SM.get (k:=.lst ([(.slice au (evI p.nm (evF ξq 0 l)).length cu,(evI p.nm (evF ξq 0 l)))])) (by kernel_rfl) hv14;obtain ⟨ao14,cp14,e14,hc14⟩:=id hq14;subst e14;obtain ⟨-,d14'⟩:=ξb d14;clear hv14;clear hs hd;go_simp;refine (ξdi 124 #[.pointer (some ⟨w.heap.size,0,none⟩),.pointer (some ⟨w.heap.size+1,0,none⟩)] (fun _ _=>by kernel_rfl) (onI fun m=>obsP l m n) [(.slice au (evI p.nm (evF ξq 0 l)).length cu,(evI p.nm (evF ξq 0 l)))] _ wz hq14 (fun u hu z hz=>?wf) (by simp) (by have:=HE.out;simp[ξw];omega) (fun x hx W hk=>?cl)).mono ?_
  case wf=>
   obtain rfl:u=(.slice au (evI p.nm (evF ξq 0 l)).length cu,(evI p.nm (evF ξq 0 l))):=by simpa using hu
   obtain ⟨i,rfl,hi⟩:=ξbz z hz;exact ξd6 (by have:=HLL.out;omega)
  case cl=>
   have hx':x∈(evI p.nm (evF ξq 0 l)):=by simpa [ξw] using hx
   obtain ⟨i,q,rfl,hq,_⟩:=ξb4.1 hx';have hkW:=hC.trans hk (fun _ _ h=>h);have h:=ξln (HI.out.quiet hkW) HOK.out n i p q HP.out hq w.heap.size (w.heap.size+1) (hkW.box HX.out (fun h=>h)) (hkW.box HN.out (fun h=>h))
   simpa [onI] using h
  rintro e wv ⟨⟨v',rfl,ho⟩,hkv⟩
  have ho':wv.ownsInts w.heap.size 3 .i64 v' (obrL l (n:Int)):=by
   have h:=ξd9 ho (b:=w.heap.size) (Nat.le_trans HW.out hC.size);have e1:ξw [(.slice au (evI p.nm (evF ξq 0 l)).length cu,(evI p.nm (evF ξq 0 l)))]=(evI p.nm (evF ξq 0 l)):=by simp[ξw]
   rw[e1,obr_nums l n p HP.out] at h;exact h
  exact hK _ _ hkv (hC.trans hkv (fun _ _ h=>h)) (fun _=>SM.mk (tbl:=(ξch l p n xb m2 g c w.heap.size cu au)) (k:=.own (w.heap.size) ((obrL l (n:Int)))) (by kernel_rfl) ho')
 case r16=>
  intro ls a wz hC hz hnew hwait hs hd K hK;obtain ⟨v15,d15,hv15⟩:=hd 15 24 (by kernel_rfl) (by kernel_rfl);have hq15:wz.ownsInts (w.heap.size) 3 .i64 v15 ((obrL l (n:Int))):=SM.get (k:=.own (w.heap.size) ((obrL l (n:Int)))) (by kernel_rfl) hv15;obtain ⟨ao15,cp15,e15⟩:=ξf hq15.1;subst e15;obtain ⟨-,d15'⟩:=ξb d15;clear hv15;clear hs hd;go_simp;exact hK _ _ (Kept.refl ω wz) hC (fun _=>SM.mk (tbl:=(ξch l p n xb m2 g c w.heap.size cu au)) (k:=.own (w.heap.size) ((obrL l (n:Int)))) (by kernel_rfl) hq15)
 case rend=>
  intro ls wz hall hC;intro u9 h9;intro u10 h10;intro u11 h11;intro u12 h12;intro u13 h13;intro u14 h14;intro u15 h15;intro u16 h16;intro u17 h17;intro u18 h18;intro u19 h19;intro u20 h20;intro u21 h21;intro u22 h22;intro u23 h23;intro u24 h24;intro u4 h4;have hfin:wz.ownsInts w.heap.size 3 .i64 u4 (obrL l (n:Int)):=SM.get (tbl:=(ξch l p n xb m2 g c w.heap.size cu au)) (k:=.own (w.heap.size) ((obrL l (n:Int)))) (by kernel_rfl) h4;clear hall h9 h10 h11 h12 h13 h14 h15 h16 h17 h18 h19 h20 h21 h22 h23 h24 h4;simp only[ξJ];go_simp
  go_wp2_with fail
  go_ret;exact ⟨⟨u4,rfl,hfin⟩,HK.out.trans hC (fun _ _ h=>h)⟩
def lookMq13 (m k:Value):Sem Next:=do pure (.value (← Instr.lookup 102 m k false))
theorem ξgq (ρ :Operand→Value) (dst:Option Tmp) (m x:Operand) (ty:TypeId) (pos:String) (after:Array Edge) (guard:Option (Nat×Bool)):
  execOp ρ { dst,op:=.lookup 102 m x false,type:=ty,pos,after,guard }=lookMq13 (ρ m) (ρ x):=rfl
attribute [local go_sem ↓] ξgq
end
end Go.Proofs.YtnfhpecllidgoaaGreatDoor
