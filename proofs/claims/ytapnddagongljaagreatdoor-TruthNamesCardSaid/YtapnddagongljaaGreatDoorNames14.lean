/-
  The law TruthNames (layer 14). Conditions: as each theorem states.
-/
import Derived.Test.YtapnddagongljaaGreatDoorInvT14
import Derived.Test.YtapnddagongljaaGreatDoorK48
import Derived.Test.YtapnddagongljaaGreatDoorK06
namespace Go.Proofs.YtapnddagongljaaGreatDoor
open Go.RowKit Ver Evr Span Dep Rich
theorem info_row14:(Tryz.prog.info? 61).map (fun i=>(i.zero,i.size,i.bytes))=some (some (.agg #[.int .u8 0,.string ⟨#[]⟩,.int .u8 0,.int .i64 0,.string ⟨#[]⟩,.string ⟨#[]⟩,.slice none 0 0,.string ⟨#[]⟩]),8,112):=by kernel_rfl
theorem mnil14 (w:World):Calls Tryz.prog 45 #[.pointer none] w fun e w'=>e=.returned (.tuple #[.pointer none,.int .i64 2])∧Kept (fun _=>False) w w':=by
 go_enter Tryz.func45,Tryz.ntmps45
 go_wp2_with fail
 go_ret2
 exact ⟨rfl,by first|exact Kept.refl _ _|exact (Kept.refl (fun _=>False) w).alloc _⟩
theorem tnil14 (w:World):Calls Tryz.prog 13 #[.pointer none] w fun e w'=>e=.returned (.tuple #[.pointer none,.int .i64 2])∧Kept (fun _=>False) w w':=by
 go_enter Tryz.func13,Tryz.ntmps13
 go_wp2_with fail
 refine (mnil14 _).mono ?_
 rintro e w2 ⟨rfl,hk⟩
 go_wp2_with fail
 go_ret2
 exact ⟨rfl,hk⟩
abbrev xr14:R:=.mk 1 ⟨[120],0,zeroD⟩ []
abbrev xv14:Value:=.agg #[.int .u8 1,.string ⟨#[120]⟩,.int .u8 0,.int .i64 0,.string ⟨#[]⟩,.string ⟨#[]⟩,.slice none 0 0]
abbrev yr14:R:=.mk 1 ⟨[121],0,zeroD⟩ []
abbrev yv14:Value:=.agg #[.int .u8 1,.string ⟨#[121]⟩,.int .u8 0,.int .i64 0,.string ⟨#[]⟩,.string ⟨#[]⟩,.slice none 0 0]
abbrev zr14:R:=.mk 1 ⟨[122],0,zeroD⟩ []
abbrev zv14:Value:=.agg #[.int .u8 1,.string ⟨#[122]⟩,.int .u8 0,.int .i64 0,.string ⟨#[]⟩,.string ⟨#[]⟩,.slice none 0 0]
abbrev nr14:R:=.mk 1 ⟨[110,111,110,101],0,zeroD⟩ []
abbrev nv14:Value:=.agg #[.int .u8 1,.string ⟨#[110,111,110,101]⟩,.int .u8 0,.int .i64 0,.string ⟨#[]⟩,.string ⟨#[]⟩,.slice none 0 0]
def rw14:List (R×Value):= [((.mk 2 zD [xr14,yr14]),.string ⟨#[48,48,48,49]⟩),((.mk 3 zD [xr14,yr14]),.string ⟨#[48,49,49,49]⟩),((.mk 4 zD [xr14,yr14]),.string ⟨#[49,49,48,49]⟩),((.mk 5 zD [xr14,yr14]),.string ⟨#[48,49,48,48]⟩),((.mk 6 zD [xr14,yr14]),.string ⟨#[48,48,48,48]⟩),((.mk 7 zD [xr14,yr14]),.string ⟨#[48,49,48,49]⟩),((.mk 7 zD [xr14,xr14]),.string ⟨#[48,48,48,48]⟩),((.mk 4 zD [xr14,yr14,yr14]),.string ⟨#[48,48,48,49]⟩),((.mk 4 zD [yr14,yr14,xr14]),.string ⟨#[48,49,49,49]⟩),((.mk 5 zD [xr14,yr14,xr14]),.string ⟨#[48,49,48,49]⟩),((.mk 5 zD [yr14,yr14,xr14]),.string ⟨#[48,48,48,49]⟩),((.mk 6 zD [xr14,xr14,xr14]),.string ⟨#[48,49,48,49]⟩),((.mk 6 zD [(.mk 3 zD [xr14,yr14]),zr14]),.string ⟨#[48,48,49,49]⟩),((.mk 4 zD [xr14,(.mk 2 zD [xr14,yr14])]),.string ⟨#[49,49,49,49]⟩),(nr14,.string ⟨#[48,48,48,48]⟩),((.mk 5 zD [xr14,nr14]),.string ⟨#[48,49,48,49]⟩),((.mk 0 zD []),.string ⟨#[48,48,48,48]⟩),((.mk 2 zD [xr14]),.string ⟨#[48,48,48,48]⟩),((.mk 2 zD []),.string ⟨#[48,48,48,48]⟩),((.mk 4 zD [xr14,nr14,xr14,xr14]),.string ⟨#[48,48,48,48]⟩),((.mk 9 zD []),.string ⟨#[48,48,48,48]⟩)]
def rb14:List (R×List UInt8):= [((.mk 2 zD [xr14,yr14]),[48,48,48,49]),((.mk 3 zD [xr14,yr14]),[48,49,49,49]),((.mk 4 zD [xr14,yr14]),[49,49,48,49]),((.mk 5 zD [xr14,yr14]),[48,49,48,48]),((.mk 6 zD [xr14,yr14]),[48,48,48,48]),((.mk 7 zD [xr14,yr14]),[48,49,48,49]),((.mk 7 zD [xr14,xr14]),[48,48,48,48]),((.mk 4 zD [xr14,yr14,yr14]),[48,48,48,49]),((.mk 4 zD [yr14,yr14,xr14]),[48,49,49,49]),((.mk 5 zD [xr14,yr14,xr14]),[48,49,48,49]),((.mk 5 zD [yr14,yr14,xr14]),[48,48,48,49]),((.mk 6 zD [xr14,xr14,xr14]),[48,49,48,49]),((.mk 6 zD [(.mk 3 zD [xr14,yr14]),zr14]),[48,48,49,49]),((.mk 4 zD [xr14,(.mk 2 zD [xr14,yr14])]),[49,49,49,49]),(nr14,[48,48,48,48]),((.mk 5 zD [xr14,nr14]),[48,49,48,49]),((.mk 0 zD []),[48,48,48,48]),((.mk 2 zD [xr14]),[48,48,48,48]),((.mk 2 zD []),[48,48,48,48]),((.mk 4 zD [xr14,nr14,xr14,xr14]),[48,48,48,48]),((.mk 9 zD []),[48,48,48,48])]
def st14 (j:Nat):List Int:=([[],[0],[1],[1,0]]:List (List Int)).getD j []
theorem rb14_ok:(rb14.all fun p=>decide (p.2.length=4)&&(List.range 4).all fun j=>satT PF14 (wT p.1) (setN 2 (st14 j))==decide (p.2.getD j 0=49))=true:=by decide +kernel
theorem rw14_of:rw14=rb14.map fun p=>(p.1,.string ⟨p.2.toArray⟩):=rfl
theorem rb14_in:∀ p∈rb14,InX p.1:=by
 intro p hp
 simp only[rb14,List.mem_cons,List.not_mem_nil,or_false] at hp
 rcases hp with rfl|rfl|rfl|rfl|rfl|rfl|rfl|rfl|rfl|rfl|rfl|rfl|rfl|rfl|rfl|rfl|rfl|rfl|rfl|rfl|rfl<;>exact ⟨by simp[smallX,smallL,zD,zeroD],by simp[fitsX,fitsL,zD,zeroD],by decide +kernel⟩
theorem rw14_at {x:R} {q:Value} (h:(x,q)∈rw14):InX x∧∃ b0 b1 b2 b3:UInt8,q=.string ⟨#[b0,b1,b2,b3]⟩∧satT PF14 (wT x) (setN 2 [])=decide (b0=49)∧satT PF14 (wT x) (setN 2 [0])=decide (b1=49)∧satT PF14 (wT x) (setN 2 [1])=decide (b2=49)∧satT PF14 (wT x) (setN 2 [1,0])=decide (b3=49):=by
 rw[rw14_of] at h
 obtain ⟨⟨y,l⟩,hp,e⟩:=List.mem_map.1 h
 injection e with e1 e2
 subst e1 e2
 have h1:=List.all_eq_true.1 rb14_ok _ hp
 rw[Bool.and_eq_true,decide_eq_true_iff] at h1
 obtain ⟨h2,h3⟩:=h1
 refine ⟨rb14_in _ hp,?_⟩
 have h4:=fun j hj=>beq_iff_eq.1 (List.all_eq_true.1 h3 j (List.mem_range.2 hj))
 match l,h2 with
 | [b0,b1,b2,b3],_=>exact ⟨b0,b1,b2,b3,rfl,h4 0 (by decide),h4 1 (by decide),h4 2 (by decide),h4 3 (by decide)⟩
theorem hpl14 {P:Act→World→Prop} {a:Act} {w0 wz:World} {tbl:List KdT} {i:Nat} {d:Option Nat} {b:Bool} {v:Value} (hK:∀ v w',Kept (fun _=>False) wz w'→Kept (fun _=>False) w0 w'→(b=true→ST tbl i w' v)→P (a.put d v) w') (hC:Kept (fun _=>False) w0 wz) (h:tbl.getD i (.lit undef)=.lit v):P (a.put d v) wz:=
 hK _ _ (Kept.refl _ _) hC (fun _=>ST.pl h)
theorem byte14 (b:UInt8):((b.toNat:Int)==49)=decide (b=49):=by
 rw[Bool.eq_iff_iff,beq_iff_eq,decide_eq_true_iff]
 constructor
 · intro h
   exact UInt8.toNat_inj.1 (by have h2:(49:UInt8).toNat=49:=rfl;omega)
 · rintro rfl
   rfl
theorem sat_zR14 (pf:D→Nat) (S:Nat):satT pf zR S=false:=by
 unfold zR
 rw[satT_mk]
 rfl
theorem ra14 (w:World) (l:List UInt8):RichS w (.mk 1 ⟨l,0,zeroD⟩ []) (.agg #[.int .u8 1,.string ⟨l.toArray⟩,.int .u8 0,.int .i64 0,.string ⟨#[]⟩,.string ⟨#[]⟩,.slice none 0 0]):=richS_nil (by decide) (show 0<256 by decide)
theorem ina14 (l:List UInt8) (h:l.length≤100):InX (.mk 1 ⟨l,0,zeroD⟩ []):=by
 refine ⟨?_,?_,by rw[count,counts];decide⟩
 · rw[smallX];exact ⟨by show l.length+0≤500;omega,show 0≤500 by decide,by decide,by rw[smallL];trivial⟩
 · rw[fitsX];exact ⟨by show l.length<140737488355328;omega,show 0<140737488355328 by decide,show 0<140737488355328 by decide,by decide,by rw[fitsL];trivial⟩
theorem wout14_step {w:World} {pv:Value} (hA:TruA w pv 2 PF14 wT) {x:R} {v sv:Value} {zs:List Int} {n:Int} {b:Bool} (hr:RichS w x v) (hx:InX x) (hs:IntsS w sv zs) (hl:zs.length<1000000) (hb:satT PF14 (wT x) (minusN (setN 2 zs) (setN 2 [n]))=b):Calls Tryz.prog 18 #[pv,sv,.int .i64 n,v] w (fun e w'=>e=.returned (.bool b)∧Kept (fun _=>False) w w'):=hb ▸ without14t_walk hA n hr hx hs hl
theorem nil_intsN (w:World):IntsS w (.slice none 0 0) []:=⟨none,0,rfl,fun i r hr=>by simp at hr⟩
structure Nm14 (w:World) (tb g s s3 s2 s1:Nat):Prop where
 ta:TruA w (.pointer (some ⟨tb,0,none⟩)) 2 PF14 wT
 x:Box w g 31 #[.int .u8 1,.string ⟨#[120]⟩,.int .u8 0,.int .i64 0,.string ⟨#[]⟩,.string ⟨#[]⟩,.slice none 0 0]
 y:Box w (g+1) 31 #[.int .u8 1,.string ⟨#[121]⟩,.int .u8 0,.int .i64 0,.string ⟨#[]⟩,.string ⟨#[]⟩,.slice none 0 0]
 st:Box w s 24 #[.slice none 0 0,.slice (some ⟨s3,0,none⟩) 1 1,.slice (some ⟨s2,0,none⟩) 1 1,.slice (some ⟨s1,0,none⟩) 2 2]
 i1:IntsS w (.slice (some ⟨s3,0,none⟩) 1 1) [0]
 i2:IntsS w (.slice (some ⟨s2,0,none⟩) 1 1) [1]
 i3:IntsS w (.slice (some ⟨s1,0,none⟩) 2 2) [1,0]
theorem Nm14.kept {w w':World} {tb g s s3 s2 s1:Nat} (h:Nm14 w tb g s s3 s2 s1) (hk:Kept (fun _=>False) w w'):Nm14 w' tb g s s3 s2 s1:=⟨h.ta.kept hk,hk.box h.x (fun h=>h),hk.box h.y (fun h=>h),hk.box h.st (fun h=>h),h.i1.kept hk,h.i2.kept hk,h.i3.kept hk⟩
theorem made_st14 (w:World):∃ w4,w4=((((w.alloc (.cells #[.int .i64 0] 3)).alloc (.cells #[.int .i64 1] 3)).alloc (.cells #[.int .i64 1,.int .i64 0] 3)).alloc (.cells #[.slice none 0 0,.slice (some ⟨w.heap.size,0,none⟩) 1 1,.slice (some ⟨w.heap.size+1,0,none⟩) 1 1,.slice (some ⟨w.heap.size+1+1,0,none⟩) 2 2] 24))∧Box w4 (w.heap.size+1+1+1) 24 #[.slice none 0 0,.slice (some ⟨w.heap.size,0,none⟩) 1 1,.slice (some ⟨w.heap.size+1,0,none⟩) 1 1,.slice (some ⟨w.heap.size+1+1,0,none⟩) 2 2]∧IntsS w4 (.slice (some ⟨w.heap.size,0,none⟩) 1 1) [0]∧IntsS w4 (.slice (some ⟨w.heap.size+1,0,none⟩) 1 1) [1]∧IntsS w4 (.slice (some ⟨w.heap.size+1+1,0,none⟩) 2 2) [1,0]∧Kept (fun _=>False) w w4:=by
 obtain ⟨w1,e,b0,k1,z1⟩:=step14 w rfl 3 #[.int .i64 0]
 rw[← e]
 clear e
 obtain ⟨w2,e,b1,k2,z2⟩:=step14 w1 z1 3 #[.int .i64 1]
 rw[← e]
 clear e
 obtain ⟨w3,e,b2,k3,z3⟩:=step14 w2 z2 3 #[.int .i64 1,.int .i64 0]
 rw[← e]
 clear e
 obtain ⟨w4,e,b3,k4,z4⟩:=step14 w3 z3 24 #[.slice none 0 0,.slice (some ⟨w.heap.size,0,none⟩) 1 1,.slice (some ⟨w.heap.size+1,0,none⟩) 1 1,.slice (some ⟨w.heap.size+1+1,0,none⟩) 2 2]
 rw[← e]
 clear e
 have hT:∀ {a b c:World},Kept (fun _=>False) a b→Kept (fun _=>False) b c→Kept (fun _=>False) a c:=fun h1 h2=>h1.trans h2 (fun _ _ h=>h)
 exact ⟨w4,rfl,b3,(ints_lit14 [0] b0 rfl rfl).kept (hT k2 (hT k3 k4)),(ints_lit14 [1] b1 rfl rfl).kept (hT k3 k4),(ints_lit14 [1,0] b2 rfl rfl).kept k4,hT k1 (hT k2 (hT k3 k4))⟩
def tb10n14:List KdT:= [.lit (xv14),.lit (yv14),.slr [xr14,yr14],.rich (.mk 2 zD [xr14,yr14]),.pair (.mk 2 zD [xr14,yr14]) (.string ⟨#[48,48,48,49]⟩),.lit (xv14),.lit (yv14),.slr [xr14,yr14],.rich (.mk 3 zD [xr14,yr14]),.pair (.mk 3 zD [xr14,yr14]) (.string ⟨#[48,49,49,49]⟩),.lit (xv14),.lit (yv14),.slr [xr14,yr14],.rich (.mk 4 zD [xr14,yr14]),.pair (.mk 4 zD [xr14,yr14]) (.string ⟨#[49,49,48,49]⟩),.lit (xv14),.lit (yv14),.slr [xr14,yr14],.rich (.mk 5 zD [xr14,yr14]),.pair (.mk 5 zD [xr14,yr14]) (.string ⟨#[48,49,48,48]⟩),.lit (xv14),.lit (yv14),.slr [xr14,yr14],.rich (.mk 6 zD [xr14,yr14]),.pair (.mk 6 zD [xr14,yr14]) (.string ⟨#[48,48,48,48]⟩),.lit (xv14),.lit (yv14),.slr [xr14,yr14],.rich (.mk 7 zD [xr14,yr14]),.pair (.mk 7 zD [xr14,yr14]) (.string ⟨#[48,49,48,49]⟩),.lit (xv14),.lit (xv14),.slr [xr14,xr14],.rich (.mk 7 zD [xr14,xr14]),.pair (.mk 7 zD [xr14,xr14]) (.string ⟨#[48,48,48,48]⟩),.lit (xv14),.lit (yv14),.lit (yv14),.slr [xr14,yr14,yr14],.rich (.mk 4 zD [xr14,yr14,yr14]),.pair (.mk 4 zD [xr14,yr14,yr14]) (.string ⟨#[48,48,48,49]⟩),.lit (yv14),.lit (yv14),.lit (xv14),.slr [yr14,yr14,xr14],.rich (.mk 4 zD [yr14,yr14,xr14]),.pair (.mk 4 zD [yr14,yr14,xr14]) (.string ⟨#[48,49,49,49]⟩),.lit (xv14),.lit (yv14),.lit (xv14),.slr [xr14,yr14,xr14],.rich (.mk 5 zD [xr14,yr14,xr14]),.pair (.mk 5 zD [xr14,yr14,xr14]) (.string ⟨#[48,49,48,49]⟩),.lit (yv14),.lit (yv14),.lit (xv14),.slr [yr14,yr14,xr14],.rich (.mk 5 zD [yr14,yr14,xr14]),.pair (.mk 5 zD [yr14,yr14,xr14]) (.string ⟨#[48,48,48,49]⟩),.lit (xv14),.lit (xv14),.lit (xv14),.slr [xr14,xr14,xr14],.rich (.mk 6 zD [xr14,xr14,xr14]),.pair (.mk 6 zD [xr14,xr14,xr14]) (.string ⟨#[48,49,48,49]⟩),.lit (xv14),.lit (yv14),.slr [xr14,yr14],.rich (.mk 3 zD [xr14,yr14]),.lit (zv14),.slr [(.mk 3 zD [xr14,yr14]),zr14],.rich (.mk 6 zD [(.mk 3 zD [xr14,yr14]),zr14]),.pair (.mk 6 zD [(.mk 3 zD [xr14,yr14]),zr14]) (.string ⟨#[48,48,49,49]⟩),.lit (xv14),.lit (xv14),.lit (yv14),.slr [xr14,yr14],.rich (.mk 2 zD [xr14,yr14]),.slr [xr14,(.mk 2 zD [xr14,yr14])],.rich (.mk 4 zD [xr14,(.mk 2 zD [xr14,yr14])]),.pair (.mk 4 zD [xr14,(.mk 2 zD [xr14,yr14])]) (.string ⟨#[49,49,49,49]⟩),.lit (nv14),.pair nr14 (.string ⟨#[48,48,48,48]⟩),.lit (xv14),.lit (nv14),.slr [xr14,nr14],.rich (.mk 5 zD [xr14,nr14]),.pair (.mk 5 zD [xr14,nr14]) (.string ⟨#[48,49,48,49]⟩),.lit (.agg #[.int .u8 0,.string ⟨#[]⟩,.int .u8 0,.int .i64 0,.string ⟨#[]⟩,.string ⟨#[]⟩,.slice none 0 0]),.pair (.mk 0 zD []) (.string ⟨#[48,48,48,48]⟩),.lit (xv14),.slr [xr14],.rich (.mk 2 zD [xr14]),.pair (.mk 2 zD [xr14]) (.string ⟨#[48,48,48,48]⟩),.lit (.agg #[.int .u8 2,.string ⟨#[]⟩,.int .u8 0,.int .i64 0,.string ⟨#[]⟩,.string ⟨#[]⟩,.slice none 0 0]),.pair (.mk 2 zD []) (.string ⟨#[48,48,48,48]⟩),.lit (xv14),.lit (nv14),.lit (xv14),.lit (xv14),.slr [xr14,nr14,xr14,xr14],.rich (.mk 4 zD [xr14,nr14,xr14,xr14]),.pair (.mk 4 zD [xr14,nr14,xr14,xr14]) (.string ⟨#[48,48,48,48]⟩),.lit (.agg #[.int .u8 9,.string ⟨#[]⟩,.int .u8 0,.int .i64 0,.string ⟨#[]⟩,.string ⟨#[]⟩,.slice none 0 0]),.pair (.mk 9 zD []) (.string ⟨#[48,48,48,48]⟩),.pairs rw14,.lit (.int .i64 21),.lit (.int .i64 0)]
set_option maxRecDepth 100000 in
set_option maxHeartbeats 16000000 in
theorem truthnames_walk (w:World) (hW:Row14 w):Calls Tryz.prog 4 #[] w fun e w'=>e=.returned (.bool true)∧Kept (fun _=>False) w w':=by
 have HW:=Lib.hid hW
 have HZ:=Lib.hid hW.tz
 clear hW
 go_enter Tryz.func4,Tryz.ntmps4
 go_wp2_with fail
 refine (tnil14 _).mono ?_
 rintro e w1 ⟨rfl,hk⟩
 have HK:=Lib.hid hk
 clear hk
 go_wp2_with fail
 have HI:=Lib.hid (ints_one14 w1 0)
 have HK:=Lib.hid (HK.out.trans ((Kept.refl (fun _=>False) w1).alloc (.cells #[.int .i64 0] 3)) (fun _ _ h=>h))
 refine (atom14_walk _ _).mono ?_
 rintro e w2 ⟨rfl,hk⟩
 have HK:=Lib.hid (HK.out.trans hk (fun _ _ h=>h))
 have HI:=Lib.hid (HI.out.kept hk)
 clear hk
 go_wp2_with fail
 refine (satisfies14_walk (nil_asked14 (HZ.out.kept HK.out (fun h=>h))) (ra14 _ [97]) (ina14 _ (by decide)) HI.out (by decide)).mono ?_
 rintro e w3 ⟨rfl,hk⟩
 rw[sat_zR14]
 have HK:=Lib.hid (HK.out.trans hk (fun _ _ h=>h))
 clear hk HI
 go_wp2_with fail
 refine (atom14_walk _ _).mono ?_
 rintro e w4 ⟨rfl,hk⟩
 have HK:=Lib.hid (HK.out.trans hk (fun _ _ h=>h))
 clear hk
 go_wp2_with fail
 refine (without14t_walk (nil_asked14 (HZ.out.kept HK.out (fun h=>h))) 0 (ra14 _ [97]) (ina14 _ (by decide)) ⟨none,0,rfl,fun i r hr=>by simp at hr⟩ (zs:= []) (by decide)).mono ?_
 rintro e w5 ⟨rfl,hk⟩
 rw[sat_zR14]
 have HK:=Lib.hid (HK.out.trans hk (fun _ _ h=>h))
 clear hk
 go_wp2_with fail
 refine (atom14_walk _ _).mono ?_
 rintro e w6 ⟨rfl,hk⟩
 have HK:=Lib.hid (HK.out.trans hk (fun _ _ h=>h))
 clear hk
 go_wp2_with fail
 refine (alone14_walk (nil_asked14 (HZ.out.kept HK.out (fun h=>h))) 0 (ra14 _ [97]) (ina14 _ (by decide))).mono ?_
 rintro e w7 ⟨rfl,hk⟩
 rw[sat_zR14,Bool.and_false]
 have HK:=Lib.hid (HK.out.trans hk (fun _ _ h=>h))
 clear hk
 go_wp2_with fail
 have HI:=Lib.hid (ints_one14 w7 0)
 have HK:=Lib.hid (HK.out.trans ((Kept.refl (fun _=>False) w7).alloc (.cells #[.int .i64 0] 3)) (fun _ _ h=>h))
 refine (atom14_walk _ _).mono ?_
 rintro e w8 ⟨rfl,hk⟩
 have HK:=Lib.hid (HK.out.trans hk (fun _ _ h=>h))
 have HI:=Lib.hid (HI.out.kept hk)
 clear hk
 go_wp2_with fail
 refine (who14_walk (nil_asked14 (HZ.out.kept HK.out (fun h=>h))) (ra14 _ [97]) (ina14 _ (by decide)) HI.out (by decide)).mono ?_
 rintro e w9 ⟨⟨u,rfl,hu⟩,hk⟩
 have hu2:=ints_of_own hu
 rw[show ((memN (setN 0 [0])).filter fun n=>satT (fun _=>0) zR (2 ^ n)).map (fun n:Nat=>(n:Int))= [] from by simp only[sat_zR14];simp] at hu2
 obtain ⟨au,cu,rfl,-⟩:=hu2
 have HK:=Lib.hid (HK.out.trans hk (fun _ _ h=>h))
 clear hk hu HI
 go_wp2_with fail
 refine (two14_walk w9 (HW.out.kept HK.out)).mono ?_
 rintro e w10 ⟨⟨tb,rfl,hta⟩,hk⟩
 have HTA:=Lib.hid (show TruA w10 (.pointer (some ⟨tb,0,none⟩)) 2 PF14 wT from hta)
 have HK:=Lib.hid (HK.out.trans hk (fun _ _ h=>h))
 clear hk hta
 go_wp2_with fail
 obtain ⟨w11,e,m1,m2,m3,m4,hk⟩:=made_st14 w10
 rw[← e]
 clear e
 have HTA:=Lib.hid (HTA.out.kept hk)
 have HK:=Lib.hid (HK.out.trans hk (fun _ _ h=>h))
 clear hk
 obtain ⟨s,hs⟩:∃ s,s=w10.heap.size+1+1+1:=⟨_,rfl⟩
 have z1:w10.heap.size=s - 3:=by omega
 have z2:w10.heap.size+1=s - 2:=by omega
 have z3:w10.heap.size+1+1=s - 1:=by omega
 rw[← hs,z3,z2,z1] at m1
 rw[z1] at m2
 rw[z2] at m3
 rw[z3] at m4
 rw[← hs,z3,z2,z1]
 have HM1:=Lib.hid m1;have HM2:=Lib.hid m2;have HM3:=Lib.hid m3;have HM4:=Lib.hid m4
 clear m1 m2 m3 m4 hs z1 z2 z3
 generalize s - 3=s3 at HM1 HM2 ⊢
 generalize s - 2=s2 at HM1 HM3 ⊢
 generalize s - 1=s1 at HM1 HM4 ⊢
 refine (atom14_walk _ _).mono ?_
 rintro e w12 ⟨rfl,hk2⟩
 go_wp2_with fail
 refine (atom14_walk _ _).mono ?_
 rintro e w13 ⟨rfl,hk3⟩
 have hk:=hk2.trans hk3 (fun _ _ h=>h)
 have HTA:=Lib.hid (HTA.out.kept hk)
 have HK:=Lib.hid (HK.out.trans hk (fun _ _ h=>h))
 have HM1:=Lib.hid (hk.box HM1.out (fun h=>h));have HM2:=Lib.hid (HM2.out.kept hk);have HM3:=Lib.hid (HM3.out.kept hk);have HM4:=Lib.hid (HM4.out.kept hk)
 clear hk hk2 hk3
 go_wp2_with fail
 have hb1:=(Box.made w13 31 #[.int .u8 1,.string ⟨#[120]⟩,.int .u8 0,.int .i64 0,.string ⟨#[]⟩,.string ⟨#[]⟩,.slice none 0 0]).after_alloc (.cells #[.int .u8 1,.string ⟨#[121]⟩,.int .u8 0,.int .i64 0,.string ⟨#[]⟩,.string ⟨#[]⟩,.slice none 0 0] 31)
 have hb2:=Box.made (w13.alloc (.cells #[.int .u8 1,.string ⟨#[120]⟩,.int .u8 0,.int .i64 0,.string ⟨#[]⟩,.string ⟨#[]⟩,.slice none 0 0] 31)) 31 #[.int .u8 1,.string ⟨#[121]⟩,.int .u8 0,.int .i64 0,.string ⟨#[]⟩,.string ⟨#[]⟩,.slice none 0 0]
 rw[World.size_alloc] at hb2
 have hk:=((Kept.refl (fun _=>False) w13).alloc (.cells #[.int .u8 1,.string ⟨#[120]⟩,.int .u8 0,.int .i64 0,.string ⟨#[]⟩,.string ⟨#[]⟩,.slice none 0 0] 31)).alloc (.cells #[.int .u8 1,.string ⟨#[121]⟩,.int .u8 0,.int .i64 0,.string ⟨#[]⟩,.string ⟨#[]⟩,.slice none 0 0] 31)
 have HN:=Lib.hid (Nm14.mk (HTA.out.kept hk) hb1 hb2 (hk.box HM1.out (fun h=>h)) (HM2.out.kept hk) (HM3.out.kept hk) (HM4.out.kept hk))
 have HK:=Lib.hid (HK.out.trans hk (fun _ _ h=>h))
 clear hk hb1 hb2 HM1 HM2 HM3 HM4 HTA
 generalize ((w13.alloc (.cells #[.int .u8 1,.string ⟨#[120]⟩,.int .u8 0,.int .i64 0,.string ⟨#[]⟩,.string ⟨#[]⟩,.slice none 0 0] 31)).alloc (.cells #[.int .u8 1,.string ⟨#[121]⟩,.int .u8 0,.int .i64 0,.string ⟨#[]⟩,.string ⟨#[]⟩,.slice none 0 0] 31))=w6 at HN HK ⊢
 generalize w13.heap.size=gx at HN ⊢
 refine wp_region_inv (ST tb10n14) (fun w1 w2=>Kept (fun _=>False) w1 w2) (fun _ w'=>Kept (fun _=>False) w6 w') (by kernel_rfl) (by kernel_rfl) (Kept.refl (fun _=>False) w6).drew (fun j w1 w2 v h hs=>ST.kept tb10n14 j w1 w2 v h hs) ⟨OpOK.plain rfl ?r0,OpOK.plain rfl ?r1,OpOK.plain rfl ?r2,OpOK.plain rfl ?r3,OpOK.plain rfl ?r4,OpOK.plain rfl ?r5,OpOK.plain rfl ?r6,OpOK.plain rfl ?r7,OpOK.plain rfl ?r8,OpOK.plain rfl ?r9,OpOK.plain rfl ?r10,OpOK.plain rfl ?r11,OpOK.plain rfl ?r12,OpOK.plain rfl ?r13,OpOK.plain rfl ?r14,OpOK.plain rfl ?r15,OpOK.plain rfl ?r16,OpOK.plain rfl ?r17,OpOK.plain rfl ?r18,OpOK.plain rfl ?r19,OpOK.plain rfl ?r20,OpOK.plain rfl ?r21,OpOK.plain rfl ?r22,OpOK.plain rfl ?r23,OpOK.plain rfl ?r24,OpOK.plain rfl ?r25,OpOK.plain rfl ?r26,OpOK.plain rfl ?r27,OpOK.plain rfl ?r28,OpOK.plain rfl ?r29,OpOK.plain rfl ?r30,OpOK.plain rfl ?r31,OpOK.plain rfl ?r32,OpOK.plain rfl ?r33,OpOK.plain rfl ?r34,OpOK.plain rfl ?r35,OpOK.plain rfl ?r36,OpOK.plain rfl ?r37,OpOK.plain rfl ?r38,OpOK.plain rfl ?r39,OpOK.plain rfl ?r40,OpOK.plain rfl ?r41,OpOK.plain rfl ?r42,OpOK.plain rfl ?r43,OpOK.plain rfl ?r44,OpOK.plain rfl ?r45,OpOK.plain rfl ?r46,OpOK.plain rfl ?r47,OpOK.plain rfl ?r48,OpOK.plain rfl ?r49,OpOK.plain rfl ?r50,OpOK.plain rfl ?r51,OpOK.plain rfl ?r52,OpOK.plain rfl ?r53,OpOK.plain rfl ?r54,OpOK.plain rfl ?r55,OpOK.plain rfl ?r56,OpOK.plain rfl ?r57,OpOK.plain rfl ?r58,OpOK.plain rfl ?r59,OpOK.plain rfl ?r60,OpOK.plain rfl ?r61,OpOK.plain rfl ?r62,OpOK.plain rfl ?r63,OpOK.plain rfl ?r64,OpOK.plain rfl ?r65,OpOK.plain rfl ?r66,OpOK.plain rfl ?r67,OpOK.plain rfl ?r68,OpOK.plain rfl ?r69,OpOK.plain rfl ?r70,OpOK.plain rfl ?r71,OpOK.plain rfl ?r72,OpOK.plain rfl ?r73,OpOK.plain rfl ?r74,OpOK.plain rfl ?r75,OpOK.plain rfl ?r76,OpOK.plain rfl ?r77,OpOK.plain rfl ?r78,OpOK.plain rfl ?r79,OpOK.plain rfl ?r80,OpOK.plain rfl ?r81,OpOK.plain rfl ?r82,OpOK.plain rfl ?r83,OpOK.plain rfl ?r84,OpOK.plain rfl ?r85,OpOK.plain rfl ?r86,OpOK.plain rfl ?r87,OpOK.plain rfl ?r88,OpOK.plain rfl ?r89,OpOK.plain rfl ?r90,OpOK.plain rfl ?r91,OpOK.plain rfl ?r92,OpOK.plain rfl ?r93,OpOK.plain rfl ?r94,OpOK.plain rfl ?r95,OpOK.plain rfl ?r96,OpOK.plain rfl ?r97,OpOK.plain rfl ?r98,OpOK.plain rfl ?r99,OpOK.plain rfl ?r100,OpOK.plain rfl ?r101,OpOK.plain rfl ?r102,OpOK.plain rfl ?r103,OpOK.plain rfl ?r104,OpOK.plain rfl ?r105,OpOK.plain rfl ?r106,OpOK.plain rfl ?r107,trivial⟩ ?rend
 case r0=>
  intro _ a wz hC _ _ _ hs hd K hK
  obtain ⟨t7,t7'⟩:=tmp_both (hs 7 _ (by kernel_rfl) rfl)
  obtain ⟨r0,r1,r2,r3,r4,r5,r6⟩:=box7_14 (hC.box HN.out.x (fun h=>h))
  clear hs hd
  go_simp
  exact hpl14 hK hC (by kernel_rfl)
 case r1=>
  intro _ a wz hC _ _ _ hs hd K hK
  obtain ⟨t8,t8'⟩:=tmp_both (hs 8 _ (by kernel_rfl) rfl)
  obtain ⟨r0,r1,r2,r3,r4,r5,r6⟩:=box7_14 (hC.box HN.out.y (fun h=>h))
  clear hs hd
  go_simp
  exact hpl14 hK hC (by kernel_rfl)
 case r2=>
  intro _ a wz hC _ _ _ hs hd K hK
  obtain ⟨d0,d0'⟩:=ST.lt (xv14) (hd 0 54 (by kernel_rfl) (by kernel_rfl)) (by kernel_rfl)
  obtain ⟨d1,d1'⟩:=ST.lt (yv14) (hd 1 55 (by kernel_rfl) (by kernel_rfl)) (by kernel_rfl)
  clear hs hd
  go_simp
  exact hK _ _ ((Kept.refl (fun _=>False) wz).alloc _) (hC.alloc _) (fun _=>ST.mk (k:=.slr [xr14,yr14]) (by kernel_rfl) (sl_new [(xr14,none,0),(yr14,none,0)] rfl (by
   intro p hp
   simp only[List.mem_cons,List.not_mem_nil,or_false] at hp
   rcases hp with rfl|rfl
   all_goals first|exact richS_nil (by decide) (by decide)|assumption)))
 case r3=>
  intro _ a wz hC _ _ _ hs hd K hK
  obtain ⟨v2,d2,hv2⟩:=hd 2 56 (by kernel_rfl) (by kernel_rfl)
  have hq2:SlR wz [xr14,yr14] v2:=ST.get (k:=.slr [xr14,yr14]) (by kernel_rfl) hv2
  obtain ⟨g2,ps2,e2,-,-,-⟩:=id hq2
  subst e2
  obtain ⟨-,d2'⟩:=tmp_both d2
  clear hv2
  clear hs hd
  go_simp
  refine (of14_walk 2 _ _ _ wz).mono ?_
  rintro e wv ⟨rfl,hkv⟩
  exact hK _ _ hkv (hC.trans hkv (fun _ _ h=>h)) (fun _=>ST.mk (k:=.rich (.mk 2 zD [xr14,yr14])) (by kernel_rfl) (RichS.kept hkv _ _ (hq2.rich (k:=2) (d:=zD) (by decide) (by decide))))
 case r4=>
  intro _ a wz hC _ _ _ hs hd K hK
  obtain ⟨v3,d3,hv3⟩:=hd 3 57 (by kernel_rfl) (by kernel_rfl)
  have hq3:RichS wz (.mk 2 zD [xr14,yr14]) v3:=ST.get (k:=.rich (.mk 2 zD [xr14,yr14])) (by kernel_rfl) hv3
  obtain ⟨ao3,cp3,e3⟩:=rich_form hq3
  subst e3
  obtain ⟨-,d3'⟩:=tmp_both d3
  clear hv3
  clear hs hd
  go_simp
  exact hK _ _ (Kept.refl (fun _=>False) wz) hC (fun _=>ST.mk (k:=.pair (.mk 2 zD [xr14,yr14]) (.string ⟨#[48,48,48,49]⟩)) (by kernel_rfl) ⟨ao3,cp3,rfl,hq3⟩)
 case r5=>
  intro _ a wz hC _ _ _ hs hd K hK
  obtain ⟨t7,t7'⟩:=tmp_both (hs 7 _ (by kernel_rfl) rfl)
  obtain ⟨r0,r1,r2,r3,r4,r5,r6⟩:=box7_14 (hC.box HN.out.x (fun h=>h))
  clear hs hd
  go_simp
  exact hpl14 hK hC (by kernel_rfl)
 case r6=>
  intro _ a wz hC _ _ _ hs hd K hK
  obtain ⟨t8,t8'⟩:=tmp_both (hs 8 _ (by kernel_rfl) rfl)
  obtain ⟨r0,r1,r2,r3,r4,r5,r6⟩:=box7_14 (hC.box HN.out.y (fun h=>h))
  clear hs hd
  go_simp
  exact hpl14 hK hC (by kernel_rfl)
 case r7=>
  intro _ a wz hC _ _ _ hs hd K hK
  obtain ⟨d5,d5'⟩:=ST.lt (xv14) (hd 5 59 (by kernel_rfl) (by kernel_rfl)) (by kernel_rfl)
  obtain ⟨d6,d6'⟩:=ST.lt (yv14) (hd 6 60 (by kernel_rfl) (by kernel_rfl)) (by kernel_rfl)
  clear hs hd
  go_simp
  exact hK _ _ ((Kept.refl (fun _=>False) wz).alloc _) (hC.alloc _) (fun _=>ST.mk (k:=.slr [xr14,yr14]) (by kernel_rfl) (sl_new [(xr14,none,0),(yr14,none,0)] rfl (by
   intro p hp
   simp only[List.mem_cons,List.not_mem_nil,or_false] at hp
   rcases hp with rfl|rfl
   all_goals first|exact richS_nil (by decide) (by decide)|assumption)))
 case r8=>
  intro _ a wz hC _ _ _ hs hd K hK
  obtain ⟨v7,d7,hv7⟩:=hd 7 61 (by kernel_rfl) (by kernel_rfl)
  have hq7:SlR wz [xr14,yr14] v7:=ST.get (k:=.slr [xr14,yr14]) (by kernel_rfl) hv7
  obtain ⟨g7,ps7,e7,-,-,-⟩:=id hq7
  subst e7
  obtain ⟨-,d7'⟩:=tmp_both d7
  clear hv7
  clear hs hd
  go_simp
  refine (of14_walk 3 _ _ _ wz).mono ?_
  rintro e wv ⟨rfl,hkv⟩
  exact hK _ _ hkv (hC.trans hkv (fun _ _ h=>h)) (fun _=>ST.mk (k:=.rich (.mk 3 zD [xr14,yr14])) (by kernel_rfl) (RichS.kept hkv _ _ (hq7.rich (k:=3) (d:=zD) (by decide) (by decide))))
 case r9=>
  intro _ a wz hC _ _ _ hs hd K hK
  obtain ⟨v8,d8,hv8⟩:=hd 8 62 (by kernel_rfl) (by kernel_rfl)
  have hq8:RichS wz (.mk 3 zD [xr14,yr14]) v8:=ST.get (k:=.rich (.mk 3 zD [xr14,yr14])) (by kernel_rfl) hv8
  obtain ⟨ao8,cp8,e8⟩:=rich_form hq8
  subst e8
  obtain ⟨-,d8'⟩:=tmp_both d8
  clear hv8
  clear hs hd
  go_simp
  exact hK _ _ (Kept.refl (fun _=>False) wz) hC (fun _=>ST.mk (k:=.pair (.mk 3 zD [xr14,yr14]) (.string ⟨#[48,49,49,49]⟩)) (by kernel_rfl) ⟨ao8,cp8,rfl,hq8⟩)
 case r10=>
  intro _ a wz hC _ _ _ hs hd K hK
  obtain ⟨t7,t7'⟩:=tmp_both (hs 7 _ (by kernel_rfl) rfl)
  obtain ⟨r0,r1,r2,r3,r4,r5,r6⟩:=box7_14 (hC.box HN.out.x (fun h=>h))
  clear hs hd
  go_simp
  exact hpl14 hK hC (by kernel_rfl)
 case r11=>
  intro _ a wz hC _ _ _ hs hd K hK
  obtain ⟨t8,t8'⟩:=tmp_both (hs 8 _ (by kernel_rfl) rfl)
  obtain ⟨r0,r1,r2,r3,r4,r5,r6⟩:=box7_14 (hC.box HN.out.y (fun h=>h))
  clear hs hd
  go_simp
  exact hpl14 hK hC (by kernel_rfl)
 case r12=>
  intro _ a wz hC _ _ _ hs hd K hK
  obtain ⟨d10,d10'⟩:=ST.lt (xv14) (hd 10 64 (by kernel_rfl) (by kernel_rfl)) (by kernel_rfl)
  obtain ⟨d11,d11'⟩:=ST.lt (yv14) (hd 11 65 (by kernel_rfl) (by kernel_rfl)) (by kernel_rfl)
  clear hs hd
  go_simp
  exact hK _ _ ((Kept.refl (fun _=>False) wz).alloc _) (hC.alloc _) (fun _=>ST.mk (k:=.slr [xr14,yr14]) (by kernel_rfl) (sl_new [(xr14,none,0),(yr14,none,0)] rfl (by
   intro p hp
   simp only[List.mem_cons,List.not_mem_nil,or_false] at hp
   rcases hp with rfl|rfl
   all_goals first|exact richS_nil (by decide) (by decide)|assumption)))
 case r13=>
  intro _ a wz hC _ _ _ hs hd K hK
  obtain ⟨v12,d12,hv12⟩:=hd 12 66 (by kernel_rfl) (by kernel_rfl)
  have hq12:SlR wz [xr14,yr14] v12:=ST.get (k:=.slr [xr14,yr14]) (by kernel_rfl) hv12
  obtain ⟨g12,ps12,e12,-,-,-⟩:=id hq12
  subst e12
  obtain ⟨-,d12'⟩:=tmp_both d12
  clear hv12
  clear hs hd
  go_simp
  refine (of14_walk 4 _ _ _ wz).mono ?_
  rintro e wv ⟨rfl,hkv⟩
  exact hK _ _ hkv (hC.trans hkv (fun _ _ h=>h)) (fun _=>ST.mk (k:=.rich (.mk 4 zD [xr14,yr14])) (by kernel_rfl) (RichS.kept hkv _ _ (hq12.rich (k:=4) (d:=zD) (by decide) (by decide))))
 case r14=>
  intro _ a wz hC _ _ _ hs hd K hK
  obtain ⟨v13,d13,hv13⟩:=hd 13 67 (by kernel_rfl) (by kernel_rfl)
  have hq13:RichS wz (.mk 4 zD [xr14,yr14]) v13:=ST.get (k:=.rich (.mk 4 zD [xr14,yr14])) (by kernel_rfl) hv13
  obtain ⟨ao13,cp13,e13⟩:=rich_form hq13
  subst e13
  obtain ⟨-,d13'⟩:=tmp_both d13
  clear hv13
  clear hs hd
  go_simp
  exact hK _ _ (Kept.refl (fun _=>False) wz) hC (fun _=>ST.mk (k:=.pair (.mk 4 zD [xr14,yr14]) (.string ⟨#[49,49,48,49]⟩)) (by kernel_rfl) ⟨ao13,cp13,rfl,hq13⟩)
 case r15=>
  intro _ a wz hC _ _ _ hs hd K hK
  obtain ⟨t7,t7'⟩:=tmp_both (hs 7 _ (by kernel_rfl) rfl)
  obtain ⟨r0,r1,r2,r3,r4,r5,r6⟩:=box7_14 (hC.box HN.out.x (fun h=>h))
  clear hs hd
  go_simp
  exact hpl14 hK hC (by kernel_rfl)
 case r16=>
  intro _ a wz hC _ _ _ hs hd K hK
  obtain ⟨t8,t8'⟩:=tmp_both (hs 8 _ (by kernel_rfl) rfl)
  obtain ⟨r0,r1,r2,r3,r4,r5,r6⟩:=box7_14 (hC.box HN.out.y (fun h=>h))
  clear hs hd
  go_simp
  exact hpl14 hK hC (by kernel_rfl)
 case r17=>
  intro _ a wz hC _ _ _ hs hd K hK
  obtain ⟨d15,d15'⟩:=ST.lt (xv14) (hd 15 69 (by kernel_rfl) (by kernel_rfl)) (by kernel_rfl)
  obtain ⟨d16,d16'⟩:=ST.lt (yv14) (hd 16 70 (by kernel_rfl) (by kernel_rfl)) (by kernel_rfl)
  clear hs hd
  go_simp
  exact hK _ _ ((Kept.refl (fun _=>False) wz).alloc _) (hC.alloc _) (fun _=>ST.mk (k:=.slr [xr14,yr14]) (by kernel_rfl) (sl_new [(xr14,none,0),(yr14,none,0)] rfl (by
   intro p hp
   simp only[List.mem_cons,List.not_mem_nil,or_false] at hp
   rcases hp with rfl|rfl
   all_goals first|exact richS_nil (by decide) (by decide)|assumption)))
 case r18=>
  intro _ a wz hC _ _ _ hs hd K hK
  obtain ⟨v17,d17,hv17⟩:=hd 17 71 (by kernel_rfl) (by kernel_rfl)
  have hq17:SlR wz [xr14,yr14] v17:=ST.get (k:=.slr [xr14,yr14]) (by kernel_rfl) hv17
  obtain ⟨g17,ps17,e17,-,-,-⟩:=id hq17
  subst e17
  obtain ⟨-,d17'⟩:=tmp_both d17
  clear hv17
  clear hs hd
  go_simp
  refine (of14_walk 5 _ _ _ wz).mono ?_
  rintro e wv ⟨rfl,hkv⟩
  exact hK _ _ hkv (hC.trans hkv (fun _ _ h=>h)) (fun _=>ST.mk (k:=.rich (.mk 5 zD [xr14,yr14])) (by kernel_rfl) (RichS.kept hkv _ _ (hq17.rich (k:=5) (d:=zD) (by decide) (by decide))))
 case r19=>
  intro _ a wz hC _ _ _ hs hd K hK
  obtain ⟨v18,d18,hv18⟩:=hd 18 72 (by kernel_rfl) (by kernel_rfl)
  have hq18:RichS wz (.mk 5 zD [xr14,yr14]) v18:=ST.get (k:=.rich (.mk 5 zD [xr14,yr14])) (by kernel_rfl) hv18
  obtain ⟨ao18,cp18,e18⟩:=rich_form hq18
  subst e18
  obtain ⟨-,d18'⟩:=tmp_both d18
  clear hv18
  clear hs hd
  go_simp
  exact hK _ _ (Kept.refl (fun _=>False) wz) hC (fun _=>ST.mk (k:=.pair (.mk 5 zD [xr14,yr14]) (.string ⟨#[48,49,48,48]⟩)) (by kernel_rfl) ⟨ao18,cp18,rfl,hq18⟩)
 case r20=>
  intro _ a wz hC _ _ _ hs hd K hK
  obtain ⟨t7,t7'⟩:=tmp_both (hs 7 _ (by kernel_rfl) rfl)
  obtain ⟨r0,r1,r2,r3,r4,r5,r6⟩:=box7_14 (hC.box HN.out.x (fun h=>h))
  clear hs hd
  go_simp
  exact hpl14 hK hC (by kernel_rfl)
 case r21=>
  intro _ a wz hC _ _ _ hs hd K hK
  obtain ⟨t8,t8'⟩:=tmp_both (hs 8 _ (by kernel_rfl) rfl)
  obtain ⟨r0,r1,r2,r3,r4,r5,r6⟩:=box7_14 (hC.box HN.out.y (fun h=>h))
  clear hs hd
  go_simp
  exact hpl14 hK hC (by kernel_rfl)
 case r22=>
  intro _ a wz hC _ _ _ hs hd K hK
  obtain ⟨d20,d20'⟩:=ST.lt (xv14) (hd 20 74 (by kernel_rfl) (by kernel_rfl)) (by kernel_rfl)
  obtain ⟨d21,d21'⟩:=ST.lt (yv14) (hd 21 75 (by kernel_rfl) (by kernel_rfl)) (by kernel_rfl)
  clear hs hd
  go_simp
  exact hK _ _ ((Kept.refl (fun _=>False) wz).alloc _) (hC.alloc _) (fun _=>ST.mk (k:=.slr [xr14,yr14]) (by kernel_rfl) (sl_new [(xr14,none,0),(yr14,none,0)] rfl (by
   intro p hp
   simp only[List.mem_cons,List.not_mem_nil,or_false] at hp
   rcases hp with rfl|rfl
   all_goals first|exact richS_nil (by decide) (by decide)|assumption)))
 case r23=>
  intro _ a wz hC _ _ _ hs hd K hK
  obtain ⟨v22,d22,hv22⟩:=hd 22 76 (by kernel_rfl) (by kernel_rfl)
  have hq22:SlR wz [xr14,yr14] v22:=ST.get (k:=.slr [xr14,yr14]) (by kernel_rfl) hv22
  obtain ⟨g22,ps22,e22,-,-,-⟩:=id hq22
  subst e22
  obtain ⟨-,d22'⟩:=tmp_both d22
  clear hv22
  clear hs hd
  go_simp
  refine (of14_walk 6 _ _ _ wz).mono ?_
  rintro e wv ⟨rfl,hkv⟩
  exact hK _ _ hkv (hC.trans hkv (fun _ _ h=>h)) (fun _=>ST.mk (k:=.rich (.mk 6 zD [xr14,yr14])) (by kernel_rfl) (RichS.kept hkv _ _ (hq22.rich (k:=6) (d:=zD) (by decide) (by decide))))
 case r24=>
  intro _ a wz hC _ _ _ hs hd K hK
  obtain ⟨v23,d23,hv23⟩:=hd 23 77 (by kernel_rfl) (by kernel_rfl)
  have hq23:RichS wz (.mk 6 zD [xr14,yr14]) v23:=ST.get (k:=.rich (.mk 6 zD [xr14,yr14])) (by kernel_rfl) hv23
  obtain ⟨ao23,cp23,e23⟩:=rich_form hq23
  subst e23
  obtain ⟨-,d23'⟩:=tmp_both d23
  clear hv23
  clear hs hd
  go_simp
  exact hK _ _ (Kept.refl (fun _=>False) wz) hC (fun _=>ST.mk (k:=.pair (.mk 6 zD [xr14,yr14]) (.string ⟨#[48,48,48,48]⟩)) (by kernel_rfl) ⟨ao23,cp23,rfl,hq23⟩)
 case r25=>
  intro _ a wz hC _ _ _ hs hd K hK
  obtain ⟨t7,t7'⟩:=tmp_both (hs 7 _ (by kernel_rfl) rfl)
  obtain ⟨r0,r1,r2,r3,r4,r5,r6⟩:=box7_14 (hC.box HN.out.x (fun h=>h))
  clear hs hd
  go_simp
  exact hpl14 hK hC (by kernel_rfl)
 case r26=>
  intro _ a wz hC _ _ _ hs hd K hK
  obtain ⟨t8,t8'⟩:=tmp_both (hs 8 _ (by kernel_rfl) rfl)
  obtain ⟨r0,r1,r2,r3,r4,r5,r6⟩:=box7_14 (hC.box HN.out.y (fun h=>h))
  clear hs hd
  go_simp
  exact hpl14 hK hC (by kernel_rfl)
 case r27=>
  intro _ a wz hC _ _ _ hs hd K hK
  obtain ⟨d25,d25'⟩:=ST.lt (xv14) (hd 25 79 (by kernel_rfl) (by kernel_rfl)) (by kernel_rfl)
  obtain ⟨d26,d26'⟩:=ST.lt (yv14) (hd 26 80 (by kernel_rfl) (by kernel_rfl)) (by kernel_rfl)
  clear hs hd
  go_simp
  exact hK _ _ ((Kept.refl (fun _=>False) wz).alloc _) (hC.alloc _) (fun _=>ST.mk (k:=.slr [xr14,yr14]) (by kernel_rfl) (sl_new [(xr14,none,0),(yr14,none,0)] rfl (by
   intro p hp
   simp only[List.mem_cons,List.not_mem_nil,or_false] at hp
   rcases hp with rfl|rfl
   all_goals first|exact richS_nil (by decide) (by decide)|assumption)))
 case r28=>
  intro _ a wz hC _ _ _ hs hd K hK
  obtain ⟨v27,d27,hv27⟩:=hd 27 81 (by kernel_rfl) (by kernel_rfl)
  have hq27:SlR wz [xr14,yr14] v27:=ST.get (k:=.slr [xr14,yr14]) (by kernel_rfl) hv27
  obtain ⟨g27,ps27,e27,-,-,-⟩:=id hq27
  subst e27
  obtain ⟨-,d27'⟩:=tmp_both d27
  clear hv27
  clear hs hd
  go_simp
  refine (of14_walk 7 _ _ _ wz).mono ?_
  rintro e wv ⟨rfl,hkv⟩
  exact hK _ _ hkv (hC.trans hkv (fun _ _ h=>h)) (fun _=>ST.mk (k:=.rich (.mk 7 zD [xr14,yr14])) (by kernel_rfl) (RichS.kept hkv _ _ (hq27.rich (k:=7) (d:=zD) (by decide) (by decide))))
 case r29=>
  intro _ a wz hC _ _ _ hs hd K hK
  obtain ⟨v28,d28,hv28⟩:=hd 28 82 (by kernel_rfl) (by kernel_rfl)
  have hq28:RichS wz (.mk 7 zD [xr14,yr14]) v28:=ST.get (k:=.rich (.mk 7 zD [xr14,yr14])) (by kernel_rfl) hv28
  obtain ⟨ao28,cp28,e28⟩:=rich_form hq28
  subst e28
  obtain ⟨-,d28'⟩:=tmp_both d28
  clear hv28
  clear hs hd
  go_simp
  exact hK _ _ (Kept.refl (fun _=>False) wz) hC (fun _=>ST.mk (k:=.pair (.mk 7 zD [xr14,yr14]) (.string ⟨#[48,49,48,49]⟩)) (by kernel_rfl) ⟨ao28,cp28,rfl,hq28⟩)
 case r30=>
  intro _ a wz hC _ _ _ hs hd K hK
  obtain ⟨t7,t7'⟩:=tmp_both (hs 7 _ (by kernel_rfl) rfl)
  obtain ⟨r0,r1,r2,r3,r4,r5,r6⟩:=box7_14 (hC.box HN.out.x (fun h=>h))
  clear hs hd
  go_simp
  exact hpl14 hK hC (by kernel_rfl)
 case r31=>
  intro _ a wz hC _ _ _ hs hd K hK
  obtain ⟨t7,t7'⟩:=tmp_both (hs 7 _ (by kernel_rfl) rfl)
  obtain ⟨r0,r1,r2,r3,r4,r5,r6⟩:=box7_14 (hC.box HN.out.x (fun h=>h))
  clear hs hd
  go_simp
  exact hpl14 hK hC (by kernel_rfl)
 case r32=>
  intro _ a wz hC _ _ _ hs hd K hK
  obtain ⟨d30,d30'⟩:=ST.lt (xv14) (hd 30 84 (by kernel_rfl) (by kernel_rfl)) (by kernel_rfl)
  obtain ⟨d31,d31'⟩:=ST.lt (xv14) (hd 31 85 (by kernel_rfl) (by kernel_rfl)) (by kernel_rfl)
  clear hs hd
  go_simp
  exact hK _ _ ((Kept.refl (fun _=>False) wz).alloc _) (hC.alloc _) (fun _=>ST.mk (k:=.slr [xr14,xr14]) (by kernel_rfl) (sl_new [(xr14,none,0),(xr14,none,0)] rfl (by
   intro p hp
   simp only[List.mem_cons,List.not_mem_nil,or_false] at hp
   rcases hp with rfl|rfl
   all_goals first|exact richS_nil (by decide) (by decide)|assumption)))
 case r33=>
  intro _ a wz hC _ _ _ hs hd K hK
  obtain ⟨v32,d32,hv32⟩:=hd 32 86 (by kernel_rfl) (by kernel_rfl)
  have hq32:SlR wz [xr14,xr14] v32:=ST.get (k:=.slr [xr14,xr14]) (by kernel_rfl) hv32
  obtain ⟨g32,ps32,e32,-,-,-⟩:=id hq32
  subst e32
  obtain ⟨-,d32'⟩:=tmp_both d32
  clear hv32
  clear hs hd
  go_simp
  refine (of14_walk 7 _ _ _ wz).mono ?_
  rintro e wv ⟨rfl,hkv⟩
  exact hK _ _ hkv (hC.trans hkv (fun _ _ h=>h)) (fun _=>ST.mk (k:=.rich (.mk 7 zD [xr14,xr14])) (by kernel_rfl) (RichS.kept hkv _ _ (hq32.rich (k:=7) (d:=zD) (by decide) (by decide))))
 case r34=>
  intro _ a wz hC _ _ _ hs hd K hK
  obtain ⟨v33,d33,hv33⟩:=hd 33 87 (by kernel_rfl) (by kernel_rfl)
  have hq33:RichS wz (.mk 7 zD [xr14,xr14]) v33:=ST.get (k:=.rich (.mk 7 zD [xr14,xr14])) (by kernel_rfl) hv33
  obtain ⟨ao33,cp33,e33⟩:=rich_form hq33
  subst e33
  obtain ⟨-,d33'⟩:=tmp_both d33
  clear hv33
  clear hs hd
  go_simp
  exact hK _ _ (Kept.refl (fun _=>False) wz) hC (fun _=>ST.mk (k:=.pair (.mk 7 zD [xr14,xr14]) (.string ⟨#[48,48,48,48]⟩)) (by kernel_rfl) ⟨ao33,cp33,rfl,hq33⟩)
 case r35=>
  intro _ a wz hC _ _ _ hs hd K hK
  obtain ⟨t7,t7'⟩:=tmp_both (hs 7 _ (by kernel_rfl) rfl)
  obtain ⟨r0,r1,r2,r3,r4,r5,r6⟩:=box7_14 (hC.box HN.out.x (fun h=>h))
  clear hs hd
  go_simp
  exact hpl14 hK hC (by kernel_rfl)
 case r36=>
  intro _ a wz hC _ _ _ hs hd K hK
  obtain ⟨t8,t8'⟩:=tmp_both (hs 8 _ (by kernel_rfl) rfl)
  obtain ⟨r0,r1,r2,r3,r4,r5,r6⟩:=box7_14 (hC.box HN.out.y (fun h=>h))
  clear hs hd
  go_simp
  exact hpl14 hK hC (by kernel_rfl)
 case r37=>
  intro _ a wz hC _ _ _ hs hd K hK
  obtain ⟨t8,t8'⟩:=tmp_both (hs 8 _ (by kernel_rfl) rfl)
  obtain ⟨r0,r1,r2,r3,r4,r5,r6⟩:=box7_14 (hC.box HN.out.y (fun h=>h))
  clear hs hd
  go_simp
  exact hpl14 hK hC (by kernel_rfl)
 case r38=>
  intro _ a wz hC _ _ _ hs hd K hK
  obtain ⟨d35,d35'⟩:=ST.lt (xv14) (hd 35 89 (by kernel_rfl) (by kernel_rfl)) (by kernel_rfl)
  obtain ⟨d36,d36'⟩:=ST.lt (yv14) (hd 36 90 (by kernel_rfl) (by kernel_rfl)) (by kernel_rfl)
  obtain ⟨d37,d37'⟩:=ST.lt (yv14) (hd 37 91 (by kernel_rfl) (by kernel_rfl)) (by kernel_rfl)
  clear hs hd
  go_simp
  exact hK _ _ ((Kept.refl (fun _=>False) wz).alloc _) (hC.alloc _) (fun _=>ST.mk (k:=.slr [xr14,yr14,yr14]) (by kernel_rfl) (sl_new [(xr14,none,0),(yr14,none,0),(yr14,none,0)] rfl (by
   intro p hp
   simp only[List.mem_cons,List.not_mem_nil,or_false] at hp
   rcases hp with rfl|rfl|rfl
   all_goals first|exact richS_nil (by decide) (by decide)|assumption)))
 case r39=>
  intro _ a wz hC _ _ _ hs hd K hK
  obtain ⟨v38,d38,hv38⟩:=hd 38 92 (by kernel_rfl) (by kernel_rfl)
  have hq38:SlR wz [xr14,yr14,yr14] v38:=ST.get (k:=.slr [xr14,yr14,yr14]) (by kernel_rfl) hv38
  obtain ⟨g38,ps38,e38,-,-,-⟩:=id hq38
  subst e38
  obtain ⟨-,d38'⟩:=tmp_both d38
  clear hv38
  clear hs hd
  go_simp
  refine (of14_walk 4 _ _ _ wz).mono ?_
  rintro e wv ⟨rfl,hkv⟩
  exact hK _ _ hkv (hC.trans hkv (fun _ _ h=>h)) (fun _=>ST.mk (k:=.rich (.mk 4 zD [xr14,yr14,yr14])) (by kernel_rfl) (RichS.kept hkv _ _ (hq38.rich (k:=4) (d:=zD) (by decide) (by decide))))
 case r40=>
  intro _ a wz hC _ _ _ hs hd K hK
  obtain ⟨v39,d39,hv39⟩:=hd 39 93 (by kernel_rfl) (by kernel_rfl)
  have hq39:RichS wz (.mk 4 zD [xr14,yr14,yr14]) v39:=ST.get (k:=.rich (.mk 4 zD [xr14,yr14,yr14])) (by kernel_rfl) hv39
  obtain ⟨ao39,cp39,e39⟩:=rich_form hq39
  subst e39
  obtain ⟨-,d39'⟩:=tmp_both d39
  clear hv39
  clear hs hd
  go_simp
  exact hK _ _ (Kept.refl (fun _=>False) wz) hC (fun _=>ST.mk (k:=.pair (.mk 4 zD [xr14,yr14,yr14]) (.string ⟨#[48,48,48,49]⟩)) (by kernel_rfl) ⟨ao39,cp39,rfl,hq39⟩)
 case r41=>
  intro _ a wz hC _ _ _ hs hd K hK
  obtain ⟨t8,t8'⟩:=tmp_both (hs 8 _ (by kernel_rfl) rfl)
  obtain ⟨r0,r1,r2,r3,r4,r5,r6⟩:=box7_14 (hC.box HN.out.y (fun h=>h))
  clear hs hd
  go_simp
  exact hpl14 hK hC (by kernel_rfl)
 case r42=>
  intro _ a wz hC _ _ _ hs hd K hK
  obtain ⟨t8,t8'⟩:=tmp_both (hs 8 _ (by kernel_rfl) rfl)
  obtain ⟨r0,r1,r2,r3,r4,r5,r6⟩:=box7_14 (hC.box HN.out.y (fun h=>h))
  clear hs hd
  go_simp
  exact hpl14 hK hC (by kernel_rfl)
 case r43=>
  intro _ a wz hC _ _ _ hs hd K hK
  obtain ⟨t7,t7'⟩:=tmp_both (hs 7 _ (by kernel_rfl) rfl)
  obtain ⟨r0,r1,r2,r3,r4,r5,r6⟩:=box7_14 (hC.box HN.out.x (fun h=>h))
  clear hs hd
  go_simp
  exact hpl14 hK hC (by kernel_rfl)
 case r44=>
  intro _ a wz hC _ _ _ hs hd K hK
  obtain ⟨d41,d41'⟩:=ST.lt (yv14) (hd 41 95 (by kernel_rfl) (by kernel_rfl)) (by kernel_rfl)
  obtain ⟨d42,d42'⟩:=ST.lt (yv14) (hd 42 96 (by kernel_rfl) (by kernel_rfl)) (by kernel_rfl)
  obtain ⟨d43,d43'⟩:=ST.lt (xv14) (hd 43 97 (by kernel_rfl) (by kernel_rfl)) (by kernel_rfl)
  clear hs hd
  go_simp
  exact hK _ _ ((Kept.refl (fun _=>False) wz).alloc _) (hC.alloc _) (fun _=>ST.mk (k:=.slr [yr14,yr14,xr14]) (by kernel_rfl) (sl_new [(yr14,none,0),(yr14,none,0),(xr14,none,0)] rfl (by
   intro p hp
   simp only[List.mem_cons,List.not_mem_nil,or_false] at hp
   rcases hp with rfl|rfl|rfl
   all_goals first|exact richS_nil (by decide) (by decide)|assumption)))
 case r45=>
  intro _ a wz hC _ _ _ hs hd K hK
  obtain ⟨v44,d44,hv44⟩:=hd 44 98 (by kernel_rfl) (by kernel_rfl)
  have hq44:SlR wz [yr14,yr14,xr14] v44:=ST.get (k:=.slr [yr14,yr14,xr14]) (by kernel_rfl) hv44
  obtain ⟨g44,ps44,e44,-,-,-⟩:=id hq44
  subst e44
  obtain ⟨-,d44'⟩:=tmp_both d44
  clear hv44
  clear hs hd
  go_simp
  refine (of14_walk 4 _ _ _ wz).mono ?_
  rintro e wv ⟨rfl,hkv⟩
  exact hK _ _ hkv (hC.trans hkv (fun _ _ h=>h)) (fun _=>ST.mk (k:=.rich (.mk 4 zD [yr14,yr14,xr14])) (by kernel_rfl) (RichS.kept hkv _ _ (hq44.rich (k:=4) (d:=zD) (by decide) (by decide))))
 case r46=>
  intro _ a wz hC _ _ _ hs hd K hK
  obtain ⟨v45,d45,hv45⟩:=hd 45 99 (by kernel_rfl) (by kernel_rfl)
  have hq45:RichS wz (.mk 4 zD [yr14,yr14,xr14]) v45:=ST.get (k:=.rich (.mk 4 zD [yr14,yr14,xr14])) (by kernel_rfl) hv45
  obtain ⟨ao45,cp45,e45⟩:=rich_form hq45
  subst e45
  obtain ⟨-,d45'⟩:=tmp_both d45
  clear hv45
  clear hs hd
  go_simp
  exact hK _ _ (Kept.refl (fun _=>False) wz) hC (fun _=>ST.mk (k:=.pair (.mk 4 zD [yr14,yr14,xr14]) (.string ⟨#[48,49,49,49]⟩)) (by kernel_rfl) ⟨ao45,cp45,rfl,hq45⟩)
 case r47=>
  intro _ a wz hC _ _ _ hs hd K hK
  obtain ⟨t7,t7'⟩:=tmp_both (hs 7 _ (by kernel_rfl) rfl)
  obtain ⟨r0,r1,r2,r3,r4,r5,r6⟩:=box7_14 (hC.box HN.out.x (fun h=>h))
  clear hs hd
  go_simp
  exact hpl14 hK hC (by kernel_rfl)
 case r48=>
  intro _ a wz hC _ _ _ hs hd K hK
  obtain ⟨t8,t8'⟩:=tmp_both (hs 8 _ (by kernel_rfl) rfl)
  obtain ⟨r0,r1,r2,r3,r4,r5,r6⟩:=box7_14 (hC.box HN.out.y (fun h=>h))
  clear hs hd
  go_simp
  exact hpl14 hK hC (by kernel_rfl)
 case r49=>
  intro _ a wz hC _ _ _ hs hd K hK
  obtain ⟨t7,t7'⟩:=tmp_both (hs 7 _ (by kernel_rfl) rfl)
  obtain ⟨r0,r1,r2,r3,r4,r5,r6⟩:=box7_14 (hC.box HN.out.x (fun h=>h))
  clear hs hd
  go_simp
  exact hpl14 hK hC (by kernel_rfl)
 case r50=>
  intro _ a wz hC _ _ _ hs hd K hK
  obtain ⟨d47,d47'⟩:=ST.lt (xv14) (hd 47 101 (by kernel_rfl) (by kernel_rfl)) (by kernel_rfl)
  obtain ⟨d48,d48'⟩:=ST.lt (yv14) (hd 48 102 (by kernel_rfl) (by kernel_rfl)) (by kernel_rfl)
  obtain ⟨d49,d49'⟩:=ST.lt (xv14) (hd 49 103 (by kernel_rfl) (by kernel_rfl)) (by kernel_rfl)
  clear hs hd
  go_simp
  exact hK _ _ ((Kept.refl (fun _=>False) wz).alloc _) (hC.alloc _) (fun _=>ST.mk (k:=.slr [xr14,yr14,xr14]) (by kernel_rfl) (sl_new [(xr14,none,0),(yr14,none,0),(xr14,none,0)] rfl (by
   intro p hp
   simp only[List.mem_cons,List.not_mem_nil,or_false] at hp
   rcases hp with rfl|rfl|rfl
   all_goals first|exact richS_nil (by decide) (by decide)|assumption)))
 case r51=>
  intro _ a wz hC _ _ _ hs hd K hK
  obtain ⟨v50,d50,hv50⟩:=hd 50 104 (by kernel_rfl) (by kernel_rfl)
  have hq50:SlR wz [xr14,yr14,xr14] v50:=ST.get (k:=.slr [xr14,yr14,xr14]) (by kernel_rfl) hv50
  obtain ⟨g50,ps50,e50,-,-,-⟩:=id hq50
  subst e50
  obtain ⟨-,d50'⟩:=tmp_both d50
  clear hv50
  clear hs hd
  go_simp
  refine (of14_walk 5 _ _ _ wz).mono ?_
  rintro e wv ⟨rfl,hkv⟩
  exact hK _ _ hkv (hC.trans hkv (fun _ _ h=>h)) (fun _=>ST.mk (k:=.rich (.mk 5 zD [xr14,yr14,xr14])) (by kernel_rfl) (RichS.kept hkv _ _ (hq50.rich (k:=5) (d:=zD) (by decide) (by decide))))
 case r52=>
  intro _ a wz hC _ _ _ hs hd K hK
  obtain ⟨v51,d51,hv51⟩:=hd 51 105 (by kernel_rfl) (by kernel_rfl)
  have hq51:RichS wz (.mk 5 zD [xr14,yr14,xr14]) v51:=ST.get (k:=.rich (.mk 5 zD [xr14,yr14,xr14])) (by kernel_rfl) hv51
  obtain ⟨ao51,cp51,e51⟩:=rich_form hq51
  subst e51
  obtain ⟨-,d51'⟩:=tmp_both d51
  clear hv51
  clear hs hd
  go_simp
  exact hK _ _ (Kept.refl (fun _=>False) wz) hC (fun _=>ST.mk (k:=.pair (.mk 5 zD [xr14,yr14,xr14]) (.string ⟨#[48,49,48,49]⟩)) (by kernel_rfl) ⟨ao51,cp51,rfl,hq51⟩)
 case r53=>
  intro _ a wz hC _ _ _ hs hd K hK
  obtain ⟨t8,t8'⟩:=tmp_both (hs 8 _ (by kernel_rfl) rfl)
  obtain ⟨r0,r1,r2,r3,r4,r5,r6⟩:=box7_14 (hC.box HN.out.y (fun h=>h))
  clear hs hd
  go_simp
  exact hpl14 hK hC (by kernel_rfl)
 case r54=>
  intro _ a wz hC _ _ _ hs hd K hK
  obtain ⟨t8,t8'⟩:=tmp_both (hs 8 _ (by kernel_rfl) rfl)
  obtain ⟨r0,r1,r2,r3,r4,r5,r6⟩:=box7_14 (hC.box HN.out.y (fun h=>h))
  clear hs hd
  go_simp
  exact hpl14 hK hC (by kernel_rfl)
 case r55=>
  intro _ a wz hC _ _ _ hs hd K hK
  obtain ⟨t7,t7'⟩:=tmp_both (hs 7 _ (by kernel_rfl) rfl)
  obtain ⟨r0,r1,r2,r3,r4,r5,r6⟩:=box7_14 (hC.box HN.out.x (fun h=>h))
  clear hs hd
  go_simp
  exact hpl14 hK hC (by kernel_rfl)
 case r56=>
  intro _ a wz hC _ _ _ hs hd K hK
  obtain ⟨d53,d53'⟩:=ST.lt (yv14) (hd 53 107 (by kernel_rfl) (by kernel_rfl)) (by kernel_rfl)
  obtain ⟨d54,d54'⟩:=ST.lt (yv14) (hd 54 108 (by kernel_rfl) (by kernel_rfl)) (by kernel_rfl)
  obtain ⟨d55,d55'⟩:=ST.lt (xv14) (hd 55 109 (by kernel_rfl) (by kernel_rfl)) (by kernel_rfl)
  clear hs hd
  go_simp
  exact hK _ _ ((Kept.refl (fun _=>False) wz).alloc _) (hC.alloc _) (fun _=>ST.mk (k:=.slr [yr14,yr14,xr14]) (by kernel_rfl) (sl_new [(yr14,none,0),(yr14,none,0),(xr14,none,0)] rfl (by
   intro p hp
   simp only[List.mem_cons,List.not_mem_nil,or_false] at hp
   rcases hp with rfl|rfl|rfl
   all_goals first|exact richS_nil (by decide) (by decide)|assumption)))
 case r57=>
  intro _ a wz hC _ _ _ hs hd K hK
  obtain ⟨v56,d56,hv56⟩:=hd 56 110 (by kernel_rfl) (by kernel_rfl)
  have hq56:SlR wz [yr14,yr14,xr14] v56:=ST.get (k:=.slr [yr14,yr14,xr14]) (by kernel_rfl) hv56
  obtain ⟨g56,ps56,e56,-,-,-⟩:=id hq56
  subst e56
  obtain ⟨-,d56'⟩:=tmp_both d56
  clear hv56
  clear hs hd
  go_simp
  refine (of14_walk 5 _ _ _ wz).mono ?_
  rintro e wv ⟨rfl,hkv⟩
  exact hK _ _ hkv (hC.trans hkv (fun _ _ h=>h)) (fun _=>ST.mk (k:=.rich (.mk 5 zD [yr14,yr14,xr14])) (by kernel_rfl) (RichS.kept hkv _ _ (hq56.rich (k:=5) (d:=zD) (by decide) (by decide))))
 case r58=>
  intro _ a wz hC _ _ _ hs hd K hK
  obtain ⟨v57,d57,hv57⟩:=hd 57 111 (by kernel_rfl) (by kernel_rfl)
  have hq57:RichS wz (.mk 5 zD [yr14,yr14,xr14]) v57:=ST.get (k:=.rich (.mk 5 zD [yr14,yr14,xr14])) (by kernel_rfl) hv57
  obtain ⟨ao57,cp57,e57⟩:=rich_form hq57
  subst e57
  obtain ⟨-,d57'⟩:=tmp_both d57
  clear hv57
  clear hs hd
  go_simp
  exact hK _ _ (Kept.refl (fun _=>False) wz) hC (fun _=>ST.mk (k:=.pair (.mk 5 zD [yr14,yr14,xr14]) (.string ⟨#[48,48,48,49]⟩)) (by kernel_rfl) ⟨ao57,cp57,rfl,hq57⟩)
 case r59=>
  intro _ a wz hC _ _ _ hs hd K hK
  obtain ⟨t7,t7'⟩:=tmp_both (hs 7 _ (by kernel_rfl) rfl)
  obtain ⟨r0,r1,r2,r3,r4,r5,r6⟩:=box7_14 (hC.box HN.out.x (fun h=>h))
  clear hs hd
  go_simp
  exact hpl14 hK hC (by kernel_rfl)
 case r60=>
  intro _ a wz hC _ _ _ hs hd K hK
  obtain ⟨t7,t7'⟩:=tmp_both (hs 7 _ (by kernel_rfl) rfl)
  obtain ⟨r0,r1,r2,r3,r4,r5,r6⟩:=box7_14 (hC.box HN.out.x (fun h=>h))
  clear hs hd
  go_simp
  exact hpl14 hK hC (by kernel_rfl)
 case r61=>
  intro _ a wz hC _ _ _ hs hd K hK
  obtain ⟨t7,t7'⟩:=tmp_both (hs 7 _ (by kernel_rfl) rfl)
  obtain ⟨r0,r1,r2,r3,r4,r5,r6⟩:=box7_14 (hC.box HN.out.x (fun h=>h))
  clear hs hd
  go_simp
  exact hpl14 hK hC (by kernel_rfl)
 case r62=>
  intro _ a wz hC _ _ _ hs hd K hK
  obtain ⟨d59,d59'⟩:=ST.lt (xv14) (hd 59 113 (by kernel_rfl) (by kernel_rfl)) (by kernel_rfl)
  obtain ⟨d60,d60'⟩:=ST.lt (xv14) (hd 60 114 (by kernel_rfl) (by kernel_rfl)) (by kernel_rfl)
  obtain ⟨d61,d61'⟩:=ST.lt (xv14) (hd 61 115 (by kernel_rfl) (by kernel_rfl)) (by kernel_rfl)
  clear hs hd
  go_simp
  exact hK _ _ ((Kept.refl (fun _=>False) wz).alloc _) (hC.alloc _) (fun _=>ST.mk (k:=.slr [xr14,xr14,xr14]) (by kernel_rfl) (sl_new [(xr14,none,0),(xr14,none,0),(xr14,none,0)] rfl (by
   intro p hp
   simp only[List.mem_cons,List.not_mem_nil,or_false] at hp
   rcases hp with rfl|rfl|rfl
   all_goals first|exact richS_nil (by decide) (by decide)|assumption)))
 case r63=>
  intro _ a wz hC _ _ _ hs hd K hK
  obtain ⟨v62,d62,hv62⟩:=hd 62 116 (by kernel_rfl) (by kernel_rfl)
  have hq62:SlR wz [xr14,xr14,xr14] v62:=ST.get (k:=.slr [xr14,xr14,xr14]) (by kernel_rfl) hv62
  obtain ⟨g62,ps62,e62,-,-,-⟩:=id hq62
  subst e62
  obtain ⟨-,d62'⟩:=tmp_both d62
  clear hv62
  clear hs hd
  go_simp
  refine (of14_walk 6 _ _ _ wz).mono ?_
  rintro e wv ⟨rfl,hkv⟩
  exact hK _ _ hkv (hC.trans hkv (fun _ _ h=>h)) (fun _=>ST.mk (k:=.rich (.mk 6 zD [xr14,xr14,xr14])) (by kernel_rfl) (RichS.kept hkv _ _ (hq62.rich (k:=6) (d:=zD) (by decide) (by decide))))
 case r64=>
  intro _ a wz hC _ _ _ hs hd K hK
  obtain ⟨v63,d63,hv63⟩:=hd 63 117 (by kernel_rfl) (by kernel_rfl)
  have hq63:RichS wz (.mk 6 zD [xr14,xr14,xr14]) v63:=ST.get (k:=.rich (.mk 6 zD [xr14,xr14,xr14])) (by kernel_rfl) hv63
  obtain ⟨ao63,cp63,e63⟩:=rich_form hq63
  subst e63
  obtain ⟨-,d63'⟩:=tmp_both d63
  clear hv63
  clear hs hd
  go_simp
  exact hK _ _ (Kept.refl (fun _=>False) wz) hC (fun _=>ST.mk (k:=.pair (.mk 6 zD [xr14,xr14,xr14]) (.string ⟨#[48,49,48,49]⟩)) (by kernel_rfl) ⟨ao63,cp63,rfl,hq63⟩)
 case r65=>
  intro _ a wz hC _ _ _ hs hd K hK
  obtain ⟨t7,t7'⟩:=tmp_both (hs 7 _ (by kernel_rfl) rfl)
  obtain ⟨r0,r1,r2,r3,r4,r5,r6⟩:=box7_14 (hC.box HN.out.x (fun h=>h))
  clear hs hd
  go_simp
  exact hpl14 hK hC (by kernel_rfl)
 case r66=>
  intro _ a wz hC _ _ _ hs hd K hK
  obtain ⟨t8,t8'⟩:=tmp_both (hs 8 _ (by kernel_rfl) rfl)
  obtain ⟨r0,r1,r2,r3,r4,r5,r6⟩:=box7_14 (hC.box HN.out.y (fun h=>h))
  clear hs hd
  go_simp
  exact hpl14 hK hC (by kernel_rfl)
 case r67=>
  intro _ a wz hC _ _ _ hs hd K hK
  obtain ⟨d65,d65'⟩:=ST.lt (xv14) (hd 65 119 (by kernel_rfl) (by kernel_rfl)) (by kernel_rfl)
  obtain ⟨d66,d66'⟩:=ST.lt (yv14) (hd 66 120 (by kernel_rfl) (by kernel_rfl)) (by kernel_rfl)
  clear hs hd
  go_simp
  exact hK _ _ ((Kept.refl (fun _=>False) wz).alloc _) (hC.alloc _) (fun _=>ST.mk (k:=.slr [xr14,yr14]) (by kernel_rfl) (sl_new [(xr14,none,0),(yr14,none,0)] rfl (by
   intro p hp
   simp only[List.mem_cons,List.not_mem_nil,or_false] at hp
   rcases hp with rfl|rfl
   all_goals first|exact richS_nil (by decide) (by decide)|assumption)))
 case r68=>
  intro _ a wz hC _ _ _ hs hd K hK
  obtain ⟨v67,d67,hv67⟩:=hd 67 121 (by kernel_rfl) (by kernel_rfl)
  have hq67:SlR wz [xr14,yr14] v67:=ST.get (k:=.slr [xr14,yr14]) (by kernel_rfl) hv67
  obtain ⟨g67,ps67,e67,-,-,-⟩:=id hq67
  subst e67
  obtain ⟨-,d67'⟩:=tmp_both d67
  clear hv67
  clear hs hd
  go_simp
  refine (of14_walk 3 _ _ _ wz).mono ?_
  rintro e wv ⟨rfl,hkv⟩
  exact hK _ _ hkv (hC.trans hkv (fun _ _ h=>h)) (fun _=>ST.mk (k:=.rich (.mk 3 zD [xr14,yr14])) (by kernel_rfl) (RichS.kept hkv _ _ (hq67.rich (k:=3) (d:=zD) (by decide) (by decide))))
 case r69=>
  intro _ a wz hC _ _ _ hs hd K hK
  clear hs hd
  go_simp
  refine (atom14_walk _ wz).mono ?_
  rintro e wv ⟨rfl,hkv⟩
  exact hK _ _ hkv (hC.trans hkv (fun _ _ h=>h)) (fun _=>ST.pl (by kernel_rfl))
 case r70=>
  intro _ a wz hC _ _ _ hs hd K hK
  obtain ⟨v68,d68,hv68⟩:=hd 68 122 (by kernel_rfl) (by kernel_rfl)
  have hq68:RichS wz (.mk 3 zD [xr14,yr14]) v68:=ST.get (k:=.rich (.mk 3 zD [xr14,yr14])) (by kernel_rfl) hv68
  obtain ⟨ao68,cp68,e68⟩:=rich_form hq68
  subst e68
  obtain ⟨-,d68'⟩:=tmp_both d68
  clear hv68
  obtain ⟨d69,d69'⟩:=ST.lt (zv14) (hd 69 123 (by kernel_rfl) (by kernel_rfl)) (by kernel_rfl)
  clear hs hd
  go_simp
  exact hK _ _ ((Kept.refl (fun _=>False) wz).alloc _) (hC.alloc _) (fun _=>ST.mk (k:=.slr [(.mk 3 zD [xr14,yr14]),zr14]) (by kernel_rfl) (sl_new [((.mk 3 zD [xr14,yr14]),ao68,cp68),(zr14,none,0)] rfl (by
   intro p hp
   simp only[List.mem_cons,List.not_mem_nil,or_false] at hp
   rcases hp with rfl|rfl
   all_goals first|exact richS_nil (by decide) (by decide)|assumption)))
 case r71=>
  intro _ a wz hC _ _ _ hs hd K hK
  obtain ⟨v70,d70,hv70⟩:=hd 70 124 (by kernel_rfl) (by kernel_rfl)
  have hq70:SlR wz [(.mk 3 zD [xr14,yr14]),zr14] v70:=ST.get (k:=.slr [(.mk 3 zD [xr14,yr14]),zr14]) (by kernel_rfl) hv70
  obtain ⟨g70,ps70,e70,-,-,-⟩:=id hq70
  subst e70
  obtain ⟨-,d70'⟩:=tmp_both d70
  clear hv70
  clear hs hd
  go_simp
  refine (of14_walk 6 _ _ _ wz).mono ?_
  rintro e wv ⟨rfl,hkv⟩
  exact hK _ _ hkv (hC.trans hkv (fun _ _ h=>h)) (fun _=>ST.mk (k:=.rich (.mk 6 zD [(.mk 3 zD [xr14,yr14]),zr14])) (by kernel_rfl) (RichS.kept hkv _ _ (hq70.rich (k:=6) (d:=zD) (by decide) (by decide))))
 case r72=>
  intro _ a wz hC _ _ _ hs hd K hK
  obtain ⟨v71,d71,hv71⟩:=hd 71 125 (by kernel_rfl) (by kernel_rfl)
  have hq71:RichS wz (.mk 6 zD [(.mk 3 zD [xr14,yr14]),zr14]) v71:=ST.get (k:=.rich (.mk 6 zD [(.mk 3 zD [xr14,yr14]),zr14])) (by kernel_rfl) hv71
  obtain ⟨ao71,cp71,e71⟩:=rich_form hq71
  subst e71
  obtain ⟨-,d71'⟩:=tmp_both d71
  clear hv71
  clear hs hd
  go_simp
  exact hK _ _ (Kept.refl (fun _=>False) wz) hC (fun _=>ST.mk (k:=.pair (.mk 6 zD [(.mk 3 zD [xr14,yr14]),zr14]) (.string ⟨#[48,48,49,49]⟩)) (by kernel_rfl) ⟨ao71,cp71,rfl,hq71⟩)
 case r73=>
  intro _ a wz hC _ _ _ hs hd K hK
  obtain ⟨t7,t7'⟩:=tmp_both (hs 7 _ (by kernel_rfl) rfl)
  obtain ⟨r0,r1,r2,r3,r4,r5,r6⟩:=box7_14 (hC.box HN.out.x (fun h=>h))
  clear hs hd
  go_simp
  exact hpl14 hK hC (by kernel_rfl)
 case r74=>
  intro _ a wz hC _ _ _ hs hd K hK
  obtain ⟨t7,t7'⟩:=tmp_both (hs 7 _ (by kernel_rfl) rfl)
  obtain ⟨r0,r1,r2,r3,r4,r5,r6⟩:=box7_14 (hC.box HN.out.x (fun h=>h))
  clear hs hd
  go_simp
  exact hpl14 hK hC (by kernel_rfl)
 case r75=>
  intro _ a wz hC _ _ _ hs hd K hK
  obtain ⟨t8,t8'⟩:=tmp_both (hs 8 _ (by kernel_rfl) rfl)
  obtain ⟨r0,r1,r2,r3,r4,r5,r6⟩:=box7_14 (hC.box HN.out.y (fun h=>h))
  clear hs hd
  go_simp
  exact hpl14 hK hC (by kernel_rfl)
 case r76=>
  intro _ a wz hC _ _ _ hs hd K hK
  obtain ⟨d74,d74'⟩:=ST.lt (xv14) (hd 74 128 (by kernel_rfl) (by kernel_rfl)) (by kernel_rfl)
  obtain ⟨d75,d75'⟩:=ST.lt (yv14) (hd 75 129 (by kernel_rfl) (by kernel_rfl)) (by kernel_rfl)
  clear hs hd
  go_simp
  exact hK _ _ ((Kept.refl (fun _=>False) wz).alloc _) (hC.alloc _) (fun _=>ST.mk (k:=.slr [xr14,yr14]) (by kernel_rfl) (sl_new [(xr14,none,0),(yr14,none,0)] rfl (by
   intro p hp
   simp only[List.mem_cons,List.not_mem_nil,or_false] at hp
   rcases hp with rfl|rfl
   all_goals first|exact richS_nil (by decide) (by decide)|assumption)))
 case r77=>
  intro _ a wz hC _ _ _ hs hd K hK
  obtain ⟨v76,d76,hv76⟩:=hd 76 130 (by kernel_rfl) (by kernel_rfl)
  have hq76:SlR wz [xr14,yr14] v76:=ST.get (k:=.slr [xr14,yr14]) (by kernel_rfl) hv76
  obtain ⟨g76,ps76,e76,-,-,-⟩:=id hq76
  subst e76
  obtain ⟨-,d76'⟩:=tmp_both d76
  clear hv76
  clear hs hd
  go_simp
  refine (of14_walk 2 _ _ _ wz).mono ?_
  rintro e wv ⟨rfl,hkv⟩
  exact hK _ _ hkv (hC.trans hkv (fun _ _ h=>h)) (fun _=>ST.mk (k:=.rich (.mk 2 zD [xr14,yr14])) (by kernel_rfl) (RichS.kept hkv _ _ (hq76.rich (k:=2) (d:=zD) (by decide) (by decide))))
 case r78=>
  intro _ a wz hC _ _ _ hs hd K hK
  obtain ⟨d73,d73'⟩:=ST.lt (xv14) (hd 73 127 (by kernel_rfl) (by kernel_rfl)) (by kernel_rfl)
  obtain ⟨v77,d77,hv77⟩:=hd 77 131 (by kernel_rfl) (by kernel_rfl)
  have hq77:RichS wz (.mk 2 zD [xr14,yr14]) v77:=ST.get (k:=.rich (.mk 2 zD [xr14,yr14])) (by kernel_rfl) hv77
  obtain ⟨ao77,cp77,e77⟩:=rich_form hq77
  subst e77
  obtain ⟨-,d77'⟩:=tmp_both d77
  clear hv77
  clear hs hd
  go_simp
  exact hK _ _ ((Kept.refl (fun _=>False) wz).alloc _) (hC.alloc _) (fun _=>ST.mk (k:=.slr [xr14,(.mk 2 zD [xr14,yr14])]) (by kernel_rfl) (sl_new [(xr14,none,0),((.mk 2 zD [xr14,yr14]),ao77,cp77)] rfl (by
   intro p hp
   simp only[List.mem_cons,List.not_mem_nil,or_false] at hp
   rcases hp with rfl|rfl
   all_goals first|exact richS_nil (by decide) (by decide)|assumption)))
 case r79=>
  intro _ a wz hC _ _ _ hs hd K hK
  obtain ⟨v78,d78,hv78⟩:=hd 78 132 (by kernel_rfl) (by kernel_rfl)
  have hq78:SlR wz [xr14,(.mk 2 zD [xr14,yr14])] v78:=ST.get (k:=.slr [xr14,(.mk 2 zD [xr14,yr14])]) (by kernel_rfl) hv78
  obtain ⟨g78,ps78,e78,-,-,-⟩:=id hq78
  subst e78
  obtain ⟨-,d78'⟩:=tmp_both d78
  clear hv78
  clear hs hd
  go_simp
  refine (of14_walk 4 _ _ _ wz).mono ?_
  rintro e wv ⟨rfl,hkv⟩
  exact hK _ _ hkv (hC.trans hkv (fun _ _ h=>h)) (fun _=>ST.mk (k:=.rich (.mk 4 zD [xr14,(.mk 2 zD [xr14,yr14])])) (by kernel_rfl) (RichS.kept hkv _ _ (hq78.rich (k:=4) (d:=zD) (by decide) (by decide))))
 case r80=>
  intro _ a wz hC _ _ _ hs hd K hK
  obtain ⟨v79,d79,hv79⟩:=hd 79 133 (by kernel_rfl) (by kernel_rfl)
  have hq79:RichS wz (.mk 4 zD [xr14,(.mk 2 zD [xr14,yr14])]) v79:=ST.get (k:=.rich (.mk 4 zD [xr14,(.mk 2 zD [xr14,yr14])])) (by kernel_rfl) hv79
  obtain ⟨ao79,cp79,e79⟩:=rich_form hq79
  subst e79
  obtain ⟨-,d79'⟩:=tmp_both d79
  clear hv79
  clear hs hd
  go_simp
  exact hK _ _ (Kept.refl (fun _=>False) wz) hC (fun _=>ST.mk (k:=.pair (.mk 4 zD [xr14,(.mk 2 zD [xr14,yr14])]) (.string ⟨#[49,49,49,49]⟩)) (by kernel_rfl) ⟨ao79,cp79,rfl,hq79⟩)
 case r81=>
  intro _ a wz hC _ _ _ hs hd K hK
  clear hs hd
  go_simp
  refine (atom14_walk _ wz).mono ?_
  rintro e wv ⟨rfl,hkv⟩
  exact hK _ _ hkv (hC.trans hkv (fun _ _ h=>h)) (fun _=>ST.pl (by kernel_rfl))
 case r82=>
  intro _ a wz hC _ _ _ hs hd K hK
  obtain ⟨d81,d81'⟩:=ST.lt (nv14) (hd 81 135 (by kernel_rfl) (by kernel_rfl)) (by kernel_rfl)
  clear hs hd
  go_simp
  exact hK _ _ (Kept.refl (fun _=>False) wz) hC (fun _=>ST.mk (k:=.pair nr14 (.string ⟨#[48,48,48,48]⟩)) (by kernel_rfl) ⟨none,0,rfl,richS_nil (by decide) (by decide)⟩)
 case r83=>
  intro _ a wz hC _ _ _ hs hd K hK
  clear hs hd
  go_simp
  refine (atom14_walk _ wz).mono ?_
  rintro e wv ⟨rfl,hkv⟩
  exact hK _ _ hkv (hC.trans hkv (fun _ _ h=>h)) (fun _=>ST.pl (by kernel_rfl))
 case r84=>
  intro _ a wz hC _ _ _ hs hd K hK
  clear hs hd
  go_simp
  refine (atom14_walk _ wz).mono ?_
  rintro e wv ⟨rfl,hkv⟩
  exact hK _ _ hkv (hC.trans hkv (fun _ _ h=>h)) (fun _=>ST.pl (by kernel_rfl))
 case r85=>
  intro _ a wz hC _ _ _ hs hd K hK
  obtain ⟨d83,d83'⟩:=ST.lt (xv14) (hd 83 137 (by kernel_rfl) (by kernel_rfl)) (by kernel_rfl)
  obtain ⟨d84,d84'⟩:=ST.lt (nv14) (hd 84 138 (by kernel_rfl) (by kernel_rfl)) (by kernel_rfl)
  clear hs hd
  go_simp
  exact hK _ _ ((Kept.refl (fun _=>False) wz).alloc _) (hC.alloc _) (fun _=>ST.mk (k:=.slr [xr14,nr14]) (by kernel_rfl) (sl_new [(xr14,none,0),(nr14,none,0)] rfl (by
   intro p hp
   simp only[List.mem_cons,List.not_mem_nil,or_false] at hp
   rcases hp with rfl|rfl
   all_goals first|exact richS_nil (by decide) (by decide)|assumption)))
 case r86=>
  intro _ a wz hC _ _ _ hs hd K hK
  obtain ⟨v85,d85,hv85⟩:=hd 85 139 (by kernel_rfl) (by kernel_rfl)
  have hq85:SlR wz [xr14,nr14] v85:=ST.get (k:=.slr [xr14,nr14]) (by kernel_rfl) hv85
  obtain ⟨g85,ps85,e85,-,-,-⟩:=id hq85
  subst e85
  obtain ⟨-,d85'⟩:=tmp_both d85
  clear hv85
  clear hs hd
  go_simp
  refine (of14_walk 5 _ _ _ wz).mono ?_
  rintro e wv ⟨rfl,hkv⟩
  exact hK _ _ hkv (hC.trans hkv (fun _ _ h=>h)) (fun _=>ST.mk (k:=.rich (.mk 5 zD [xr14,nr14])) (by kernel_rfl) (RichS.kept hkv _ _ (hq85.rich (k:=5) (d:=zD) (by decide) (by decide))))
 case r87=>
  intro _ a wz hC _ _ _ hs hd K hK
  obtain ⟨v86,d86,hv86⟩:=hd 86 140 (by kernel_rfl) (by kernel_rfl)
  have hq86:RichS wz (.mk 5 zD [xr14,nr14]) v86:=ST.get (k:=.rich (.mk 5 zD [xr14,nr14])) (by kernel_rfl) hv86
  obtain ⟨ao86,cp86,e86⟩:=rich_form hq86
  subst e86
  obtain ⟨-,d86'⟩:=tmp_both d86
  clear hv86
  clear hs hd
  go_simp
  exact hK _ _ (Kept.refl (fun _=>False) wz) hC (fun _=>ST.mk (k:=.pair (.mk 5 zD [xr14,nr14]) (.string ⟨#[48,49,48,49]⟩)) (by kernel_rfl) ⟨ao86,cp86,rfl,hq86⟩)
 case r88=>
  intro _ a wz hC _ _ _ hs hd K hK
  clear hs hd
  go_simp
  exact hpl14 hK hC (by kernel_rfl)
 case r89=>
  intro _ a wz hC _ _ _ hs hd K hK
  obtain ⟨d88,d88'⟩:=ST.lt (.agg #[.int .u8 0,.string ⟨#[]⟩,.int .u8 0,.int .i64 0,.string ⟨#[]⟩,.string ⟨#[]⟩,.slice none 0 0]) (hd 88 142 (by kernel_rfl) (by kernel_rfl)) (by kernel_rfl)
  clear hs hd
  go_simp
  exact hK _ _ (Kept.refl (fun _=>False) wz) hC (fun _=>ST.mk (k:=.pair (.mk 0 zD []) (.string ⟨#[48,48,48,48]⟩)) (by kernel_rfl) ⟨none,0,rfl,richS_nil (by decide) (by decide)⟩)
 case r90=>
  intro _ a wz hC _ _ _ hs hd K hK
  obtain ⟨t7,t7'⟩:=tmp_both (hs 7 _ (by kernel_rfl) rfl)
  obtain ⟨r0,r1,r2,r3,r4,r5,r6⟩:=box7_14 (hC.box HN.out.x (fun h=>h))
  clear hs hd
  go_simp
  exact hpl14 hK hC (by kernel_rfl)
 case r91=>
  intro _ a wz hC _ _ _ hs hd K hK
  obtain ⟨d90,d90'⟩:=ST.lt (xv14) (hd 90 144 (by kernel_rfl) (by kernel_rfl)) (by kernel_rfl)
  clear hs hd
  go_simp
  exact hK _ _ ((Kept.refl (fun _=>False) wz).alloc _) (hC.alloc _) (fun _=>ST.mk (k:=.slr [xr14]) (by kernel_rfl) (sl_new [(xr14,none,0)] rfl (by
   intro p hp
   simp only[List.mem_cons,List.not_mem_nil,or_false] at hp
   rcases hp with rfl
   all_goals first|exact richS_nil (by decide) (by decide)|assumption)))
 case r92=>
  intro _ a wz hC _ _ _ hs hd K hK
  obtain ⟨v91,d91,hv91⟩:=hd 91 145 (by kernel_rfl) (by kernel_rfl)
  have hq91:SlR wz [xr14] v91:=ST.get (k:=.slr [xr14]) (by kernel_rfl) hv91
  obtain ⟨g91,ps91,e91,-,-,-⟩:=id hq91
  subst e91
  obtain ⟨-,d91'⟩:=tmp_both d91
  clear hv91
  clear hs hd
  go_simp
  refine (of14_walk 2 _ _ _ wz).mono ?_
  rintro e wv ⟨rfl,hkv⟩
  exact hK _ _ hkv (hC.trans hkv (fun _ _ h=>h)) (fun _=>ST.mk (k:=.rich (.mk 2 zD [xr14])) (by kernel_rfl) (RichS.kept hkv _ _ (hq91.rich (k:=2) (d:=zD) (by decide) (by decide))))
 case r93=>
  intro _ a wz hC _ _ _ hs hd K hK
  obtain ⟨v92,d92,hv92⟩:=hd 92 146 (by kernel_rfl) (by kernel_rfl)
  have hq92:RichS wz (.mk 2 zD [xr14]) v92:=ST.get (k:=.rich (.mk 2 zD [xr14])) (by kernel_rfl) hv92
  obtain ⟨ao92,cp92,e92⟩:=rich_form hq92
  subst e92
  obtain ⟨-,d92'⟩:=tmp_both d92
  clear hv92
  clear hs hd
  go_simp
  exact hK _ _ (Kept.refl (fun _=>False) wz) hC (fun _=>ST.mk (k:=.pair (.mk 2 zD [xr14]) (.string ⟨#[48,48,48,48]⟩)) (by kernel_rfl) ⟨ao92,cp92,rfl,hq92⟩)
 case r94=>
  intro _ a wz hC _ _ _ hs hd K hK
  clear hs hd
  go_simp
  refine (of14_walk 2 none 0 0 wz).mono ?_
  rintro e wv ⟨rfl,hkv⟩
  exact hK _ _ hkv (hC.trans hkv (fun _ _ h=>h)) (fun _=>ST.pl (by kernel_rfl))
 case r95=>
  intro _ a wz hC _ _ _ hs hd K hK
  obtain ⟨d94,d94'⟩:=ST.lt (.agg #[.int .u8 2,.string ⟨#[]⟩,.int .u8 0,.int .i64 0,.string ⟨#[]⟩,.string ⟨#[]⟩,.slice none 0 0]) (hd 94 148 (by kernel_rfl) (by kernel_rfl)) (by kernel_rfl)
  clear hs hd
  go_simp
  exact hK _ _ (Kept.refl (fun _=>False) wz) hC (fun _=>ST.mk (k:=.pair (.mk 2 zD []) (.string ⟨#[48,48,48,48]⟩)) (by kernel_rfl) ⟨none,0,rfl,richS_nil (by decide) (by decide)⟩)
 case r96=>
  intro _ a wz hC _ _ _ hs hd K hK
  obtain ⟨t7,t7'⟩:=tmp_both (hs 7 _ (by kernel_rfl) rfl)
  obtain ⟨r0,r1,r2,r3,r4,r5,r6⟩:=box7_14 (hC.box HN.out.x (fun h=>h))
  clear hs hd
  go_simp
  exact hpl14 hK hC (by kernel_rfl)
 case r97=>
  intro _ a wz hC _ _ _ hs hd K hK
  clear hs hd
  go_simp
  refine (atom14_walk _ wz).mono ?_
  rintro e wv ⟨rfl,hkv⟩
  exact hK _ _ hkv (hC.trans hkv (fun _ _ h=>h)) (fun _=>ST.pl (by kernel_rfl))
 case r98=>
  intro _ a wz hC _ _ _ hs hd K hK
  obtain ⟨t7,t7'⟩:=tmp_both (hs 7 _ (by kernel_rfl) rfl)
  obtain ⟨r0,r1,r2,r3,r4,r5,r6⟩:=box7_14 (hC.box HN.out.x (fun h=>h))
  clear hs hd
  go_simp
  exact hpl14 hK hC (by kernel_rfl)
 case r99=>
  intro _ a wz hC _ _ _ hs hd K hK
  obtain ⟨t7,t7'⟩:=tmp_both (hs 7 _ (by kernel_rfl) rfl)
  obtain ⟨r0,r1,r2,r3,r4,r5,r6⟩:=box7_14 (hC.box HN.out.x (fun h=>h))
  clear hs hd
  go_simp
  exact hpl14 hK hC (by kernel_rfl)
 case r100=>
  intro _ a wz hC _ _ _ hs hd K hK
  obtain ⟨d96,d96'⟩:=ST.lt (xv14) (hd 96 150 (by kernel_rfl) (by kernel_rfl)) (by kernel_rfl)
  obtain ⟨d97,d97'⟩:=ST.lt (nv14) (hd 97 151 (by kernel_rfl) (by kernel_rfl)) (by kernel_rfl)
  obtain ⟨d98,d98'⟩:=ST.lt (xv14) (hd 98 152 (by kernel_rfl) (by kernel_rfl)) (by kernel_rfl)
  obtain ⟨d99,d99'⟩:=ST.lt (xv14) (hd 99 153 (by kernel_rfl) (by kernel_rfl)) (by kernel_rfl)
  clear hs hd
  go_simp
  exact hK _ _ ((Kept.refl (fun _=>False) wz).alloc _) (hC.alloc _) (fun _=>ST.mk (k:=.slr [xr14,nr14,xr14,xr14]) (by kernel_rfl) (sl_new [(xr14,none,0),(nr14,none,0),(xr14,none,0),(xr14,none,0)] rfl (by
   intro p hp
   simp only[List.mem_cons,List.not_mem_nil,or_false] at hp
   rcases hp with rfl|rfl|rfl|rfl
   all_goals first|exact richS_nil (by decide) (by decide)|assumption)))
 case r101=>
  intro _ a wz hC _ _ _ hs hd K hK
  obtain ⟨v100,d100,hv100⟩:=hd 100 154 (by kernel_rfl) (by kernel_rfl)
  have hq100:SlR wz [xr14,nr14,xr14,xr14] v100:=ST.get (k:=.slr [xr14,nr14,xr14,xr14]) (by kernel_rfl) hv100
  obtain ⟨g100,ps100,e100,-,-,-⟩:=id hq100
  subst e100
  obtain ⟨-,d100'⟩:=tmp_both d100
  clear hv100
  clear hs hd
  go_simp
  refine (of14_walk 4 _ _ _ wz).mono ?_
  rintro e wv ⟨rfl,hkv⟩
  exact hK _ _ hkv (hC.trans hkv (fun _ _ h=>h)) (fun _=>ST.mk (k:=.rich (.mk 4 zD [xr14,nr14,xr14,xr14])) (by kernel_rfl) (RichS.kept hkv _ _ (hq100.rich (k:=4) (d:=zD) (by decide) (by decide))))
 case r102=>
  intro _ a wz hC _ _ _ hs hd K hK
  obtain ⟨v101,d101,hv101⟩:=hd 101 155 (by kernel_rfl) (by kernel_rfl)
  have hq101:RichS wz (.mk 4 zD [xr14,nr14,xr14,xr14]) v101:=ST.get (k:=.rich (.mk 4 zD [xr14,nr14,xr14,xr14])) (by kernel_rfl) hv101
  obtain ⟨ao101,cp101,e101⟩:=rich_form hq101
  subst e101
  obtain ⟨-,d101'⟩:=tmp_both d101
  clear hv101
  clear hs hd
  go_simp
  exact hK _ _ (Kept.refl (fun _=>False) wz) hC (fun _=>ST.mk (k:=.pair (.mk 4 zD [xr14,nr14,xr14,xr14]) (.string ⟨#[48,48,48,48]⟩)) (by kernel_rfl) ⟨ao101,cp101,rfl,hq101⟩)
 case r103=>
  intro _ a wz hC _ _ _ hs hd K hK
  clear hs hd
  go_simp
  exact hpl14 hK hC (by kernel_rfl)
 case r104=>
  intro _ a wz hC _ _ _ hs hd K hK
  obtain ⟨d103,d103'⟩:=ST.lt (.agg #[.int .u8 9,.string ⟨#[]⟩,.int .u8 0,.int .i64 0,.string ⟨#[]⟩,.string ⟨#[]⟩,.slice none 0 0]) (hd 103 157 (by kernel_rfl) (by kernel_rfl)) (by kernel_rfl)
  clear hs hd
  go_simp
  exact hK _ _ (Kept.refl (fun _=>False) wz) hC (fun _=>ST.mk (k:=.pair (.mk 9 zD []) (.string ⟨#[48,48,48,48]⟩)) (by kernel_rfl) ⟨none,0,rfl,richS_nil (by decide) (by decide)⟩)
 case r105=>
  intro _ a wz hC _ _ _ hs hd K hK
  obtain ⟨v4,d4,hv4⟩:=hd 4 58 (by kernel_rfl) (by kernel_rfl)
  have hq4:PairS wz (.mk 2 zD [xr14,yr14]) (.string ⟨#[48,48,48,49]⟩) v4:=ST.get (k:=.pair (.mk 2 zD [xr14,yr14]) (.string ⟨#[48,48,48,49]⟩)) (by kernel_rfl) hv4
  obtain ⟨ao4,cp4,e4,hr4⟩:=hq4
  subst e4
  obtain ⟨-,d4'⟩:=tmp_both d4
  clear hv4
  obtain ⟨v9,d9,hv9⟩:=hd 9 63 (by kernel_rfl) (by kernel_rfl)
  have hq9:PairS wz (.mk 3 zD [xr14,yr14]) (.string ⟨#[48,49,49,49]⟩) v9:=ST.get (k:=.pair (.mk 3 zD [xr14,yr14]) (.string ⟨#[48,49,49,49]⟩)) (by kernel_rfl) hv9
  obtain ⟨ao9,cp9,e9,hr9⟩:=hq9
  subst e9
  obtain ⟨-,d9'⟩:=tmp_both d9
  clear hv9
  obtain ⟨v14,d14,hv14⟩:=hd 14 68 (by kernel_rfl) (by kernel_rfl)
  have hq14:PairS wz (.mk 4 zD [xr14,yr14]) (.string ⟨#[49,49,48,49]⟩) v14:=ST.get (k:=.pair (.mk 4 zD [xr14,yr14]) (.string ⟨#[49,49,48,49]⟩)) (by kernel_rfl) hv14
  obtain ⟨ao14,cp14,e14,hr14⟩:=hq14
  subst e14
  obtain ⟨-,d14'⟩:=tmp_both d14
  clear hv14
  obtain ⟨v19,d19,hv19⟩:=hd 19 73 (by kernel_rfl) (by kernel_rfl)
  have hq19:PairS wz (.mk 5 zD [xr14,yr14]) (.string ⟨#[48,49,48,48]⟩) v19:=ST.get (k:=.pair (.mk 5 zD [xr14,yr14]) (.string ⟨#[48,49,48,48]⟩)) (by kernel_rfl) hv19
  obtain ⟨ao19,cp19,e19,hr19⟩:=hq19
  subst e19
  obtain ⟨-,d19'⟩:=tmp_both d19
  clear hv19
  obtain ⟨v24,d24,hv24⟩:=hd 24 78 (by kernel_rfl) (by kernel_rfl)
  have hq24:PairS wz (.mk 6 zD [xr14,yr14]) (.string ⟨#[48,48,48,48]⟩) v24:=ST.get (k:=.pair (.mk 6 zD [xr14,yr14]) (.string ⟨#[48,48,48,48]⟩)) (by kernel_rfl) hv24
  obtain ⟨ao24,cp24,e24,hr24⟩:=hq24
  subst e24
  obtain ⟨-,d24'⟩:=tmp_both d24
  clear hv24
  obtain ⟨v29,d29,hv29⟩:=hd 29 83 (by kernel_rfl) (by kernel_rfl)
  have hq29:PairS wz (.mk 7 zD [xr14,yr14]) (.string ⟨#[48,49,48,49]⟩) v29:=ST.get (k:=.pair (.mk 7 zD [xr14,yr14]) (.string ⟨#[48,49,48,49]⟩)) (by kernel_rfl) hv29
  obtain ⟨ao29,cp29,e29,hr29⟩:=hq29
  subst e29
  obtain ⟨-,d29'⟩:=tmp_both d29
  clear hv29
  obtain ⟨v34,d34,hv34⟩:=hd 34 88 (by kernel_rfl) (by kernel_rfl)
  have hq34:PairS wz (.mk 7 zD [xr14,xr14]) (.string ⟨#[48,48,48,48]⟩) v34:=ST.get (k:=.pair (.mk 7 zD [xr14,xr14]) (.string ⟨#[48,48,48,48]⟩)) (by kernel_rfl) hv34
  obtain ⟨ao34,cp34,e34,hr34⟩:=hq34
  subst e34
  obtain ⟨-,d34'⟩:=tmp_both d34
  clear hv34
  obtain ⟨v40,d40,hv40⟩:=hd 40 94 (by kernel_rfl) (by kernel_rfl)
  have hq40:PairS wz (.mk 4 zD [xr14,yr14,yr14]) (.string ⟨#[48,48,48,49]⟩) v40:=ST.get (k:=.pair (.mk 4 zD [xr14,yr14,yr14]) (.string ⟨#[48,48,48,49]⟩)) (by kernel_rfl) hv40
  obtain ⟨ao40,cp40,e40,hr40⟩:=hq40
  subst e40
  obtain ⟨-,d40'⟩:=tmp_both d40
  clear hv40
  obtain ⟨v46,d46,hv46⟩:=hd 46 100 (by kernel_rfl) (by kernel_rfl)
  have hq46:PairS wz (.mk 4 zD [yr14,yr14,xr14]) (.string ⟨#[48,49,49,49]⟩) v46:=ST.get (k:=.pair (.mk 4 zD [yr14,yr14,xr14]) (.string ⟨#[48,49,49,49]⟩)) (by kernel_rfl) hv46
  obtain ⟨ao46,cp46,e46,hr46⟩:=hq46
  subst e46
  obtain ⟨-,d46'⟩:=tmp_both d46
  clear hv46
  obtain ⟨v52,d52,hv52⟩:=hd 52 106 (by kernel_rfl) (by kernel_rfl)
  have hq52:PairS wz (.mk 5 zD [xr14,yr14,xr14]) (.string ⟨#[48,49,48,49]⟩) v52:=ST.get (k:=.pair (.mk 5 zD [xr14,yr14,xr14]) (.string ⟨#[48,49,48,49]⟩)) (by kernel_rfl) hv52
  obtain ⟨ao52,cp52,e52,hr52⟩:=hq52
  subst e52
  obtain ⟨-,d52'⟩:=tmp_both d52
  clear hv52
  obtain ⟨v58,d58,hv58⟩:=hd 58 112 (by kernel_rfl) (by kernel_rfl)
  have hq58:PairS wz (.mk 5 zD [yr14,yr14,xr14]) (.string ⟨#[48,48,48,49]⟩) v58:=ST.get (k:=.pair (.mk 5 zD [yr14,yr14,xr14]) (.string ⟨#[48,48,48,49]⟩)) (by kernel_rfl) hv58
  obtain ⟨ao58,cp58,e58,hr58⟩:=hq58
  subst e58
  obtain ⟨-,d58'⟩:=tmp_both d58
  clear hv58
  obtain ⟨v64,d64,hv64⟩:=hd 64 118 (by kernel_rfl) (by kernel_rfl)
  have hq64:PairS wz (.mk 6 zD [xr14,xr14,xr14]) (.string ⟨#[48,49,48,49]⟩) v64:=ST.get (k:=.pair (.mk 6 zD [xr14,xr14,xr14]) (.string ⟨#[48,49,48,49]⟩)) (by kernel_rfl) hv64
  obtain ⟨ao64,cp64,e64,hr64⟩:=hq64
  subst e64
  obtain ⟨-,d64'⟩:=tmp_both d64
  clear hv64
  obtain ⟨v72,d72,hv72⟩:=hd 72 126 (by kernel_rfl) (by kernel_rfl)
  have hq72:PairS wz (.mk 6 zD [(.mk 3 zD [xr14,yr14]),zr14]) (.string ⟨#[48,48,49,49]⟩) v72:=ST.get (k:=.pair (.mk 6 zD [(.mk 3 zD [xr14,yr14]),zr14]) (.string ⟨#[48,48,49,49]⟩)) (by kernel_rfl) hv72
  obtain ⟨ao72,cp72,e72,hr72⟩:=hq72
  subst e72
  obtain ⟨-,d72'⟩:=tmp_both d72
  clear hv72
  obtain ⟨v80,d80,hv80⟩:=hd 80 134 (by kernel_rfl) (by kernel_rfl)
  have hq80:PairS wz (.mk 4 zD [xr14,(.mk 2 zD [xr14,yr14])]) (.string ⟨#[49,49,49,49]⟩) v80:=ST.get (k:=.pair (.mk 4 zD [xr14,(.mk 2 zD [xr14,yr14])]) (.string ⟨#[49,49,49,49]⟩)) (by kernel_rfl) hv80
  obtain ⟨ao80,cp80,e80,hr80⟩:=hq80
  subst e80
  obtain ⟨-,d80'⟩:=tmp_both d80
  clear hv80
  obtain ⟨v82,d82,hv82⟩:=hd 82 136 (by kernel_rfl) (by kernel_rfl)
  have hq82:PairS wz nr14 (.string ⟨#[48,48,48,48]⟩) v82:=ST.get (k:=.pair nr14 (.string ⟨#[48,48,48,48]⟩)) (by kernel_rfl) hv82
  obtain ⟨ao82,cp82,e82,hr82⟩:=hq82
  subst e82
  obtain ⟨-,d82'⟩:=tmp_both d82
  clear hv82
  obtain ⟨v87,d87,hv87⟩:=hd 87 141 (by kernel_rfl) (by kernel_rfl)
  have hq87:PairS wz (.mk 5 zD [xr14,nr14]) (.string ⟨#[48,49,48,49]⟩) v87:=ST.get (k:=.pair (.mk 5 zD [xr14,nr14]) (.string ⟨#[48,49,48,49]⟩)) (by kernel_rfl) hv87
  obtain ⟨ao87,cp87,e87,hr87⟩:=hq87
  subst e87
  obtain ⟨-,d87'⟩:=tmp_both d87
  clear hv87
  obtain ⟨v89,d89,hv89⟩:=hd 89 143 (by kernel_rfl) (by kernel_rfl)
  have hq89:PairS wz (.mk 0 zD []) (.string ⟨#[48,48,48,48]⟩) v89:=ST.get (k:=.pair (.mk 0 zD []) (.string ⟨#[48,48,48,48]⟩)) (by kernel_rfl) hv89
  obtain ⟨ao89,cp89,e89,hr89⟩:=hq89
  subst e89
  obtain ⟨-,d89'⟩:=tmp_both d89
  clear hv89
  obtain ⟨v93,d93,hv93⟩:=hd 93 147 (by kernel_rfl) (by kernel_rfl)
  have hq93:PairS wz (.mk 2 zD [xr14]) (.string ⟨#[48,48,48,48]⟩) v93:=ST.get (k:=.pair (.mk 2 zD [xr14]) (.string ⟨#[48,48,48,48]⟩)) (by kernel_rfl) hv93
  obtain ⟨ao93,cp93,e93,hr93⟩:=hq93
  subst e93
  obtain ⟨-,d93'⟩:=tmp_both d93
  clear hv93
  obtain ⟨v95,d95,hv95⟩:=hd 95 149 (by kernel_rfl) (by kernel_rfl)
  have hq95:PairS wz (.mk 2 zD []) (.string ⟨#[48,48,48,48]⟩) v95:=ST.get (k:=.pair (.mk 2 zD []) (.string ⟨#[48,48,48,48]⟩)) (by kernel_rfl) hv95
  obtain ⟨ao95,cp95,e95,hr95⟩:=hq95
  subst e95
  obtain ⟨-,d95'⟩:=tmp_both d95
  clear hv95
  obtain ⟨v102,d102,hv102⟩:=hd 102 156 (by kernel_rfl) (by kernel_rfl)
  have hq102:PairS wz (.mk 4 zD [xr14,nr14,xr14,xr14]) (.string ⟨#[48,48,48,48]⟩) v102:=ST.get (k:=.pair (.mk 4 zD [xr14,nr14,xr14,xr14]) (.string ⟨#[48,48,48,48]⟩)) (by kernel_rfl) hv102
  obtain ⟨ao102,cp102,e102,hr102⟩:=hq102
  subst e102
  obtain ⟨-,d102'⟩:=tmp_both d102
  clear hv102
  obtain ⟨v104,d104,hv104⟩:=hd 104 158 (by kernel_rfl) (by kernel_rfl)
  have hq104:PairS wz (.mk 9 zD []) (.string ⟨#[48,48,48,48]⟩) v104:=ST.get (k:=.pair (.mk 9 zD []) (.string ⟨#[48,48,48,48]⟩)) (by kernel_rfl) hv104
  obtain ⟨ao104,cp104,e104,hr104⟩:=hq104
  subst e104
  obtain ⟨-,d104'⟩:=tmp_both d104
  clear hv104
  have E4:a.eval (.tmp 58)=.agg (pairA (.mk 2 zD [xr14,yr14]) (.string ⟨#[48,48,48,49]⟩) (.slice ao4 (R.args (.mk 2 zD [xr14,yr14])).length cp4)):=d4
  have E9:a.eval (.tmp 63)=.agg (pairA (.mk 3 zD [xr14,yr14]) (.string ⟨#[48,49,49,49]⟩) (.slice ao9 (R.args (.mk 3 zD [xr14,yr14])).length cp9)):=d9
  have E14:a.eval (.tmp 68)=.agg (pairA (.mk 4 zD [xr14,yr14]) (.string ⟨#[49,49,48,49]⟩) (.slice ao14 (R.args (.mk 4 zD [xr14,yr14])).length cp14)):=d14
  have E19:a.eval (.tmp 73)=.agg (pairA (.mk 5 zD [xr14,yr14]) (.string ⟨#[48,49,48,48]⟩) (.slice ao19 (R.args (.mk 5 zD [xr14,yr14])).length cp19)):=d19
  have E24:a.eval (.tmp 78)=.agg (pairA (.mk 6 zD [xr14,yr14]) (.string ⟨#[48,48,48,48]⟩) (.slice ao24 (R.args (.mk 6 zD [xr14,yr14])).length cp24)):=d24
  have E29:a.eval (.tmp 83)=.agg (pairA (.mk 7 zD [xr14,yr14]) (.string ⟨#[48,49,48,49]⟩) (.slice ao29 (R.args (.mk 7 zD [xr14,yr14])).length cp29)):=d29
  have E34:a.eval (.tmp 88)=.agg (pairA (.mk 7 zD [xr14,xr14]) (.string ⟨#[48,48,48,48]⟩) (.slice ao34 (R.args (.mk 7 zD [xr14,xr14])).length cp34)):=d34
  have E40:a.eval (.tmp 94)=.agg (pairA (.mk 4 zD [xr14,yr14,yr14]) (.string ⟨#[48,48,48,49]⟩) (.slice ao40 (R.args (.mk 4 zD [xr14,yr14,yr14])).length cp40)):=d40
  have E46:a.eval (.tmp 100)=.agg (pairA (.mk 4 zD [yr14,yr14,xr14]) (.string ⟨#[48,49,49,49]⟩) (.slice ao46 (R.args (.mk 4 zD [yr14,yr14,xr14])).length cp46)):=d46
  have E52:a.eval (.tmp 106)=.agg (pairA (.mk 5 zD [xr14,yr14,xr14]) (.string ⟨#[48,49,48,49]⟩) (.slice ao52 (R.args (.mk 5 zD [xr14,yr14,xr14])).length cp52)):=d52
  have E58:a.eval (.tmp 112)=.agg (pairA (.mk 5 zD [yr14,yr14,xr14]) (.string ⟨#[48,48,48,49]⟩) (.slice ao58 (R.args (.mk 5 zD [yr14,yr14,xr14])).length cp58)):=d58
  have E64:a.eval (.tmp 118)=.agg (pairA (.mk 6 zD [xr14,xr14,xr14]) (.string ⟨#[48,49,48,49]⟩) (.slice ao64 (R.args (.mk 6 zD [xr14,xr14,xr14])).length cp64)):=d64
  have E72:a.eval (.tmp 126)=.agg (pairA (.mk 6 zD [(.mk 3 zD [xr14,yr14]),zr14]) (.string ⟨#[48,48,49,49]⟩) (.slice ao72 (R.args (.mk 6 zD [(.mk 3 zD [xr14,yr14]),zr14])).length cp72)):=d72
  have E80:a.eval (.tmp 134)=.agg (pairA (.mk 4 zD [xr14,(.mk 2 zD [xr14,yr14])]) (.string ⟨#[49,49,49,49]⟩) (.slice ao80 (R.args (.mk 4 zD [xr14,(.mk 2 zD [xr14,yr14])])).length cp80)):=d80
  have E82:a.eval (.tmp 136)=.agg (pairA nr14 (.string ⟨#[48,48,48,48]⟩) (.slice ao82 (R.args nr14).length cp82)):=d82
  have E87:a.eval (.tmp 141)=.agg (pairA (.mk 5 zD [xr14,nr14]) (.string ⟨#[48,49,48,49]⟩) (.slice ao87 (R.args (.mk 5 zD [xr14,nr14])).length cp87)):=d87
  have E89:a.eval (.tmp 143)=.agg (pairA (.mk 0 zD []) (.string ⟨#[48,48,48,48]⟩) (.slice ao89 (R.args (.mk 0 zD [])).length cp89)):=d89
  have E93:a.eval (.tmp 147)=.agg (pairA (.mk 2 zD [xr14]) (.string ⟨#[48,48,48,48]⟩) (.slice ao93 (R.args (.mk 2 zD [xr14])).length cp93)):=d93
  have E95:a.eval (.tmp 149)=.agg (pairA (.mk 2 zD []) (.string ⟨#[48,48,48,48]⟩) (.slice ao95 (R.args (.mk 2 zD [])).length cp95)):=d95
  have E102:a.eval (.tmp 156)=.agg (pairA (.mk 4 zD [xr14,nr14,xr14,xr14]) (.string ⟨#[48,48,48,48]⟩) (.slice ao102 (R.args (.mk 4 zD [xr14,nr14,xr14,xr14])).length cp102)):=d102
  have E104:a.eval (.tmp 158)=.agg (pairA (.mk 9 zD []) (.string ⟨#[48,48,48,48]⟩) (.slice ao104 (R.args (.mk 9 zD [])).length cp104)):=d104
  clear hs hd
  refine wp_pairs14 Tryz.underlying62 info_row14 _ 21 rfl [((.mk 2 zD [xr14,yr14]),.string ⟨#[48,48,48,49]⟩,ao4,cp4),((.mk 3 zD [xr14,yr14]),.string ⟨#[48,49,49,49]⟩,ao9,cp9),((.mk 4 zD [xr14,yr14]),.string ⟨#[49,49,48,49]⟩,ao14,cp14),((.mk 5 zD [xr14,yr14]),.string ⟨#[48,49,48,48]⟩,ao19,cp19),((.mk 6 zD [xr14,yr14]),.string ⟨#[48,48,48,48]⟩,ao24,cp24),((.mk 7 zD [xr14,yr14]),.string ⟨#[48,49,48,49]⟩,ao29,cp29),((.mk 7 zD [xr14,xr14]),.string ⟨#[48,48,48,48]⟩,ao34,cp34),((.mk 4 zD [xr14,yr14,yr14]),.string ⟨#[48,48,48,49]⟩,ao40,cp40),((.mk 4 zD [yr14,yr14,xr14]),.string ⟨#[48,49,49,49]⟩,ao46,cp46),((.mk 5 zD [xr14,yr14,xr14]),.string ⟨#[48,49,48,49]⟩,ao52,cp52),((.mk 5 zD [yr14,yr14,xr14]),.string ⟨#[48,48,48,49]⟩,ao58,cp58),((.mk 6 zD [xr14,xr14,xr14]),.string ⟨#[48,49,48,49]⟩,ao64,cp64),((.mk 6 zD [(.mk 3 zD [xr14,yr14]),zr14]),.string ⟨#[48,48,49,49]⟩,ao72,cp72),((.mk 4 zD [xr14,(.mk 2 zD [xr14,yr14])]),.string ⟨#[49,49,49,49]⟩,ao80,cp80),(nr14,.string ⟨#[48,48,48,48]⟩,ao82,cp82),((.mk 5 zD [xr14,nr14]),.string ⟨#[48,49,48,49]⟩,ao87,cp87),((.mk 0 zD []),.string ⟨#[48,48,48,48]⟩,ao89,cp89),((.mk 2 zD [xr14]),.string ⟨#[48,48,48,48]⟩,ao93,cp93),((.mk 2 zD []),.string ⟨#[48,48,48,48]⟩,ao95,cp95),((.mk 4 zD [xr14,nr14,xr14,xr14]),.string ⟨#[48,48,48,48]⟩,ao102,cp102),((.mk 9 zD []),.string ⟨#[48,48,48,48]⟩,ao104,cp104)] rfl (by decide) (by decide) ?_ (hK _ _ ((Kept.refl (fun _=>False) wz).alloc _) (hC.alloc _) (fun _=>ST.mk (k:=.pairs rw14) (by kernel_rfl) (pairs_new [((.mk 2 zD [xr14,yr14]),.string ⟨#[48,48,48,49]⟩,ao4,cp4),((.mk 3 zD [xr14,yr14]),.string ⟨#[48,49,49,49]⟩,ao9,cp9),((.mk 4 zD [xr14,yr14]),.string ⟨#[49,49,48,49]⟩,ao14,cp14),((.mk 5 zD [xr14,yr14]),.string ⟨#[48,49,48,48]⟩,ao19,cp19),((.mk 6 zD [xr14,yr14]),.string ⟨#[48,48,48,48]⟩,ao24,cp24),((.mk 7 zD [xr14,yr14]),.string ⟨#[48,49,48,49]⟩,ao29,cp29),((.mk 7 zD [xr14,xr14]),.string ⟨#[48,48,48,48]⟩,ao34,cp34),((.mk 4 zD [xr14,yr14,yr14]),.string ⟨#[48,48,48,49]⟩,ao40,cp40),((.mk 4 zD [yr14,yr14,xr14]),.string ⟨#[48,49,49,49]⟩,ao46,cp46),((.mk 5 zD [xr14,yr14,xr14]),.string ⟨#[48,49,48,49]⟩,ao52,cp52),((.mk 5 zD [yr14,yr14,xr14]),.string ⟨#[48,48,48,49]⟩,ao58,cp58),((.mk 6 zD [xr14,xr14,xr14]),.string ⟨#[48,49,48,49]⟩,ao64,cp64),((.mk 6 zD [(.mk 3 zD [xr14,yr14]),zr14]),.string ⟨#[48,48,49,49]⟩,ao72,cp72),((.mk 4 zD [xr14,(.mk 2 zD [xr14,yr14])]),.string ⟨#[49,49,49,49]⟩,ao80,cp80),(nr14,.string ⟨#[48,48,48,48]⟩,ao82,cp82),((.mk 5 zD [xr14,nr14]),.string ⟨#[48,49,48,49]⟩,ao87,cp87),((.mk 0 zD []),.string ⟨#[48,48,48,48]⟩,ao89,cp89),((.mk 2 zD [xr14]),.string ⟨#[48,48,48,48]⟩,ao93,cp93),((.mk 2 zD []),.string ⟨#[48,48,48,48]⟩,ao95,cp95),((.mk 4 zD [xr14,nr14,xr14,xr14]),.string ⟨#[48,48,48,48]⟩,ao102,cp102),((.mk 9 zD []),.string ⟨#[48,48,48,48]⟩,ao104,cp104)] (by
   intro p hp
   simp only[List.mem_cons,List.not_mem_nil,or_false] at hp
   rcases hp with rfl|rfl|rfl|rfl|rfl|rfl|rfl|rfl|rfl|rfl|rfl|rfl|rfl|rfl|rfl|rfl|rfl|rfl|rfl|rfl|rfl<;>assumption))))
  rw[Array.toList_map]
  show [(0,a.eval (.tmp 58)),(1,a.eval (.tmp 63)),(2,a.eval (.tmp 68)),(3,a.eval (.tmp 73)),(4,a.eval (.tmp 78)),(5,a.eval (.tmp 83)),(6,a.eval (.tmp 88)),(7,a.eval (.tmp 94)),(8,a.eval (.tmp 100)),(9,a.eval (.tmp 106)),(10,a.eval (.tmp 112)),(11,a.eval (.tmp 118)),(12,a.eval (.tmp 126)),(13,a.eval (.tmp 134)),(14,a.eval (.tmp 136)),(15,a.eval (.tmp 141)),(16,a.eval (.tmp 143)),(17,a.eval (.tmp 147)),(18,a.eval (.tmp 149)),(19,a.eval (.tmp 156)),(20,a.eval (.tmp 158))]=_
  rw[E4,E9,E14,E19,E24,E29,E34,E40,E46,E52,E58,E64,E72,E80,E82,E87,E89,E93,E95,E102,E104]
  rfl
 case r106=>
  intro _ a wz hC _ _ _ hs hd K hK
  obtain ⟨v105,d105,hv105⟩:=hd 105 159 (by kernel_rfl) (by kernel_rfl)
  have hq105:PairsS wz v105 rw14:=ST.get (k:=.pairs rw14) (by kernel_rfl) hv105
  obtain ⟨g105,e105,-,-⟩:=hq105
  subst e105
  obtain ⟨-,d105'⟩:=tmp_both d105
  clear hv105 hs hd
  go_simp
  exact hpl14 hK hC (by kernel_rfl)
 case r107=>
  intro _ a wz hC _ _ _ hs hd K hK
  clear hs hd
  go_simp
  exact hpl14 hK hC (by kernel_rfl)
 case rend=>
  intro ls wz hall hC
  intro u54 h54
  intro u55 h55
  intro u56 h56
  intro u57 h57
  intro u58 h58
  intro u59 h59
  intro u60 h60
  intro u61 h61
  intro u62 h62
  intro u63 h63
  intro u64 h64
  intro u65 h65
  intro u66 h66
  intro u67 h67
  intro u68 h68
  intro u69 h69
  intro u70 h70
  intro u71 h71
  intro u72 h72
  intro u73 h73
  intro u74 h74
  intro u75 h75
  intro u76 h76
  intro u77 h77
  intro u78 h78
  intro u79 h79
  intro u80 h80
  intro u81 h81
  intro u82 h82
  intro u83 h83
  intro u84 h84
  intro u85 h85
  intro u86 h86
  intro u87 h87
  intro u88 h88
  intro u89 h89
  intro u90 h90
  intro u91 h91
  intro u92 h92
  intro u93 h93
  intro u94 h94
  intro u95 h95
  intro u96 h96
  intro u97 h97
  intro u98 h98
  intro u99 h99
  intro u100 h100
  intro u101 h101
  intro u102 h102
  intro u103 h103
  intro u104 h104
  intro u105 h105
  intro u106 h106
  intro u107 h107
  intro u108 h108
  intro u109 h109
  intro u110 h110
  intro u111 h111
  intro u112 h112
  intro u113 h113
  intro u114 h114
  intro u115 h115
  intro u116 h116
  intro u117 h117
  intro u118 h118
  intro u119 h119
  intro u120 h120
  intro u121 h121
  intro u122 h122
  intro u123 h123
  intro u124 h124
  intro u125 h125
  intro u126 h126
  intro u127 h127
  intro u128 h128
  intro u129 h129
  intro u130 h130
  intro u131 h131
  intro u132 h132
  intro u133 h133
  intro u134 h134
  intro u135 h135
  intro u136 h136
  intro u137 h137
  intro u138 h138
  intro u139 h139
  intro u140 h140
  intro u141 h141
  intro u142 h142
  intro u143 h143
  intro u144 h144
  intro u145 h145
  intro u146 h146
  intro u147 h147
  intro u148 h148
  intro u149 h149
  intro u150 h150
  intro u151 h151
  intro u152 h152
  intro u153 h153
  intro u154 h154
  intro u155 h155
  intro u156 h156
  intro u157 h157
  intro u158 h158
  intro u159 h159
  intro u160 h160
  intro u161 h161
  have HPP:Hid (PairsS wz u159 rw14):=Lib.hid (ST.get (k:=.pairs rw14) (by kernel_rfl) h159)
  have l160:u160=.int .i64 21:=ST.get (k:=.lit (.int .i64 21)) (by kernel_rfl) h160
  have l161:u161=.int .i64 0:=ST.get (k:=.lit (.int .i64 0)) (by kernel_rfl) h161
  subst l160
  subst l161
  clear h54 h55 h56 h57 h58 h59 h60 h61 h62 h63 h64 h65 h66 h67 h68 h69 h70 h71 h72 h73 h74 h75 h76 h77 h78 h79 h80 h81 h82 h83 h84 h85 h86 h87 h88 h89 h90 h91 h92 h93 h94 h95 h96 h97 h98 h99 h100 h101 h102 h103 h104 h105 h106 h107 h108 h109 h110 h111 h112 h113 h114 h115 h116 h117 h118 h119 h120 h121 h122 h123 h124 h125 h126 h127 h128 h129 h130 h131 h132 h133 h134 h135 h136 h137 h138 h139 h140 h141 h142 h143 h144 h145 h146 h147 h148 h149 h150 h151 h152 h153 h154 h155 h156 h157 h158 h159 h160 h161 hall
  obtain ⟨gr,er,hgr,hpr⟩:=HPP.out
  have er':u159=.slice (some ⟨gr,0,none⟩) 21 21:=er
  subst er'
  have HN:=Lib.hid (HN.out.kept hC)
  have HK:=Lib.hid (HK.out.trans hC (fun _ _ h=>h))
  have HPR:=Lib.hid (And.intro hgr hpr)
  clear hC er hgr hpr HPP
  simp only[EndsP]
  go_simp
  go_wp2_with fail
  go_loopw [161] (fun v161 wr=>∃ i:Nat,v161=.int .i64 (i:Int)∧i≤21∧Hid (Kept (fun _=>False) wz wr)) (fun v161 _=>21 - (intOf v161).toNat)
  case atStart=>exact ⟨0,rfl,Nat.zero_le _,Lib.hid (Kept.refl _ _)⟩
  case round=>
   obtain ⟨i,rfl,hi,HL⟩:=hrel
   rename World=>wr
   by_cases hlt:i<21
   · obtain ⟨p,hp⟩:∃ p,rw14[i]? =some p:=⟨_,List.getElem?_eq_getElem (show i<rw14.length from hlt)⟩
     obtain ⟨⟨k8,d8,l8⟩,q⟩:=p
     obtain ⟨hx8,b0,b1,b2,b3,rfl,q0,q1,q2,q3⟩:=rw14_at (List.mem_of_getElem? hp)
     obtain ⟨ao8,cp8,hr8,c0,c1,c2,c3,c4,c5,c6,c7⟩:=HPR.out.2 i _ _ hp
     dsimp only[R.kind,R.dep,R.args] at c0 c1 c2 c3 c4 c5 c6 c7 hr8
     have hg:=HPR.out.1
     have e0:=(HL.out.cell (p:=⟨gr,i*8,none⟩) hg (fun h=>h)).trans c0
     have e1:=(HL.out.cell (p:=⟨gr,i*8+1,none⟩) hg (fun h=>h)).trans c1
     have e2:=(HL.out.cell (p:=⟨gr,i*8+2,none⟩) hg (fun h=>h)).trans c2
     have e3:=(HL.out.cell (p:=⟨gr,i*8+3,none⟩) hg (fun h=>h)).trans c3
     have e4:=(HL.out.cell (p:=⟨gr,i*8+4,none⟩) hg (fun h=>h)).trans c4
     have e5:=(HL.out.cell (p:=⟨gr,i*8+5,none⟩) hg (fun h=>h)).trans c5
     have e6:=(HL.out.cell (p:=⟨gr,i*8+6,none⟩) hg (fun h=>h)).trans c6
     have e7:=(HL.out.cell (p:=⟨gr,i*8+7,none⟩) hg (fun h=>h)).trans c7
     have HX8:=Lib.hid hx8
     have HR8:=Lib.hid hr8
     have HQ0:=Lib.hid q0;have HQ1:=Lib.hid q1;have HQ2:=Lib.hid q2;have HQ3:=Lib.hid q3
     have hi0:(0:Int)≤(i:Int):=by omega
     have hiI:(i:Int)<21:=by omega
     clear hp hx8 hr8 c0 c1 c2 c3 c4 c5 c6 c7 hg q0 q1 q2 q3
     go_wp2_with fail
     clear e0 e1 e2 e3 e4 e5 e6 e7
     have hbc:=Box.made wr 61 #[.int .u8 (k8:Int),.string ⟨d8.name.toArray⟩,.int .u8 (d8.op:Int),.int .i64 d8.evr.epoch,.string ⟨d8.evr.ver.toArray⟩,.string ⟨d8.evr.rel.toArray⟩,.slice ao8 l8.length cp8,.string ⟨#[b0,b1,b2,b3]⟩]
     have hkc:=(Kept.refl (fun _=>False) wr).alloc (.cells #[.int .u8 (k8:Int),.string ⟨d8.name.toArray⟩,.int .u8 (d8.op:Int),.int .i64 d8.evr.epoch,.string ⟨d8.evr.ver.toArray⟩,.string ⟨d8.evr.rel.toArray⟩,.slice ao8 l8.length cp8,.string ⟨#[b0,b1,b2,b3]⟩] 61)
     have HBC:=Lib.hid hbc
     have HKY:=Lib.hid (HL.out.trans hkc (fun _ _ h=>h))
     have HRK:=Lib.hid (HL.out.trans hkc (fun _ _ h=>h))
     clear hbc hkc
     generalize wr.alloc (.cells #[.int .u8 (k8:Int),.string ⟨d8.name.toArray⟩,.int .u8 (d8.op:Int),.int .i64 d8.evr.epoch,.string ⟨d8.evr.ver.toArray⟩,.string ⟨d8.evr.rel.toArray⟩,.slice ao8 l8.length cp8,.string ⟨#[b0,b1,b2,b3]⟩] 61)=wc at HBC HKY HRK ⊢
     generalize wr.heap.size=gc at HBC ⊢
     go_loopw [11] (fun v11 wy=>∃ j:Nat,v11=.int .i64 (j:Int)∧j≤4∧Hid (Kept (fun _=>False) wc wy)) (fun v11 _=>4 - (intOf v11).toNat)
     case atStart=>exact ⟨0,rfl,Nat.zero_le _,Lib.hid (Kept.refl _ _)⟩
     case round=>
      obtain ⟨j,rfl,hj,HY⟩:=hrel
      rename World=>wy
      by_cases hlj:j<4
      · rcases (show j=0∨j=1∨j=2∨j=3 by omega) with rfl|rfl|rfl|rfl
        · have gb:=byte14 b0
          obtain ⟨bb,hbb⟩:∃ b,decide (b0=49)=b:=⟨_,rfl⟩
          have hsat:=HQ0.out
          rw[hbb] at gb hsat
          have HSB:=Lib.hid hsat
          have gb2:((((⟨#[b0,b1,b2,b3]⟩:ByteArray)[0]'(by show 0<4;decide)).toNat:Int)==49)=bb:=gb
          have gn:(bb==bb)=true:=by cases bb<;>rfl
          clear hbb hsat gb
          obtain ⟨T,F,t0,ht0,hFk,hFs⟩:=class_of wy
          have hkt0:=fun t=>HKY.out.trans (HY.out.trans (hFk t) (fun _ _ h=>h)) (fun _ _ h=>h)
          have cs:=fun t=>(show (F t).cell? ⟨s,0,none⟩=some (.slice none 0 0) from ((hkt0 t).box HN.out.st (fun h=>h)).cell 0)
          have rr:=fun t=>((HY.out.trans (hFk t) (fun _ _ h=>h)).box HBC.out (fun h=>h))
          have r0:=fun t=>(show (F t).cell? ⟨gc,0,none⟩=some (.int .u8 (k8:Int)) from (rr t).cell 0)
          have r1:=fun t=>(show (F t).cell? ⟨gc,1,none⟩=some (.string ⟨d8.name.toArray⟩) from (rr t).cell 1)
          have r2:=fun t=>(show (F t).cell? ⟨gc,2,none⟩=some (.int .u8 (d8.op:Int)) from (rr t).cell 2)
          have r3:=fun t=>(show (F t).cell? ⟨gc,3,none⟩=some (.int .i64 d8.evr.epoch) from (rr t).cell 3)
          have r4:=fun t=>(show (F t).cell? ⟨gc,4,none⟩=some (.string ⟨d8.evr.ver.toArray⟩) from (rr t).cell 4)
          have r5:=fun t=>(show (F t).cell? ⟨gc,5,none⟩=some (.string ⟨d8.evr.rel.toArray⟩) from (rr t).cell 5)
          have r6:=fun t=>(show (F t).cell? ⟨gc,6,none⟩=some (.slice ao8 l8.length cp8) from (rr t).cell 6)
          have r7:=fun t=>(show (F t).cell? ⟨gc,7,none⟩=some (.string ⟨#[b0,b1,b2,b3]⟩) from (rr t).cell 7)
          have kS:=fun t=>(show Calls Tryz.prog 16 #[.pointer (some ⟨tb,0,none⟩),.slice none 0 0,richV k8 d8 (.slice ao8 l8.length cp8)] (F t) (fun e w'=>e=.returned (.bool bb)∧Kept (fun _=>False) (F t) w') from by
           have hkt:=hkt0 t
           exact sat14_step (HN.out.kept hkt).ta (RichS.kept (HRK.out.trans (HY.out.trans (hFk t) (fun _ _ h=>h)) (fun _ _ h=>h)) _ _ HR8.out) HX8.out (nil_intsN _) (by decide) HSB.out)
          have HFS:=Lib.hid hFs
          have HFK:=Lib.hid hFk
          have hnt:Nonempty T:=⟨t0⟩
          clear hFs hFk rr hkt0
          go_wp2_with fail
          refine wp_region_class F t0 ht0 (by kernel_rfl) (by kernel_rfl) ?_
          repeat (go_big_quiet_step (first
           |(go_at_call 16;with_reducible exact class_call HFS.out (kS _))
           |fail))
          refine wpQuiet_nil ?_
          rintro _ ⟨tz,rfl⟩
          have HYZ:=Lib.hid (HY.out.trans (HFK.out tz) (fun _ _ h=>h))
          clear cs r0 r1 r2 r3 r4 r5 r6 r7 kS
          go_wp2_with fail
          go_roundw
          case rel=>exact ⟨1,by go_num,by omega,HYZ⟩
          case measure=>simp[intOf]
        · have gb:=byte14 b1
          obtain ⟨bb,hbb⟩:∃ b,decide (b1=49)=b:=⟨_,rfl⟩
          have hsat:=HQ1.out
          rw[hbb] at gb hsat
          have HSB:=Lib.hid hsat
          have gb2:((((⟨#[b0,b1,b2,b3]⟩:ByteArray)[1]'(by show 1<4;decide)).toNat:Int)==49)=bb:=gb
          have gn:(bb==bb)=true:=by cases bb<;>rfl
          clear hbb hsat gb
          obtain ⟨T,F,t0,ht0,hFk,hFs⟩:=class_of wy
          have hkt0:=fun t=>HKY.out.trans (HY.out.trans (hFk t) (fun _ _ h=>h)) (fun _ _ h=>h)
          have cs:=fun t=>(show (F t).cell? ⟨s,1,none⟩=some (.slice (some ⟨s3,0,none⟩) 1 1) from ((hkt0 t).box HN.out.st (fun h=>h)).cell 1)
          have rr:=fun t=>((HY.out.trans (hFk t) (fun _ _ h=>h)).box HBC.out (fun h=>h))
          have r0:=fun t=>(show (F t).cell? ⟨gc,0,none⟩=some (.int .u8 (k8:Int)) from (rr t).cell 0)
          have r1:=fun t=>(show (F t).cell? ⟨gc,1,none⟩=some (.string ⟨d8.name.toArray⟩) from (rr t).cell 1)
          have r2:=fun t=>(show (F t).cell? ⟨gc,2,none⟩=some (.int .u8 (d8.op:Int)) from (rr t).cell 2)
          have r3:=fun t=>(show (F t).cell? ⟨gc,3,none⟩=some (.int .i64 d8.evr.epoch) from (rr t).cell 3)
          have r4:=fun t=>(show (F t).cell? ⟨gc,4,none⟩=some (.string ⟨d8.evr.ver.toArray⟩) from (rr t).cell 4)
          have r5:=fun t=>(show (F t).cell? ⟨gc,5,none⟩=some (.string ⟨d8.evr.rel.toArray⟩) from (rr t).cell 5)
          have r6:=fun t=>(show (F t).cell? ⟨gc,6,none⟩=some (.slice ao8 l8.length cp8) from (rr t).cell 6)
          have r7:=fun t=>(show (F t).cell? ⟨gc,7,none⟩=some (.string ⟨#[b0,b1,b2,b3]⟩) from (rr t).cell 7)
          have kS:=fun t=>(show Calls Tryz.prog 16 #[.pointer (some ⟨tb,0,none⟩),.slice (some ⟨s3,0,none⟩) 1 1,richV k8 d8 (.slice ao8 l8.length cp8)] (F t) (fun e w'=>e=.returned (.bool bb)∧Kept (fun _=>False) (F t) w') from by
           have hkt:=hkt0 t
           exact sat14_step (HN.out.kept hkt).ta (RichS.kept (HRK.out.trans (HY.out.trans (hFk t) (fun _ _ h=>h)) (fun _ _ h=>h)) _ _ HR8.out) HX8.out ((HN.out.kept hkt).i1) (by decide) HSB.out)
          have HFS:=Lib.hid hFs
          have HFK:=Lib.hid hFk
          have hnt:Nonempty T:=⟨t0⟩
          clear hFs hFk rr hkt0
          go_wp2_with fail
          refine wp_region_class F t0 ht0 (by kernel_rfl) (by kernel_rfl) ?_
          repeat (go_big_quiet_step (first
           |(go_at_call 16;with_reducible exact class_call HFS.out (kS _))
           |fail))
          refine wpQuiet_nil ?_
          rintro _ ⟨tz,rfl⟩
          have HYZ:=Lib.hid (HY.out.trans (HFK.out tz) (fun _ _ h=>h))
          clear cs r0 r1 r2 r3 r4 r5 r6 r7 kS
          go_wp2_with fail
          go_roundw
          case rel=>exact ⟨2,by go_num,by omega,HYZ⟩
          case measure=>simp[intOf]
        · have gb:=byte14 b2
          obtain ⟨bb,hbb⟩:∃ b,decide (b2=49)=b:=⟨_,rfl⟩
          have hsat:=HQ2.out
          rw[hbb] at gb hsat
          have HSB:=Lib.hid hsat
          have gb2:((((⟨#[b0,b1,b2,b3]⟩:ByteArray)[2]'(by show 2<4;decide)).toNat:Int)==49)=bb:=gb
          have gn:(bb==bb)=true:=by cases bb<;>rfl
          clear hbb hsat gb
          obtain ⟨T,F,t0,ht0,hFk,hFs⟩:=class_of wy
          have hkt0:=fun t=>HKY.out.trans (HY.out.trans (hFk t) (fun _ _ h=>h)) (fun _ _ h=>h)
          have cs:=fun t=>(show (F t).cell? ⟨s,2,none⟩=some (.slice (some ⟨s2,0,none⟩) 1 1) from ((hkt0 t).box HN.out.st (fun h=>h)).cell 2)
          have rr:=fun t=>((HY.out.trans (hFk t) (fun _ _ h=>h)).box HBC.out (fun h=>h))
          have r0:=fun t=>(show (F t).cell? ⟨gc,0,none⟩=some (.int .u8 (k8:Int)) from (rr t).cell 0)
          have r1:=fun t=>(show (F t).cell? ⟨gc,1,none⟩=some (.string ⟨d8.name.toArray⟩) from (rr t).cell 1)
          have r2:=fun t=>(show (F t).cell? ⟨gc,2,none⟩=some (.int .u8 (d8.op:Int)) from (rr t).cell 2)
          have r3:=fun t=>(show (F t).cell? ⟨gc,3,none⟩=some (.int .i64 d8.evr.epoch) from (rr t).cell 3)
          have r4:=fun t=>(show (F t).cell? ⟨gc,4,none⟩=some (.string ⟨d8.evr.ver.toArray⟩) from (rr t).cell 4)
          have r5:=fun t=>(show (F t).cell? ⟨gc,5,none⟩=some (.string ⟨d8.evr.rel.toArray⟩) from (rr t).cell 5)
          have r6:=fun t=>(show (F t).cell? ⟨gc,6,none⟩=some (.slice ao8 l8.length cp8) from (rr t).cell 6)
          have r7:=fun t=>(show (F t).cell? ⟨gc,7,none⟩=some (.string ⟨#[b0,b1,b2,b3]⟩) from (rr t).cell 7)
          have kS:=fun t=>(show Calls Tryz.prog 16 #[.pointer (some ⟨tb,0,none⟩),.slice (some ⟨s2,0,none⟩) 1 1,richV k8 d8 (.slice ao8 l8.length cp8)] (F t) (fun e w'=>e=.returned (.bool bb)∧Kept (fun _=>False) (F t) w') from by
           have hkt:=hkt0 t
           exact sat14_step (HN.out.kept hkt).ta (RichS.kept (HRK.out.trans (HY.out.trans (hFk t) (fun _ _ h=>h)) (fun _ _ h=>h)) _ _ HR8.out) HX8.out ((HN.out.kept hkt).i2) (by decide) HSB.out)
          have HFS:=Lib.hid hFs
          have HFK:=Lib.hid hFk
          have hnt:Nonempty T:=⟨t0⟩
          clear hFs hFk rr hkt0
          go_wp2_with fail
          refine wp_region_class F t0 ht0 (by kernel_rfl) (by kernel_rfl) ?_
          repeat (go_big_quiet_step (first
           |(go_at_call 16;with_reducible exact class_call HFS.out (kS _))
           |fail))
          refine wpQuiet_nil ?_
          rintro _ ⟨tz,rfl⟩
          have HYZ:=Lib.hid (HY.out.trans (HFK.out tz) (fun _ _ h=>h))
          clear cs r0 r1 r2 r3 r4 r5 r6 r7 kS
          go_wp2_with fail
          go_roundw
          case rel=>exact ⟨3,by go_num,by omega,HYZ⟩
          case measure=>simp[intOf]
        · have gb:=byte14 b3
          obtain ⟨bb,hbb⟩:∃ b,decide (b3=49)=b:=⟨_,rfl⟩
          have hsat:=HQ3.out
          rw[hbb] at gb hsat
          have HSB:=Lib.hid hsat
          have gb2:((((⟨#[b0,b1,b2,b3]⟩:ByteArray)[3]'(by show 3<4;decide)).toNat:Int)==49)=bb:=gb
          have gn:(bb==bb)=true:=by cases bb<;>rfl
          clear hbb hsat gb
          obtain ⟨T,F,t0,ht0,hFk,hFs⟩:=class_of wy
          have hkt0:=fun t=>HKY.out.trans (HY.out.trans (hFk t) (fun _ _ h=>h)) (fun _ _ h=>h)
          have cs:=fun t=>(show (F t).cell? ⟨s,3,none⟩=some (.slice (some ⟨s1,0,none⟩) 2 2) from ((hkt0 t).box HN.out.st (fun h=>h)).cell 3)
          have rr:=fun t=>((HY.out.trans (hFk t) (fun _ _ h=>h)).box HBC.out (fun h=>h))
          have r0:=fun t=>(show (F t).cell? ⟨gc,0,none⟩=some (.int .u8 (k8:Int)) from (rr t).cell 0)
          have r1:=fun t=>(show (F t).cell? ⟨gc,1,none⟩=some (.string ⟨d8.name.toArray⟩) from (rr t).cell 1)
          have r2:=fun t=>(show (F t).cell? ⟨gc,2,none⟩=some (.int .u8 (d8.op:Int)) from (rr t).cell 2)
          have r3:=fun t=>(show (F t).cell? ⟨gc,3,none⟩=some (.int .i64 d8.evr.epoch) from (rr t).cell 3)
          have r4:=fun t=>(show (F t).cell? ⟨gc,4,none⟩=some (.string ⟨d8.evr.ver.toArray⟩) from (rr t).cell 4)
          have r5:=fun t=>(show (F t).cell? ⟨gc,5,none⟩=some (.string ⟨d8.evr.rel.toArray⟩) from (rr t).cell 5)
          have r6:=fun t=>(show (F t).cell? ⟨gc,6,none⟩=some (.slice ao8 l8.length cp8) from (rr t).cell 6)
          have r7:=fun t=>(show (F t).cell? ⟨gc,7,none⟩=some (.string ⟨#[b0,b1,b2,b3]⟩) from (rr t).cell 7)
          have kS:=fun t=>(show Calls Tryz.prog 16 #[.pointer (some ⟨tb,0,none⟩),.slice (some ⟨s1,0,none⟩) 2 2,richV k8 d8 (.slice ao8 l8.length cp8)] (F t) (fun e w'=>e=.returned (.bool bb)∧Kept (fun _=>False) (F t) w') from by
           have hkt:=hkt0 t
           exact sat14_step (HN.out.kept hkt).ta (RichS.kept (HRK.out.trans (HY.out.trans (hFk t) (fun _ _ h=>h)) (fun _ _ h=>h)) _ _ HR8.out) HX8.out ((HN.out.kept hkt).i3) (by decide) HSB.out)
          have HFS:=Lib.hid hFs
          have HFK:=Lib.hid hFk
          have hnt:Nonempty T:=⟨t0⟩
          clear hFs hFk rr hkt0
          go_wp2_with fail
          refine wp_region_class F t0 ht0 (by kernel_rfl) (by kernel_rfl) ?_
          repeat (go_big_quiet_step (first
           |(go_at_call 16;with_reducible exact class_call HFS.out (kS _))
           |fail))
          refine wpQuiet_nil ?_
          rintro _ ⟨tz,rfl⟩
          have HYZ:=Lib.hid (HY.out.trans (HFK.out tz) (fun _ _ h=>h))
          clear cs r0 r1 r2 r3 r4 r5 r6 r7 kS
          go_wp2_with fail
          go_roundw
          case rel=>exact ⟨4,by go_num,by omega,HYZ⟩
          case measure=>simp[intOf]
      · obtain rfl:j=4:=by omega
        have HLZ:=Lib.hid (HKY.out.trans HY.out (fun _ _ h=>h))
        clear hlj hj
        go_wp2_with fail
        go_roundw
        case rel=>exact ⟨i+1,by go_num,by omega,HLZ⟩
        case measure=>simp[intOf];omega
   · obtain rfl:i=21:=by omega
     have HN:=Lib.hid (HN.out.kept HL.out)
     have HK:=Lib.hid (HK.out.trans HL.out (fun _ _ h=>h))
     clear hlt hi
     have hka:=(Kept.refl (fun _=>False) wr).alloc (.cells #[.int .i64 (-1),.int .i64 5,.int .i64 0,.int .i64 0] 3)
     have HI:=Lib.hid (ints_lit14 (n:=4) [(-1),5,0,0] (Box.made wr 3 #[.int .i64 (-1),.int .i64 5,.int .i64 0,.int .i64 0]) rfl rfl)
     have HN:=Lib.hid (HN.out.kept hka)
     have HK:=Lib.hid (HK.out.trans hka (fun _ _ h=>h))
     clear hka
     obtain ⟨x0,x1,x2,x3,x4,x5,x6⟩:=box7_14 HN.out.x
     obtain ⟨y0,y1,y2,y3,y4,y5,y6⟩:=box7_14 HN.out.y
     go_wp2_with fail
     clear x0 x1 x2 x3 x4 x5 x6 y0 y1 y2 y3 y4 y5 y6
     refine (sat14_step (b:=true) HN.out.ta (ra14 _ [120]) (ina14 _ (by decide)) HI.out (by decide) (by decide +kernel)).mono ?_
     rintro e v1 ⟨rfl,hk⟩
     have HN:=Lib.hid (HN.out.kept hk)
     have HK:=Lib.hid (HK.out.trans hk (fun _ _ h=>h))
     clear hk HI
     have hka:=(Kept.refl (fun _=>False) v1).alloc (.cells #[.int .i64 0,.int .i64 0] 3)
     have HI:=Lib.hid (ints_lit14 (n:=2) [0,0] (Box.made v1 3 #[.int .i64 0,.int .i64 0]) rfl rfl)
     have HN:=Lib.hid (HN.out.kept hka)
     have HK:=Lib.hid (HK.out.trans hka (fun _ _ h=>h))
     clear hka
     obtain ⟨x0,x1,x2,x3,x4,x5,x6⟩:=box7_14 HN.out.x
     obtain ⟨y0,y1,y2,y3,y4,y5,y6⟩:=box7_14 HN.out.y
     go_wp2_with fail
     clear x0 x1 x2 x3 x4 x5 x6 y0 y1 y2 y3 y4 y5 y6
     refine (wout14_step (b:=false) (n:=0) HN.out.ta (ra14 _ [120]) (ina14 _ (by decide)) HI.out (by decide) (by decide +kernel)).mono ?_
     rintro e v2 ⟨rfl,hk⟩
     have HN:=Lib.hid (HN.out.kept hk)
     have HK:=Lib.hid (HK.out.trans hk (fun _ _ h=>h))
     clear hk HI
     have hka:=(Kept.refl (fun _=>False) v2).alloc (.cells #[.int .i64 0] 3)
     have HI:=Lib.hid (ints_lit14 (n:=1) [0] (Box.made v2 3 #[.int .i64 0]) rfl rfl)
     have HN:=Lib.hid (HN.out.kept hka)
     have HK:=Lib.hid (HK.out.trans hka (fun _ _ h=>h))
     clear hka
     obtain ⟨x0,x1,x2,x3,x4,x5,x6⟩:=box7_14 HN.out.x
     obtain ⟨y0,y1,y2,y3,y4,y5,y6⟩:=box7_14 HN.out.y
     go_wp2_with fail
     clear x0 x1 x2 x3 x4 x5 x6 y0 y1 y2 y3 y4 y5 y6
     refine (wout14_step (b:=true) (n:=1) HN.out.ta (ra14 _ [120]) (ina14 _ (by decide)) HI.out (by decide) (by decide +kernel)).mono ?_
     rintro e v3 ⟨rfl,hk⟩
     have HN:=Lib.hid (HN.out.kept hk)
     have HK:=Lib.hid (HK.out.trans hk (fun _ _ h=>h))
     clear hk HI
     have hka:=(Kept.refl (fun _=>False) v3).alloc (.cells #[.int .i64 0] 3)
     have HI:=Lib.hid (ints_lit14 (n:=1) [0] (Box.made v3 3 #[.int .i64 0]) rfl rfl)
     have HN:=Lib.hid (HN.out.kept hka)
     have HK:=Lib.hid (HK.out.trans hka (fun _ _ h=>h))
     clear hka
     obtain ⟨x0,x1,x2,x3,x4,x5,x6⟩:=box7_14 HN.out.x
     obtain ⟨y0,y1,y2,y3,y4,y5,y6⟩:=box7_14 HN.out.y
     go_wp2_with fail
     clear x0 x1 x2 x3 x4 x5 x6 y0 y1 y2 y3 y4 y5 y6
     refine (wout14_step (b:=true) (n:= -1) HN.out.ta (ra14 _ [120]) (ina14 _ (by decide)) HI.out (by decide) (by decide +kernel)).mono ?_
     rintro e v4 ⟨rfl,hk⟩
     have HN:=Lib.hid (HN.out.kept hk)
     have HK:=Lib.hid (HK.out.trans hk (fun _ _ h=>h))
     clear hk HI
     obtain ⟨x0,x1,x2,x3,x4,x5,x6⟩:=box7_14 HN.out.x
     obtain ⟨y0,y1,y2,y3,y4,y5,y6⟩:=box7_14 HN.out.y
     go_wp2_with fail
     clear x0 x1 x2 x3 x4 x5 x6 y0 y1 y2 y3 y4 y5 y6
     refine (alone14_step (b:=false) (n:=2) HN.out.ta (ra14 _ [120]) (ina14 _ (by decide)) (by decide +kernel)).mono ?_
     rintro e v5 ⟨rfl,hk⟩
     have HN:=Lib.hid (HN.out.kept hk)
     have HK:=Lib.hid (HK.out.trans hk (fun _ _ h=>h))
     clear hk
     have hka:=(Kept.refl (fun _=>False) v5).alloc (.cells #[.int .u8 1,.string ⟨#[120]⟩,.int .u8 0,.int .i64 0,.string ⟨#[]⟩,.string ⟨#[]⟩,.slice none 0 0,.int .u8 1,.string ⟨#[121]⟩,.int .u8 0,.int .i64 0,.string ⟨#[]⟩,.string ⟨#[]⟩,.slice none 0 0] 31)
     have HX:=Lib.hid (rich_lit (k:=4) (d:=zD) (e:=31) [((xr14,none,0):Pc),((yr14,none,0):Pc)] (Box.made v5 31 #[.int .u8 1,.string ⟨#[120]⟩,.int .u8 0,.int .i64 0,.string ⟨#[]⟩,.string ⟨#[]⟩,.slice none 0 0,.int .u8 1,.string ⟨#[121]⟩,.int .u8 0,.int .i64 0,.string ⟨#[]⟩,.string ⟨#[]⟩,.slice none 0 0]) (by decide) (by decide) (by
      intro p hp
      simp only[List.mem_cons,List.not_mem_nil,or_false] at hp
      rcases hp with rfl|rfl<;>exact richS_nil (by decide) (by decide)))
     obtain ⟨x0,x1,x2,x3,x4,x5,x6⟩:=box7_14 HN.out.x
     obtain ⟨y0,y1,y2,y3,y4,y5,y6⟩:=box7_14 HN.out.y
     go_wp2_with fail
     clear x0 x1 x2 x3 x4 x5 x6 y0 y1 y2 y3 y4 y5 y6
     have HN:=Lib.hid (HN.out.kept hka)
     have HK:=Lib.hid (HK.out.trans hka (fun _ _ h=>h))
     clear hka
     refine (of14_walk 4 _ _ _ _).mono ?_
     rintro e v6 ⟨rfl,hk⟩
     have HN:=Lib.hid (HN.out.kept hk)
     have HK:=Lib.hid (HK.out.trans hk (fun _ _ h=>h))
     have HX:=Lib.hid (RichS.kept hk _ _ HX.out)
     clear hk
     go_wp2_with fail
     refine (alone14_step (b:=false) (n:= -1) HN.out.ta HX.out (show InX (.mk 4 zD [xr14,yr14]) from ⟨by simp[smallX,smallL,zD,zeroD],by simp[fitsX,fitsL,zD,zeroD],by decide +kernel⟩) (by decide +kernel)).mono ?_
     rintro e v7 ⟨rfl,hk⟩
     have HN:=Lib.hid (HN.out.kept hk)
     have HK:=Lib.hid (HK.out.trans hk (fun _ _ h=>h))
     clear hk HX
     have hka:=(Kept.refl (fun _=>False) v7).alloc (.cells #[.int .u8 1,.string ⟨#[120]⟩,.int .u8 0,.int .i64 0,.string ⟨#[]⟩,.string ⟨#[]⟩,.slice none 0 0,.int .u8 1,.string ⟨#[120]⟩,.int .u8 0,.int .i64 0,.string ⟨#[]⟩,.string ⟨#[]⟩,.slice none 0 0] 31)
     have HX:=Lib.hid (rich_lit (k:=4) (d:=zD) (e:=31) [((xr14,none,0):Pc),((xr14,none,0):Pc)] (Box.made v7 31 #[.int .u8 1,.string ⟨#[120]⟩,.int .u8 0,.int .i64 0,.string ⟨#[]⟩,.string ⟨#[]⟩,.slice none 0 0,.int .u8 1,.string ⟨#[120]⟩,.int .u8 0,.int .i64 0,.string ⟨#[]⟩,.string ⟨#[]⟩,.slice none 0 0]) (by decide) (by decide) (by
      intro p hp
      simp only[List.mem_cons,List.not_mem_nil,or_false] at hp
      rcases hp with rfl|rfl<;>exact richS_nil (by decide) (by decide)))
     obtain ⟨x0,x1,x2,x3,x4,x5,x6⟩:=box7_14 HN.out.x
     obtain ⟨y0,y1,y2,y3,y4,y5,y6⟩:=box7_14 HN.out.y
     go_wp2_with fail
     clear x0 x1 x2 x3 x4 x5 x6 y0 y1 y2 y3 y4 y5 y6
     have HN:=Lib.hid (HN.out.kept hka)
     have HK:=Lib.hid (HK.out.trans hka (fun _ _ h=>h))
     clear hka
     refine (of14_walk 4 _ _ _ _).mono ?_
     rintro e v8 ⟨rfl,hk⟩
     have HN:=Lib.hid (HN.out.kept hk)
     have HK:=Lib.hid (HK.out.trans hk (fun _ _ h=>h))
     have HX:=Lib.hid (RichS.kept hk _ _ HX.out)
     clear hk
     go_wp2_with fail
     refine (alone14_step (b:=true) (n:=1) HN.out.ta HX.out (show InX (.mk 4 zD [xr14,xr14]) from ⟨by simp[smallX,smallL,zD,zeroD],by simp[fitsX,fitsL,zD,zeroD],by decide +kernel⟩) (by decide +kernel)).mono ?_
     rintro e v9 ⟨rfl,hk⟩
     have HN:=Lib.hid (HN.out.kept hk)
     have HK:=Lib.hid (HK.out.trans hk (fun _ _ h=>h))
     clear hk HX
     go_wp2_with fail
     refine (awake14_walk _ (HW.out.kept HK.out)).mono ?_
     rintro e v10 ⟨rfl,hk⟩
     have HK:=Lib.hid (HK.out.trans hk (fun _ _ h=>h))
     clear hk
     go_wp2_with fail
     go_ret
     exact ⟨rfl,HK.out⟩
end Go.Proofs.YtapnddagongljaaGreatDoor
