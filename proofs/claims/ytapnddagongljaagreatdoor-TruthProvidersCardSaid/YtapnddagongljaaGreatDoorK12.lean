/-
  The texts RegRound, AppKit, InvRound, Evr3d, LawRow3, Law5, LexKit. Conditions: as each theorem states.
-/
import Derived.Sort.QuietThIn
import Derived.Test.YtapnddagongljaaGreatDoorRows
import Derived.Maps.AppendAt
import Derived.WalkKit
import Derived.Test.YtapnddagongljaaGreatDoorK08
import Derived.LaidMore
import Derived.LaidLaws
import Derived.Lay
import Derived.LaidOnce
import Derived.Handed
import Derived.Stop.Joined
import Derived.Test.YtapnddagongljaaGreatDoorK07
import Derived.LaidSub
import Derived.MakeChecks
import Derived.Handy
import Derived.Lib.Hide
set_option maxRecDepth 100000
set_option maxHeartbeats 16000000
namespace Go.Proofs.YtapnddagongljaaGreatDoor
section
open Go.RowKit
def plainB (ops:Array Oper):Bool:=ops.all fun o=>match o.op with| .defer _=>false| _=>true
theorem plain_spec {ops:Array Oper} (h:plainB ops=true) {i:Nat} {o:Oper} (ho:ops[i]? =some o):∀ c,o.op≠.defer c:=by
 intro c hc
 have h1:=Array.all_eq_true_iff_forall_mem.1 h o (Array.mem_of_getElem? ho)
 rw[hc] at h1
 cases h1
section
variable {F:Fence} {n l:Nat} {P:Program} {md:Region.Mode} {ops:Array Oper} {Q:Exit→Act→World→Prop}
theorem wpIn_round {o:Oper} {a:Act} {w:World} {K:Act→World→Prop} (hd:∀ c,o.op≠.defer c) (h:o.wpIn F n P a w K Q):o.wpIn (F.inRound l) n P a w K Q:=by
 unfold Oper.wpIn at*
 refine ⟨h.1,?_⟩
 have h2:=h.2
 rw[Oper.semAt_eq _ _ _ hd] at h2 ⊢
 generalize (execOp a.eval o).run P w=r at*
 cases r with
 |ok x w'=>cases x<;>exact h2
 |halt x w'=>cases x<;>exact h2
theorem wpAnyIn_round (hd:plainB ops=true):∀ (fuel:Nat) (listed:Array Bool) (a:Act) (w:World),wpAnyIn F n P md ops Q fuel listed a w→wpAnyIn (F.inRound l) n P md ops Q fuel listed a w:=by
 intro fuel
 induction fuel with
 |zero=>intro listed a w h;exact h
 |succ fuel ih=>
  intro listed a w h
  refine ⟨h.1,fun i hi=>?_⟩
  have h1:=wpOpIn_mono (fun a w=>ih _ a w) (h.2 i hi)
  unfold wpOpIn at h1 ⊢
  cases ho:ops[i]? with
  |none=>simp only[ho] at h1 ⊢;exact h1
  |some o=>
   simp only[ho] at h1 ⊢
   split
   · rename_i hw
     rw[if_pos hw] at h1
     exact wpIn_round (plain_spec hd ho) h1
   · rename_i hw
     rw[if_neg hw] at h1
     exact h1
end
section
variable {n l:Nat} {P:Program} {ops:Array Oper} {C:World→Prop} {Q:Act→Prop}
theorem quietIn_of {o:Oper} {a:Act} {K:Act→Prop} (h:o.quiet P a C K):o.quietIn Fence.wide n P a C K:=by
 obtain ⟨v,h1,h2⟩:=h
 refine ⟨v,fun w hw=>?_,h2⟩
 have h3:=h1 w hw
 unfold Oper.quietAtIn
 unfold Oper.quietAt at h3
 generalize (execOp a.eval o).run P w=r at*
 cases r with
 |ok x w'=>
  cases x with
  |enter f args=>exact ⟨h3.1,fun h=>absurd h (by decide),callsIn_wide.2 h3.2⟩
  | _=>exact h3
 |halt x w'=>cases x<;>exact h3
theorem wpQuietIn_of:∀ (l:List Oper) (a:Act),wpQuiet P ops C Q l a→wpQuietIn Fence.wide n P ops C Q l a
 | [],_,h=>h
 |o::l,a,h=>by
  refine ⟨fun _ _ _ _=>trivial,?_⟩
  unfold wpQuiet at h
  split
  · rename_i hw
    rw[if_pos hw] at h
    exact quietIn_of (by
     obtain ⟨v,h1,h2⟩:=h
     exact ⟨v,h1,wpQuietIn_of l _ h2⟩)
  · rename_i hw
    rw[if_neg hw] at h
    exact wpQuietIn_of l _ h
end
theorem wp_region_round {P:Program} {n l id:Nat} {Q:Exit→Act→World→Prop} {a:Act} {w:World} {os:List Oper} {T:Type} (F:T→World) (t0:T) (h0:F t0=w.drew) (hm:P.follows .mixedOrders=true) (hd:plainB os.toArray=true) (hB:Region.lexB .any os.toArray=true)
  (h:wpQuiet P os.toArray (fun w'=>∃ n,w'=F n) (fun a'=>∀ w',(∃ n,w'=F n)→Q .normal a' w') os a):(Code.region id os.toArray true).wpIn (Fence.wide.inRound l) n P Q a w:=by
 have hB':=hB
 simp only[Region.lexB,Bool.and_eq_true] at hB'
 refine wpIn_region_any hm (wpAnyIn_round hd _ _ _ _ (wpAnyIn_of_quiet (C:=fun w'=>∃ n,w'=F n) (Q:=fun a'=>∀ w',(∃ n,w'=F n)→Q .normal a' w') rfl (fun _ w' hw' h=>h w' hw') _ _ _ _ ⟨t0,h0.symm⟩ ?_))
 have:=wpAnyQIn_lex (F:=Fence.wide) (n:=n) (C:=fun w'=>∃ n,w'=F n) (md:=.any) hB'.1 os 0 (Array.replicate os.toArray.size false) a (by simp) (by simpa using hB'.2) (wpQuietIn_of os a h)
 simpa using this
end
section
open Go.RowKit
section
variable {P:Program} {w:World}
theorem run_append_src (base:Nat) (t ty e:TypeId) (i:TypeInfo) (z:Value) (size bytes:Nat) (ht:P.underlying t=some (.slice e)) (hi:P.info? e=some i) (hz:i.zero=some z)
  (hsize:i.size=size) (hby:i.bytes=bytes) (hzs:z.cells.size=size) (hsz:0<size)
  (v:Value) (n:Nat) (xs:List Value) (hown:w.ownsRow base e size v n xs)
  (ao:Option Addr) (m c:Nat) (news:List Value) (hnil:ao=none→m=0∧c=0) (hl:news.length=m*size) (hnews:∀ j u,news[j]? =some u→∃ ad,ao=some ad∧w.cell? (ad.add j)=some u) (h1:∀ u∈news,u.oneCell'=true)
  (h63:n+m≤maxLen) (hbytes:(n+m)*bytes≤140737488355328) (hbase:base≤w.heap.size):
  ∃ v' w',(Builtin.append_ #[t,t] ty #[v,.slice ao m c]).run P w=.ok v' w'∧w'.ownsRow base e size v' (n+m) (xs++news)∧w.grownBy w' v.ownBlock∧(v'.ownBlock=v.ownBlock∨v'.ownBlock=some w.heap.size):=by
 cases ao with
 |some ad=>
  obtain ⟨v',w',hr,h2,h3,_,h5⟩:=run_append_own_at (P:=P) w base t ty e i z size bytes ht hi hz hsize hby hzs hsz v n xs hown ad m c news hl (fun j u hj=>by
   obtain ⟨ad',e1,h⟩:=hnews j u hj
   injection e1 with e1
   subst e1
   exact h) h1 h63 hbytes hbase
  exact ⟨v',w',hr,h2,h3,h5⟩
 |none=>
  obtain ⟨rfl,rfl⟩:=hnil rfl
  have hn:news= []:=List.eq_nil_of_length_eq_zero (by simpa using hl)
  subst hn
  refine ⟨v,w,run_append_owned_none (P:=P) (w:=w) base t ty e i size ht hi v n xs hown,by simpa using hown,World.grownBy.refl _ _,.inl rfl⟩
theorem wp_append_src {o:Oper} {a:Act} {K:Act→World→Prop} {Q:Exit→Act→World→Prop} (s x:Operand) (t:TypeId)
  (ho:o.op=.call { callee:=.builtin .append,args:=#[s,x],argTypes:=#[t,t] })
  (wr:World) (hkr:Kept (fun _=>False) wr w) (e:TypeId) (i:TypeInfo) (z:Value) (size bytes:Nat) (ht:P.underlying t=some (.slice e)) (hi:P.info? e=some i) (hz:i.zero=some z)
  (hsize:i.size=size) (hby:i.bytes=bytes) (hzs:z.cells.size=size) (hsz:0<size)
  (v:Value) (n:Nat) (xs:List Value) (hs:a.eval s=v) (hown:w.ownsRow wr.heap.size e size v n xs)
  (ao:Option Addr) (m c:Nat) (news:List Value) (hx:a.eval x=.slice ao m c) (hnil:ao=none→m=0∧c=0) (hl:news.length=m*size) (hnews:∀ j u,news[j]? =some u→∃ ad,ao=some ad∧w.cell? (ad.add j)=some u) (h1:∀ u∈news,u.oneCell'=true)
  (h63:n+m≤maxLen) (hbytes:(n+m)*bytes≤140737488355328)
  (h:∀ v' w',w'.ownsRow wr.heap.size e size v' (n+m) (xs++news)→Kept (fun _=>False) wr w'→w.grownBy w' v.ownBlock→K (a.put o.dst v') w'):o.wp P a w K Q:=by
 obtain ⟨v',w',hr,h2,h3,h4⟩:=run_append_src (P:=P) (w:=w) wr.heap.size t o.type e i z size bytes ht hi hz hsize hby hzs hsz v n xs hown ao m c news hnil hl hnews h1 h63 hbytes hkr.size
 unfold Oper.wp execOp
 simp only[ho,resolve,invoke,builtin,Sem.run_bind,Sem.run_pure,Result.andThen_ok,List.map_toArray,List.map_cons,List.map_nil,hs,hx,hr]
 exact h v' w' h2 (hkr.grown h3 (fun j hj=>.inr (hown.lt j hj).1)) h3
end
theorem info_str:(Tryz.prog.info? 9).map (fun i=>(i.zero,i.size,i.bytes))=some (some (.string ⟨#[]⟩),1,16):=by kernel_rfl
theorem cellsS_one (a:List ByteArray):∀ u∈cellsS a,u.oneCell'=true:=by
 intro u hu
 obtain ⟨_,_,rfl⟩:=List.mem_map.1 hu
 rfl
theorem wpList_append_src {P:Program} {w:World} {ops:Array Oper} {rest:List Oper} {o:Oper} {a:Act} {Q:Exit→Act→World→Prop} (hgd:o.guard=none) (s x:Operand) (t:TypeId)
  (ho:o.op=.call { callee:=.builtin .append,args:=#[s,x],argTypes:=#[t,t] })
  (base:Nat) (e:TypeId) (i:TypeInfo) (z:Value) (size bytes:Nat) (ht:P.underlying t=some (.slice e)) (hi:P.info? e=some i) (hz:i.zero=some z)
  (hsize:i.size=size) (hby:i.bytes=bytes) (hzs:z.cells.size=size) (hsz:0<size)
  (v:Value) (n:Nat) (xs:List Value) (hs:a.eval s=v) (hown:w.ownsRow base e size v n xs)
  (ao:Option Addr) (m c:Nat) (news:List Value) (hx:a.eval x=.slice ao m c) (hnil:ao=none→m=0∧c=0) (hl:news.length=m*size) (hnews:∀ j u,news[j]? =some u→∃ ad,ao=some ad∧w.cell? (ad.add j)=some u) (h1:∀ u∈news,u.oneCell'=true)
  (h63:n+m≤maxLen) (hbytes:(n+m)*bytes≤140737488355328) (hbase:base≤w.heap.size)
  (h:∀ v' w',w'.ownsRow base e size v' (n+m) (xs++news)→w.grownBy w' v.ownBlock→(v'.ownBlock=v.ownBlock∨v'.ownBlock=some w.heap.size)→wpList P ops Q rest (a.put o.dst v') w'):
  wpList P ops Q (o::rest) a w:=by
 refine wpList_plain hgd fun K hK=>?_
 obtain ⟨v',w',hr,h2,h3,h4⟩:=run_append_src (P:=P) (w:=w) base t o.type e i z size bytes ht hi hz hsize hby hzs hsz v n xs hown ao m c news hnil hl hnews h1 h63 hbytes hbase
 unfold Oper.wp execOp
 simp only[ho,resolve,invoke,builtin,Sem.run_bind,Sem.run_pure,Result.andThen_ok,List.map_toArray,List.map_cons,List.map_nil,hs,hx,hr]
 exact hK _ _ (h v' w' h2 h3 h4)
end
section
open Go.RowKit
section
variable {n:Nat} {P:Program} {ops:Array Oper} {md:Region.Mode} {Q:Exit→Act→World→Prop}
end
end
section
open Go.RowKit Ver Evr
end
section
open Go.ChangeShapes Go.WideShapes Go.ChangeAt Go.RowKit
theorem kept_below {w w':World} {P:Prop} (h:P∧Kept (fun _=>False) w w'):P∧Below w.heap.size w w':=⟨h.1,h.2.below (Nat.le_refl _) (fun _ h=>h.elim)⟩
section
variable {H:Type} {enc:TypeId×Value→H}
theorem law_lift_all (L:List (String×DataW Unit)) (os:Os) (started:os.Started) (f:FuncId) (fn:Func) (s:ChangeSpec) (noInit:Tryz.prog.inits.idxOf? f=none) (hfn:Tryz.prog.funcs[f]? =some fn) (hvars:s.vars= [])
  (hread:∀ t∈fn.params.toList,Tryz.prog.readableRec t=true∧t<Tryz.prog.types.size) (hres:fn.resultTypes=#[4])
  (hs:∀ (ds:List (DataW H)) (vs:List Value) (W:World) (p:List MemPlace),DataW.TrodAll enc Tryz.prog W 0 (fun _=>true) true fn.params.toList vs ds p→s.fn H (ds++ [])= { results:= [.lit (.bool true)],args:=ds })
  (witness:∃ (w:World) (tape:Tape) (i:Input),w.os=os∧(w.forCall tape i).Shaped Tryz.checked.prog∧i.vars= []∧Input.okWide Tryz.checked.prog (w.forCall tape i) .any w.heap.size f i∧
    ((s.pre enc Tryz.checked.prog fn [] false (w.forCall tape i).memory i.args∧laidMetH Tryz.checked.prog L (w.forCall tape i).memory)∧sizedMet enc Tryz.checked.prog fn (OpenSpec.ofChange s) false (w.forCall tape i).memory i.args)∧({}:Assume).holds Tryz.checked.prog (lone (Frame.enter Tryz.checked.prog f i.args .normal) [] (w.forCall tape i)))
  (walk:∀ (W:World) (base:Nat) (args:Array Value) (ds:List (DataW H)) (p:List MemPlace),laidMetH Tryz.prog L W→
    (∀ (j:Nat) t v,fn.params[j]? =some t→args[j]? =some v→Value.okWide Tryz.prog W .any base t v)→
    DataW.TrodAll enc Tryz.prog W 0 (fun _=>true) true fn.params.toList args.toList ds p→
    (DataW.weightsEach Tryz.prog (fn.params.toList++s.plain.varTypes Tryz.prog) (ds++ [])).all (· ≤reachBytes)=true→
    Calls Tryz.prog f args W fun e W'=>e=.returned (.bool true)∧Below W.heap.size W W'):
  ReturnsInHanded {} Tryz.checked os f .any (fun w args=>(s.pre enc Tryz.prog fn [] false w args∧laidMetH Tryz.prog L w)∧sizedMet enc Tryz.prog fn (OpenSpec.ofChange s) false w args) (s.post enc Tryz.prog fn false true false false):=by
 refine returnsInHanded_of_change_and (C:=Tryz.checked) (X:=fun w _=>laidMetH Tryz.prog L w) (fun _ _ _ hh h=>h.of_heap hh) own_ started noInit hfn witness ?_
 intro W base args ds gs before hval0 hW _ hsz hlaid _
 have hW':=hW
 obtain ⟨p,q,hA,hV,rfl,hfz,hnd⟩:=hW
 rw[hvars] at hV
 obtain ⟨rfl,rfl⟩:=trodVars_none hV
 refine (walk W base args ds p hlaid hval0 hA hsz).mono fun e W' ⟨he,bel⟩=>?_
 subst he
 have e1:=hs ds _ W p hA
 simp only[List.append_nil] at hW'
 refine ⟨_,rfl,ds,[],p,[],p,[],hW',?_,?_,?_,bel.frame _,fun h=>by cases h⟩
 · have e2:=e1
   simp only[List.append_nil] at e2 ⊢
   rw[e2,hres]
   exact trodAll_mk1 (shut_bool Tryz.underlying4 _)
 · have e2:=e1
   simp only[List.append_nil] at e2 ⊢
   rw[e2]
   exact trodAll_later bel _ _ _ _ hread hA
 · have e2:=e1
   simp only[List.append_nil] at e2 ⊢
   rw[e2,hvars]
   rfl
end
end
section
open Go.ChangeShapes Go.WideShapes Go.ChangeAt Go.RowKit Arch
theorem nm_cells:flatC Tryz.prog 3 177 (Rows.laid_chandlery_arch_names:DataW Unit)=some ((List.range 5).map fun i=>.string (nameB i)):=by kernel_rfl
theorem namesW_of {W:World} {L:List (String×DataW Unit)} (h:laidMetH Tryz.prog L W) (hp:(L.filter fun x=>x.1== "chandlery/arch.names")= [("chandlery/arch.names",Rows.laid_chandlery_arch_names)]) (hq:laidMetH Tryz.prog L W=laidMet Tryz.prog L W):NamesW W:=by
 rw[hq] at h
 have h1:=h.filter (fun x=>x.1== "chandlery/arch.names")
 rw[hp] at h1
 refine ⟨fun i hi=>?_⟩
 rw[laid_cells 3 (show Tryz.prog.globalNamed "chandlery/arch.names" =some 3 by kernel_rfl) (show (Tryz.prog.globals[3]?).map (·.type)=some 177 by kernel_rfl) nm_cells h1 i]
 simp[hi]
end
section
open Go.RowKit Lex
def WdS (w:World) (v:Value) (ws:List Wd):Prop:=∃ ao cp,v=.slice ao ws.length cp∧∀ (j:Nat) p,ws[j]? =some p→∃ g,ao=some ⟨g,0,none⟩∧w.cell? ⟨g,j*2,none⟩=some (.string ⟨p.1.toArray⟩)∧w.cell? ⟨g,j*2+1,none⟩=some (.int .i64 (p.2:Int))∧g<w.heap.size
theorem WdS.kept {w w':World} {v:Value} {ws:List Wd} (h:WdS w v ws) (hk:Kept (fun _=>False) w w'):WdS w' v ws:=by
 obtain ⟨ao,cp,e,h⟩:=h
 refine ⟨ao,cp,e,fun j p hj=>?_⟩
 obtain ⟨g,e1,c0,c1,hl⟩:=h j p hj
 exact ⟨g,e1,(hk.cell (p:=⟨g,j*2,none⟩) hl (fun h=>h)).trans c0,(hk.cell (p:=⟨g,j*2+1,none⟩) hl (fun h=>h)).trans c1,Nat.lt_of_lt_of_le hl hk.size⟩
def IntS (w:World) (v:Value) (zs:List Int):Prop:=∃ ao cp,v=.slice ao zs.length cp∧∀ j z,zs[j]? =some z→∃ a:Addr,ao=some a∧w.cell? (a.add j)=some (.int .i64 z)∧a.block<w.heap.size
theorem IntS.kept {w w':World} {v:Value} {zs:List Int} (h:IntS w v zs) (hk:Kept (fun _=>False) w w'):IntS w' v zs:=by
 obtain ⟨ao,cp,e,h⟩:=h
 refine ⟨ao,cp,e,fun j z hj=>?_⟩
 obtain ⟨a,e1,c0,hl⟩:=h j z hj
 exact ⟨a,e1,(hk.cell (p:=a.add j) (by rw[add_block];exact hl) (fun h=>h)).trans c0,Nat.lt_of_lt_of_le hl hk.size⟩
end
end Go.Proofs.YtapnddagongljaaGreatDoor
