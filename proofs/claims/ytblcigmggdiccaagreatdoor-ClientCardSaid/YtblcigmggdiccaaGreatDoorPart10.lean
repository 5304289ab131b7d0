/- Several texts in one: TamePre, LoneLock, TameStop, TameShutY, TameBorn, TameSeat, TameNewA, LoneShard. -/
import Derived.Test.YtblcigmggdiccaaGreatDoorPart09
import Derived.Test.YtblcigmggdiccaaGreatDoorPart06
import Derived.WalkKit
import Derived.Deep.RegionWith
import Derived.Conc.SmallLaws
set_option linter.unusedSectionVars false
set_option linter.unusedSimpArgs false
set_option linter.unusedVariables false
set_option maxRecDepth 100000
namespace Go.Tame
open Go.Conc
section
section
variable {P:Program}{Z:Setting P}{g:Z.Gh}{fr:Frame}{cs:List Frame}{v:World}{X:Z.Gh->Frame->List Frame->World->Prop}{b:Frame}{a:Act}{k:List Item}
theorem CW.atEnd (ok:Z.Ok)(h:CW Z g { b.at a [] with mode:=.returning } cs v X):CW Z g (b.at a []) cs v X:=
  .ctl ok (fun w=>by simp [stepG,stepG.exec,Frame.at,G]) h
theorem CW.preK (ok:Z.Ok){ops:Array Oper}{rest:List Nat}(hk:b.kind≠.early) :
    ∀ (l:List Oper) (k0:Nat) (a:Act) (v:World),(∀ j,j<l.length->l[j]? = ops[k0+j]?)->(∀ o ∈ l,valOp o.op=true/\okOp P o.op=true) ->
      (∀ t,Agree t v.tape v.drawn->wpList (withFuncs P (Z.F g)) ops (fun e a' v'=>e=.normal/\CW Z g (b.at a' (.inRegion ops rest :: k)) cs v' X) l a (retape v t))->CW Z g (b.at a (.inRegion ops (List.range' k0 l.length++rest) :: k)) cs v X
  | [],k0,a,v,_,_,h=>(h v.tape (Agree.refl _ _)).2
  | o :: l,k0,a,v,hl,hops,h=>by
    have ho:ops[k0]? = some o:=(hl 0 (by simp)).symm
    have hnext:∀ j,j<l.length->l[j]? = ops[k0+1+j]?:=fun j hj=>by
      have:=hl (j+1) (by simp;omega)
      rw [List.getElem?_cons_succ] at this
      rw [this]
      congr 1
      omega
    have hops':∀ o ∈ l,valOp o.op=true/\okOp P o.op=true:=fun o ho=>hops o (List.mem_cons_of_mem _ ho)
    simp only [List.length_cons,List.range'_succ,List.cons_append]
    by_cases hw:Region.wanted o (yielded ops a.tmps)=true
    · refine .valK ok ho hw (hops o (List.mem_cons_self ..)).1 (hops o (List.mem_cons_self ..)).2 hk (K:=wpList (withFuncs P (Z.F g)) ops (fun e a' v'=>e=.normal/\CW Z g (b.at a' (.inRegion ops rest :: k)) cs v' X) l) (fun a' v' hv'=>CW.preK ok hk l (k0+1) a' v' hnext hops' hv') fun t ht=>?_
      have:=h t ht
      simp only [wpList,hw,if_true] at this
      rcases this with this|⟨_,_,_,hz⟩
      · unfold Oper.wp at this ⊢
        revert this
        generalize (execOp a.eval o).run (withFuncs P (Z.F g)) (retape v t)=r
        intro this
        match r,this with
        | .ok (.value _) _,this=>exact this
        | .ok .skip _,this=>exact this
        | .ok (.defer _) _,this=>exact this
        | .ok (.enter f args) w,this=>
          refine Calls.mono (R:=fun | .returned v,w''=>_ | .panicked chain,w''=>_ | .outgrown,_=>_) this fun e w' he=>?_
          cases e with
          | returned y=>exact he
          | panicked ch=>exact absurd he.1 (by simp)
          | outgrown=>obtain ⟨_,_,hz⟩:=he;exact absurd hz.1 (by simp)
        | .ok (.row _ _) _,this=>exact this
        | .halt (.panic _) _,this=>exact absurd this.1 (by simp)
      · exact absurd hz.1 (by simp)
    · have hw':Region.wanted o (yielded ops a.tmps)=false:=by simpa using hw
      refine .opSkip ok ho hw' (CW.preK ok hk l (k0+1) _ v hnext hops' fun t ht=>?_)
      have:=h t ht
      simp only [wpList,hw',Bool.false_eq_true,if_false] at this
      exact this
theorem CW.pre (ok:Z.Ok){id:Nat}{l m:List Oper}(hk:b.kind≠.early)(hops:(l.all fun o=>valOp o.op && okOp P o.op)=true)
    (h:∀ (Q:_root_.Go.Exit->Act->World->Prop) (u:World),u.heap=v.heap->u.os=v.os->(∀ a' v',CW Z g (b.at a' (.inRegion (l++m).toArray (List.range' l.length m.length) :: k)) cs v' X->Q .normal a' v')->wpList (withFuncs P (Z.F g)) (l++m).toArray Q l a u):CW Z g (b.at a (.code (.region id (l++m).toArray false) :: k)) cs v X:=by
  refine .region ok ?_
  have e:List.range (l++m).toArray.size=List.range' 0 l.length++List.range' l.length m.length:=by
    rw [List.size_toArray,List.length_append,List.range_eq_range',← List.range'_append_1]
    simp
  rw [e]
  refine CW.preK ok hk l 0 a v (fun j hj=>?_) (fun o ho=>?_) fun t _=>h _ (retape v t) rfl rfl fun a' v' hx=>⟨rfl,hx⟩
  · simp [List.getElem?_append_left hj]
  · have:=List.all_eq_true.1 hops o ho
    simpa using this
theorem CW.plain (ok:Z.Ok){id:Nat}{l:List Oper}(hk:b.kind≠.early)(hops:(l.all fun o=>valOp o.op && okOp P o.op)=true)
    (h:∀ (Q:_root_.Go.Exit->Act->World->Prop) (u:World),u.heap=v.heap->u.os=v.os->(∀ a' v',CW Z g (b.at a' k) cs v' X->Q .normal a' v')->wpList (withFuncs P (Z.F g)) l.toArray Q l a u):CW Z g (b.at a (.code (.region id l.toArray false) :: k)) cs v X:=by
  have e:l=l ++ []:=by simp
  have:CW Z g (b.at a (.code (.region id (l ++ []).toArray false) :: k)) cs v X:=.pre ok hk hops fun Q u h1 h2 h3=>by
    rw [← e]
    exact h Q u h1 h2 fun a' v' hx=>h3 a' v' (by
      rw [← e]
      exact .regionEnd ok hx)
  rwa [← e] at this
theorem call_enters {Q:Program}{ρ:Operand->Value}{o:Oper}{c:Call}{x:Operand}{f:FuncId}{fn:Func}{first captured args:Array Value}(ho:o.op=.call c)(hc:c.callee=.value x)(hx:ρ x=.func (.func f) first captured)(ha:first++c.args.map ρ++captured=args)
    (hf:Q.funcs[f]? = some fn) (hb:fn.body.isNone=false) (hn:(fn.name == "runtime.NumGoroutine")=false) (w:World):(execOp ρ o).run Q w=.ok (.enter f args) w/\(execOp ρ o).events Q w #[] = #[]:=by
  have h:=callFunc_enter (args:=args) hf hb hn w
  subst ha
  have e:execOp ρ o=callFunc f (first++c.args.map ρ++captured):=by
    unfold execOp
    rw [ho]
    show (do let d ← resolve ρ c o.type;invoke d.target d.args:Sem Next)=_
    unfold resolve
    rw [hc]
    show (do let d ← Deferred.ofValue (ρ x) (c.args.map ρ);invoke d.target d.args:Sem Next)=_
    rw [hx]
    rfl
  rw [e]
  exact h
theorem CW.callAt (ok:Z.Ok){ops:Array Oper}{i:Nat}{rest:List Nat}{o:Oper}{c:Call}{x:Operand}{f:FuncId}{fn:Func}{first captured args:Array Value}{R:Z.Gh->Value->World->Prop}(ho:ops[i]? = some o)(hw:o.guard=none)(hk:b.kind≠.early)
    (hop:o.op=.call c) (hc:c.callee=.value x) (hx:a.eval x=.func (.func f) first captured) (ha:first++c.args.map a.eval++captured=args) (hf:P.funcs[f]? = some fn) (hb:fn.body.isNone=false) (hn:(fn.name == "runtime.NumGoroutine")=false)
    (h:CWCall Z g f args v R) (hk':∀ g' y v',R g' y v'->CW Z g' (b.at (a.put o.dst y) (.inRegion ops rest :: k)) cs v' X):CW Z g (b.at a (.inRegion ops (i :: rest) :: k)) cs v X:=by
  refine .enter ok ho (by simp [Region.wanted,hw]) hk (fun w=>call_enters hop hc hx ha hf hb hn w) (h.use fun g' y v' hR=>?_)
  rw [Frame.finish_at,ho]
  exact hk' g' y v' hR
end
end
end Go.Tame
namespace Go.Proofs.Shardlog
open Go Go.Tame Go.Proofs
section
noncomputable def fL90:Func:={ Tryz.f90 with ntmps:=2,body:=some (standIn 0 1) }
noncomputable def fL91:Func:={ Tryz.f91 with ntmps:=2,body:=some (standIn 1 0) }
theorem LL.func90:Tryz.L.funcs[90]? = some fL90:=LL.funcOf Tryz.func90 rfl
theorem LL.func91:Tryz.L.funcs[91]? = some fL91:=LL.funcOf Tryz.func91 rfl
theorem ntmpsL90:fL90.ntmps=2:=rfl
theorem ntmpsL91:fL91.ntmps=2:=rfl
@[go_sem] theorem LL.call90 (args:Array Value) (w:World):Sem.run Tryz.L (callFunc 90 args) w=.ok (.enter 90 args) w:=LL.callOf LL.func90 (by kernel_rfl) (by kernel_rfl) args w
@[go_sem] theorem LL.call91 (args:Array Value) (w:World):Sem.run Tryz.L (callFunc 91 args) w=.ok (.enter 91 args) w:=LL.callOf LL.func91 (by kernel_rfl) (by kernel_rfl) args w
section
variable {v:World}{c o:Nat}
theorem lone_lock90 (hc:v.cell? ⟨c,o,none⟩=some (.int .i32 0))(hz:v.frozen? ⟨c,o,none⟩=false) :
    Calls Tryz.L 90 #[.pointer (some ⟨c,o,none⟩)] v fun e v'=>e=.returned (.tuple #[])/\v'=v.setCell ⟨c,o,none⟩ (.int .i32 1):=by
  go_enter LL.func90,ntmpsL90
  simp only [standIn,standOps,standPut]
  go_wp2
  exact bodyPost_ret (results_none rfl _ _ _) rfl ⟨rfl,rfl⟩
theorem lone_unlock91 (hc:v.cell? ⟨c,o,none⟩=some (.int .i32 1))(hz:v.frozen? ⟨c,o,none⟩=false) :
    Calls Tryz.L 91 #[.pointer (some ⟨c,o,none⟩)] v fun e v'=>e=.returned (.tuple #[])/\v'=v.setCell ⟨c,o,none⟩ (.int .i32 0):=by
  go_enter LL.func91,ntmpsL91
  simp only [standIn,standOps,standPut]
  go_wp2
  exact bodyPost_ret (results_none rfl _ _ _) rfl ⟨rfl,rfl⟩
theorem lone_lock (hc:v.cell? ⟨c,o,none⟩=some (.int .i32 0))(hz:v.frozen? ⟨c,o,none⟩=false) :
    Calls Tryz.L 55 #[.pointer (some ⟨c,o,none⟩)] v fun e v'=>e=.returned (.tuple #[])/\v'=v.setCell ⟨c,o,none⟩ (.int .i32 1):=by
  go_enter LL.func55,Tryz.ntmps55
  go_wp2
  refine (lone_lock90 hc hz).mono ?_
  rintro e v' ⟨rfl,rfl⟩
  go_wp2
  exact bodyPost_end (results_none rfl _ _ _) rfl ⟨rfl,rfl⟩
end
end
end Go.Proofs.Shardlog
namespace Go.Proofs.Shardlog
open Go Go.Conc Go.Tame Go.Proofs
section
variable {Ω:World}
section
variable {g:List Rec}{fr:Frame}{cs:List Frame}{v:World}{X:List Rec->Frame->List Frame->World->Prop}{b:Frame}{a:Act}{k:List Item}
theorem ZZ.plain {id:Nat}{l:List Oper}(hops:(l.all fun o=>valOp o.op && okOp Tryz.prog o.op)=true)(hk:b.kind≠.early)
    (h:∀ (Q:_root_.Go.Exit->Act->World->Prop) (u:World),u.heap=v.heap->u.os=v.os->(∀ a' v',CW (ZZ Ω) g (b.at a' k) cs v' X->Q .normal a' v')->wpList Tryz.L l.toArray Q l a u):CW (ZZ Ω) g (b.at a (.code (.region id l.toArray false) :: k)) cs v X:=
  CW.plain ZZ.ok hk hops h
theorem ZZ.pre {id:Nat}(l m:List Oper)(hops:(l.all fun o=>valOp o.op && okOp Tryz.prog o.op)=true)(hk:b.kind≠.early)
    (h:∀ (Q:_root_.Go.Exit->Act->World->Prop) (u:World),u.heap=v.heap->u.os=v.os->(∀ a' v',CW (ZZ Ω) g (b.at a' (.inRegion (l++m).toArray (List.range' l.length m.length) :: k)) cs v' X->Q .normal a' v')->wpList Tryz.L (l++m).toArray Q l a u):CW (ZZ Ω) g (b.at a (.code (.region id (l++m).toArray false) :: k)) cs v X:=
  CW.pre ZZ.ok hk hops h
theorem ZZ.body {f:FuncId}{fn:Func}{c:Code}{args tmps:Array Value}{R:List Rec->Value->World->Prop}(hf:Tryz.prog.funcs[f]? = some fn)(hb:fn.body=some c)(ht:args++Array.replicate (fn.ntmps - args.size) undef=tmps)
    (h:∀ (b:Frame) (cs:List Frame),CW (ZZ Ω) g ((base f).at ⟨tmps,[]⟩ [.code c]) (b :: cs) v fun g' fr' cs' v'=>cs'=cs/\∃ y,fr'=b.finish y/\R g' y v'):CWCall (ZZ Ω) g f args v R:=
  CWCall.body hf hb (ht ▸ h)
end
theorem cell_heap {u v:World}(h:u.heap=v.heap)(a:Addr):u.cell? a=v.cell? a:=by
  unfold World.cell?
  rw [h]
structure Grown (v v':World):Prop where
  size:v.heap.size<=v'.heap.size
  heap:∀ x,x<v.heap.size->v'.heap[x]? = v.heap[x]?
  os:v'.os=v.os
theorem Grown.refl (v:World):Grown v v:=⟨Nat.le_refl _,fun _ _=>rfl,rfl⟩
theorem Grown.trans {u v w:World}(h:Grown u v)(k:Grown v w):Grown u w:=⟨Nat.le_trans h.size k.size,fun x hx=>(k.heap x (by have:=h.size;omega)).trans (h.heap x hx),k.os.trans h.os⟩
theorem Grown.same {v u:World}(h:u.heap=v.heap)(ho:u.os=v.os):Grown v u:=⟨by rw [h];exact Nat.le_refl _,fun _ _=>by rw [h],ho⟩
theorem Grown.alloc (v:World)(o:Obj):Grown v (v.alloc o):=⟨by show v.heap.size<=(v.heap.push o).size;rw [Array.size_push];omega,fun x hx=>by show (v.heap.push o)[x]? = _;rw [Array.getElem?_push,if_neg (Nat.ne_of_lt hx)],rfl⟩
theorem Grown.cell {v v':World}(h:Grown v v'){a:Addr}{x:Value}(hc:v.cell? a=some x):v'.cell? a=some x:=by
  have hlt:a.block<v.heap.size:=by
    unfold World.cell? at hc
    rcases Nat.lt_or_ge a.block v.heap.size with hl|hl
    · exact hl
    · rw [Array.getElem?_eq_none_iff.2 hl] at hc
      simp at hc
  rw [← hc]
  unfold World.cell?
  rw [h.heap _ hlt]
theorem box_cell (u:World)(x:Value)(t:TypeId):(u.alloc (.cells #[x] t)).cell? ⟨u.heap.size,0,none⟩=some x:=by
  unfold World.cell?
  show (match (u.heap.push (.cells #[x] t))[u.heap.size]? with|some (.cells cells _ _)=>cells[0]? | _=>none)=_
  rw [Array.getElem?_push_size]
  rfl
theorem frozen_heap {u v:World}(h:u.heap=v.heap)(a:Addr):u.frozen? a=v.frozen? a:=by
  unfold World.frozen?
  rw [h]
section
variable {g:List Rec}{fr:Frame}{cs:List Frame}{v:World}{X:List Rec->Frame->List Frame->World->Prop}{b:Frame}{a:Act}{k:List Item}{c o:Nat}
theorem zz_unlock91 (hc:v.cell? ⟨c,o,none⟩=some (.int .i32 1))(hz:v.frozen? ⟨c,o,none⟩=false)(h:CW (ZZ Ω) g (b.finish (.tuple #[])) cs (v.setCell ⟨c,o,none⟩ (.int .i32 0)) X) :
    CW (ZZ Ω) g (Frame.enter Tryz.prog 91 #[.pointer (some ⟨c,o,none⟩)] .normal) (b :: cs) v X:=by
  rw [enter_two (x:=undef) (p:=.pointer (some ⟨c,o,none⟩)) Tryz.func91 (by rw [Tryz.ntmps91];omega) (by rfl)]
  refine CW.route (n:=39) (g':=g) (fr':=Tame.ret .normal b (.tuple #[])) (cs':=cs) (v':=v.setCell ⟨c,o,none⟩ (.int .i32 0)) (Rel:=fun w u=>∃ d,u=(w.setCell ⟨c,o,none⟩ (.int .i32 0)).at d) rfl (fun w In hl hj=>?_) (fun w u d hl ⟨d',e⟩=>?_) (fun w u d In hl hj ⟨d',e⟩=>?_) h
  · have hzw:w.frozen? ⟨c,o,none⟩=false:=by
      cases e:w.frozen? ⟨c,o,none⟩ with
      | false=>rfl
      | true=>rw [hl.frozen _ e] at hz;cases hz
    exact unlock_route (.inl rfl) (hl.cell hc) hzw (fun hk=>by rw [(hl.still _ hk).2] at hz;cases hz) (hl.notGone hc) fun d=>⟨rfl,d,rfl⟩
  · subst e
    exact ((hl.setCell _ _).at _).at _
  · subst e
    exact hj.same fun x hx=>World.cell?_setCell_other _ _ _ _ (fun e=>hl.notGone hc (e ▸ hx))
theorem zz_unlock (hc:v.cell? ⟨c,0,none⟩=some (.int .i32 1))(hz:v.frozen? ⟨c,0,none⟩=false)(h:∀ u:World,u.heap=v.heap->u.os=v.os->CW (ZZ Ω) g (Tame.ret .deferred b (.tuple #[])) cs (u.setCell ⟨c,0,none⟩ (.int .i32 0)) X) :
    CW (ZZ Ω) g (Frame.enter Tryz.prog 56 #[.pointer (some ⟨c,0,none⟩)] .deferred) (b :: cs) v X:=by
  have he:Frame.enter Tryz.prog 56 #[.pointer (some ⟨c,0,none⟩)] .deferred=({ base 56 with kind:=.deferred }).at ⟨#[.pointer (some ⟨c,0,none⟩),undef,undef,undef,undef,undef],[]⟩ [.code (Tryz.f56.body.getD .ret)]:=by
    simp [Frame.enter,Frame.at,Tryz.func56,base,Tryz.ntmps56]
    rfl
  rw [he]
  refine ZZ.pre [_,_,_] [_] (by kernel_rfl) (by simp [base]) fun Q u hu ho hQ=>?_
  go_wp2
  rw [← cell_heap hu] at hc
  rw [← frozen_heap hu] at hz
  refine .enter ZZ.ok (i:=3) rfl (by simp [Region.wanted]) (by simp [base]) (fun w=>call_enters (f:=91) (first:=#[]) (captured:=#[]) (args:=#[.pointer (some ⟨c,0,none⟩)]) rfl rfl rfl (by simp [Act.eval]) Tryz.func91 (by kernel_rfl) (by kernel_rfl) w) (zz_unlock91 hc hz ?_)
  rw [Frame.finish_at]
  refine .regionEnd ZZ.ok (.atEnd ZZ.ok (.leave ZZ.ok (fn:=Tryz.f56) (y:=.tuple #[]) rfl rfl (.inr rfl) Tryz.func56 (fun w _=>⟨results_none rfl _ _ _,?_⟩) (h u hu ho)))
  intro e he
  simp [results] at he
theorem setCell_heap {u v:World}(h:u.heap=v.heap)(x:Addr)(y:Value):(u.setCell x y).heap=(v.setCell x y).heap:=by
  unfold World.setCell
  rw [h]
theorem setCell_os (u:World)(x:Addr)(y:Value):(u.setCell x y).os=u.os:=by
  unfold World.setCell
  cases u.heap[x.block]? with
  | none=>rfl
  | some ob=>cases ob <;> rfl
theorem zz_lock (hc:v.cell? ⟨c,o,none⟩=some (.int .i32 0))(hz:v.frozen? ⟨c,o,none⟩=false)(h:∀ u:World,u.heap=(v.setCell ⟨c,o,none⟩ (.int .i32 1)).heap->u.os=v.os->CW (ZZ Ω) g (b.finish (.tuple #[])) cs u X) :
    CW (ZZ Ω) g (Frame.enter Tryz.prog 55 #[.pointer (some ⟨c,o,none⟩)] .normal) (b :: cs) v X:=by
  refine .calls ZZ.ok (fun h=>?_) (by kernel_rfl) fun t _=>?_
  · rcases h with h|h|h
    · cases h
    · cases h
    · revert h;decide
  · have:=lone_lock (v:=retape v t) (c:=c) (o:=o) hc hz
    refine Calls.mono this ?_
    rintro e v' ⟨rfl,rfl⟩
    exact ⟨_,rfl,h _ (setCell_heap rfl _ _) (setCell_os _ _ _)⟩
theorem defer_runs {Q:Program}{ρ:Operand->Value}{o:Oper}{c:Call}{x:Operand}{f:Fn}{first captured args:Array Value}(ho:o.op=.defer c)(hc:c.callee=.value x)(hx:ρ x=.func f first captured)(ha:first++c.args.map ρ=args)(w:World) :
    (execOp ρ o).run Q w=.ok (.defer { target:=.fn f captured,args:=args }) w/\(execOp ρ o).events Q w #[] = #[]:=by
  subst ha
  have e:execOp ρ o=(do pure (Next.defer { target:=.fn f captured,args:=first++c.args.map ρ }):Sem Next):=by
    unfold execOp
    rw [ho]
    show (do pure (Next.defer (← resolve ρ c o.type)):Sem Next)=_
    unfold resolve
    rw [hc]
    show (do pure (Next.defer (← Deferred.ofValue (ρ x) (c.args.map ρ))):Sem Next)=_
    rw [hx]
    rfl
  rw [e]
  exact ⟨rfl,rfl⟩
theorem ret_back {fr:Frame}{y:Value}(h:fr.mode=.returning):Tame.ret .deferred fr y=fr:=by
  unfold Tame.ret backIn
  rw [h]
  rfl
theorem zz_alone {f:FuncId}{fn:Func}{cap:Array Value}{K:List Rec->World->Prop}{R:List Rec->Value->World->Prop}(hf:Tryz.prog.funcs[f]? = some fn)(hb:fn.body.isNone=false)(hn:(fn.name == "runtime.NumGoroutine")=false)(hc:v.cell? ⟨c,0,none⟩=some (.int .i32 0))(hz:v.frozen? ⟨c,0,none⟩=false)
    (h:∀ u:World,u.heap=(v.setCell ⟨c,0,none⟩ (.int .i32 1)).heap->u.os=v.os->CWCall (ZZ Ω) g f cap u fun g' _ u'=>K g' u')
    (hK:∀ g' u',K g' u'->u'.cell? ⟨c,0,none⟩=some (.int .i32 1)/\u'.frozen? ⟨c,0,none⟩=false/\∀ u'':World,u''.heap=u'.heap->u''.os=u'.os->R g' (.tuple #[]) (u''.setCell ⟨c,0,none⟩ (.int .i32 0))) :
    CWCall (ZZ Ω) g 31 #[.pointer (some ⟨c,0,none⟩),.func (.func f) #[] cap] v R:=by
  refine ZZ.body (tmps:=#[.pointer (some ⟨c,0,none⟩),.func (.func f) #[] cap,undef,undef,undef,undef,undef,undef,undef,undef,undef,undef,undef,undef,undef]) Tryz.func31 (by rfl) (by rfl) ?_
  intro b cs
  refine CW.seq ZZ.ok (CW.seq ZZ.ok (ZZ.plain (by kernel_rfl) (by simp [base]) fun Q u hu ho hQ=>?_))
  go_wp2
  rw [← cell_heap hu] at hc
  rw [← frozen_heap hu] at hz
  refine CW.cond (t:=false) ZZ.ok (by rfl) ?_
  simp only [if_false,Bool.false_eq_true]
  refine CW.skip ZZ.ok (CW.seq ZZ.ok (ZZ.pre [_,_,_] [_] (by kernel_rfl) (by simp [base]) fun Q u1 hu1 ho1 hQ=>?_))
  go_wp2
  rw [← cell_heap hu1] at hc
  rw [← frozen_heap hu1] at hz
  refine .enter ZZ.ok (i:=3) rfl (by simp [Region.wanted]) (by simp [base]) (fun w=>call_enters (f:=55) (first:=#[]) (captured:=#[]) (args:=#[.pointer (some ⟨c,0,none⟩)]) rfl rfl rfl (by simp [Act.eval]) Tryz.func55 (by kernel_rfl) (by kernel_rfl) w) (zz_lock hc hz fun u2 hu2 ho2=>?_)
  rw [Frame.finish_at]
  refine .regionEnd ZZ.ok (CW.seq ZZ.ok (ZZ.pre [_,_,_] [_] (by kernel_rfl) (by simp [base]) fun Q u3 hu3 ho3 hQ=>?_))
  go_wp2
  refine CW.defer ZZ.ok (i:=3) (rest:=[]) (d:={ target:=.fn (.func 56) #[],args:=#[.pointer (some ⟨c,0,none⟩)] }) rfl (by simp [Region.wanted]) (by simp [base]) (fun w=>defer_runs (first:=#[]) rfl rfl rfl (by simp [Act.eval]) w) ?_
  refine .regionEnd ZZ.ok (ZZ.pre [_] [_] (by kernel_rfl) (by simp [base]) fun Q u4 hu4 ho4 hQ=>?_)
  go_wp2
  have hh:u4.heap=(v.setCell ⟨c,0,none⟩ (.int .i32 1)).heap:=by
    rw [hu4,hu3,hu2]
    exact setCell_heap (hu1.trans hu) _ _
  refine CW.callAt (R:=fun g' _ u'=>K g' u') ZZ.ok (i:=1) (rest:=[]) (f:=f) (first:=#[]) (captured:=cap) (args:=cap) rfl rfl (by simp [base]) rfl rfl (by rfl) (by simp [Act.eval]) hf hb hn (h u4 hh (by rw [ho4,ho3,ho2,ho1,ho])) fun g' y v' hR=>?_
  obtain ⟨k1,k2,k3⟩:=hK g' v' hR
  refine .regionEnd ZZ.ok (.atEnd ZZ.ok (.deferred ZZ.ok rfl rfl Tryz.func56 (by kernel_rfl) (by kernel_rfl) (zz_unlock k1 k2 fun u5 hu5 ho5=>?_)))
  rw [ret_back rfl]
  exact .leave ZZ.ok (fn:=Tryz.f31) (y:=.tuple #[]) rfl rfl (.inl rfl) Tryz.func31 (fun w _=>⟨results_none rfl _ _ _,fun e he=>by simp [results] at he⟩) (.done ⟨rfl,_,rfl,k3 u5 hu5 ho5⟩)
end
end
end Go.Proofs.Shardlog
namespace Go.Tame
open Go.Conc
section
theorem Like.warm {S:Prot}{w v:World}(h:Like S w v){a:Addr}{x:Value}(hg:S.gone a)(hw:w.cell? a=Option.some x):(∃ y e f,w.heap[a.block]? = Option.some (.cells y e f)/\a.off<y.size)/\w.frozen? a=false:=by
  obtain ⟨hsp,hv,hlt⟩:=h.gone a hg
  have hv':v.heap[a.block]? = Option.some (v.heap[a.block]'hlt):=Array.getElem?_eq_getElem _
  unfold World.cell? at hw hv
  unfold World.frozen?
  cases hb:w.heap[a.block]? with
  | none=>rw [hb] at hw;cases hw
  | some o=>
    rw [hb] at hw
    have ho:=h.obj a.block o _ hb hv'
    rw [hv'] at hv
    generalize v.heap[a.block]'hlt=o' at ho hv
    cases ho with
    | cells c e f g hw'=>
      simp only [hsp,Option.isSome_none,Bool.false_eq_true,if_false] at hw hv
      rw [hw] at hv
      cases hv
    | short c c' e f g h0 hle hc hz=>
      simp only [hsp,Option.isSome_none,Bool.false_eq_true,if_false] at hw
      refine ⟨⟨c,e,f,rfl,(Array.getElem?_eq_some_iff.1 hw).1⟩,?_⟩
      simp only [Bool.and_eq_false_imp,decide_eq_true_eq,decide_eq_false_iff_not]
      exact hz _
    | chan=>cases hw
    | same _ hp=>
      cases o <;> first|(cases hw;done)|exact hp.elim
    | odd _ hp=>
      cases o <;> first|(cases hw;done)|exact hp.elim
end
end Go.Tame
namespace Go.Proofs.Shardlog
open Go Go.Conc Go.Tame Go.Proofs
section
variable {Ω:World}
noncomputable section
def shutRec (D:Nat) (g:List Rec):List Rec:=g.map fun r=>if r.D=D then { r with live:=false } else r
end
section
variable {g:List Rec}{r:Rec}{w w' v:World}{In:Nat->Option Chair}{D:Nat}
theorem shutRec_mem {x:Rec}(h:x ∈ shutRec D g):∃ y ∈ g,x.cb=y.cb/\x.c=y.c/\x.D=y.D/\x.ms=y.ms/\x.cnt=y.cnt/\(x.live=true->x=y/\y.D≠D):=by
  obtain ⟨y,hy,rfl⟩:=List.mem_map.1 h
  refine ⟨y,hy,?_⟩
  by_cases e:y.D=D
  · simp [e]
  · simp [e]
theorem mem_shutRec {y:Rec}(h:y ∈ g):∃ x ∈ shutRec D g,x.cb=y.cb/\x.c=y.c/\x.D=y.D/\x.ms=y.ms/\x.cnt=y.cnt/\(y.D≠D->x=y):=by
  refine ⟨_,List.mem_map.2 ⟨y,h,rfl⟩,?_⟩
  by_cases e:y.D=D
  · simp [e]
  · simp [e]
theorem protOf_shut:protOf Ω (shutRec D g)=protOf Ω g:=by
  unfold protOf
  congr 1
  · funext a
    apply propext
    constructor
    · rintro ⟨x,hx,y,hy,hk⟩
      obtain ⟨z,hz,h1,h2,h3,h4,_⟩:=shutRec_mem hx
      refine ⟨z,hz,y,h4 ▸ hy,?_⟩
      unfold keepAt at *
      rw [← h1,← h2]
      exact hk
    · rintro ⟨z,hz,y,hy,hk⟩
      obtain ⟨x,hx,h1,h2,h3,h4,_⟩:=mem_shutRec (D:=D) hz
      refine ⟨x,hx,y,h4 ▸ hy,?_⟩
      unfold keepAt at *
      rw [h1,h2]
      exact hk
  · funext a
    apply propext
    constructor
    · rintro ⟨x,hx,hk⟩
      obtain ⟨z,hz,h1,h2,h3,h4,_⟩:=shutRec_mem hx
      exact ⟨z,hz,by rw [← h2];exact hk⟩
    · rintro ⟨z,hz,hk⟩
      obtain ⟨x,hx,h1,h2,h3,h4,_⟩:=mem_shutRec (D:=D) hz
      exact ⟨x,hx,by rw [h2];exact hk⟩
theorem seat_has {r:Rec}{x:Member}(h:(chairOf r x).seat.has D):D=r.D∨D=x.W:=by
  obtain ⟨k,z,h⟩:=h
  have h:(seatCases r.D x.W)[k]? = some (rcase D z):=h
  unfold seatCases at h
  rcases k with _|_|k
  · simp [rcase] at h
    exact .inr h.1.symm
  · simp [rcase] at h
    exact .inl h.1.symm
  · simp at h
theorem chairOf_D {r r':Rec}{x x':Member}(h:chairOf r x=chairOf r' x'):r.D=r'.D:=by
  have:=congrArg (fun c=>c.cells[2]?) h
  simp [chairOf] at this
  exact this.2
theorem Held.shut (h:Held g w In)(hr:r ∈ g)(hl:r.live=true){cap:Nat}{k:Nat × Nat}(hd:w.heap[r.D]? = some (.chan cap #[] false k.1 k.2 false))(hs:Shut ⟨r.c,6,none⟩ ⟨r.c,7,none⟩ r.D cap k w w'):Held (shutRec r.D g) w' (left In (r.ms.map (·.j))):=by
  have alive:∀ x ∈ shutRec r.D g,x.live=true->x ∈ g/\x.D≠r.D:=fun x hx hxl=>by
    obtain ⟨y,hy,_,_,_,_,_,h6⟩:=shutRec_mem hx
    obtain ⟨rfl,h7⟩:=h6 hxl
    exact ⟨hy,h7⟩
  refine ⟨fun j c hc=>?_,fun x hx hxl y hy=>?_,fun x hx hxl=>?_,fun x hx hxl=>h.nodup x (alive x hx hxl).1 hxl,fun x hx x' hx' hxl hxl'=>h.apart x (alive x hx hxl).1 x' (alive x' hx' hxl').1 hxl hxl'⟩
  · unfold left at hc
    split at hc
    · cases hc
    · rename_i hj
      obtain ⟨r',hr',hl',x,hx,rfl,rfl⟩:=h.who j c hc
      have hne:r'.D≠r.D:=fun e=>by
        obtain rfl:=(h.apart r' hr' r hr hl' hl).1 e
        exact hj (List.mem_map.2 ⟨x,hx,rfl⟩)
      obtain ⟨z,hz,_,_,_,_,_,h6⟩:=mem_shutRec (D:=r.D) hr'
      obtain rfl:=h6 hne
      exact ⟨z,hz,hl',x,hx,rfl,rfl⟩
  · obtain ⟨hx',hne⟩:=alive x hx hxl
    unfold left
    rw [if_neg,h.sits x hx' hxl y hy]
    intro hj
    obtain ⟨z,hz,e⟩:=List.mem_map.1 hj
    have h1:=h.sits x hx' hxl y hy
    have h2:=h.sits r hr hl z hz
    rw [e,h1] at h2
    exact hne (chairOf_D (Option.some.inj h2))
  · obtain ⟨hx',hne⟩:=alive x hx hxl
    have hc:x.c≠r.c:=fun e=>hne (by rw [(h.apart x hx' r hr hxl hl).2.1 e])
    rw [Shut.cell hs hd (by simp [hc]) (by simp [hc]),Shut.cell hs hd (by simp [hc]) (by simp [hc])]
    exact h.count x hx' hxl
end
end
end Go.Proofs.Shardlog
namespace Go.Tame
open Go.Conc
section
def World.ice (v:World) (b lo hi:Nat):World:={ v with heap:=v.heap.modify b fun
  | .cells x e _=>.cells x e (lo,hi)
  | o=>o }
def World.cut (v:World) (b n lo hi:Nat):World:={ v with heap:=v.heap.modify b fun
  | .cells x e _=>.cells (x.extract 0 n) e (lo,hi)
  | o=>o }
section
variable {S S':Prot}{w v:World}{b lo hi n:Nat}{x:Array Value}{e:TypeId}{f:Nat × Nat}
theorem ice_size:(World.ice v b lo hi).heap.size=v.heap.size:=by simp [World.ice]
theorem ice_self (h:v.heap[b]? = Option.some (.cells x e f)):(World.ice v b lo hi).heap[b]? = Option.some (.cells x e (lo,hi)):=by simp [World.ice,Array.getElem?_modify,h]
theorem ice_ne {i:Nat}(h:i≠b):(World.ice v b lo hi).heap[i]? = v.heap[i]?:=by simp [World.ice,Array.getElem?_modify,Ne.symm h]
theorem ice_cell (a:Addr):(World.ice v b lo hi).cell? a=v.cell? a:=by
  unfold World.cell?
  by_cases h:a.block=b
  · simp only [World.ice,Array.getElem?_modify,h,if_true]
    cases v.heap[b]? with
    | none=>rfl
    | some o=>cases o <;> rfl
  · rw [ice_ne h]
theorem ice_frozen {a:Addr}(h:a.block≠b):(World.ice v b lo hi).frozen? a=v.frozen? a:=by unfold World.frozen?;rw [ice_ne h]
theorem ice_frozen_self {a:Addr}(hb:a.block=b)(h:v.heap[b]? = Option.some (.cells x e f)):(World.ice v b lo hi).frozen? a=(decide (lo<=a.off) && decide (a.off<hi)):=by
  unfold World.frozen?
  rw [hb,ice_self h]
theorem cut_size:(World.cut v b n lo hi).heap.size=v.heap.size:=by simp [World.cut]
theorem cut_self (h:v.heap[b]? = Option.some (.cells x e f)):(World.cut v b n lo hi).heap[b]? = Option.some (.cells (x.extract 0 n) e (lo,hi)):=by simp [World.cut,Array.getElem?_modify,h]
theorem cut_ne {i:Nat}(h:i≠b):(World.cut v b n lo hi).heap[i]? = v.heap[i]?:=by simp [World.cut,Array.getElem?_modify,Ne.symm h]
theorem Like.ice (h:Like S w v)(hv:v.heap[b]? = Option.some (.cells x e f))(hf:Within f (lo,hi))(hn:S.base.heap.size<=b):Like S w (World.ice v b lo hi):=by
  refine ⟨by rw [ice_size];exact h.size,fun i o o' hi' ho'=>?_,fun a ha=>⟨(h.still a ha).1,?_⟩,fun a ha=>⟨(h.gone a ha).1,by rw [ice_cell];exact (h.gone a ha).2.1,by rw [ice_size];exact (h.gone a ha).2.2⟩,h.os,h.out⟩
  · by_cases hb:i=b
    · subst hb
      rw [ice_self hv] at ho'
      cases ho'
      have:=h.obj i o _ hi' hv
      cases this with
      | cells c e f1 g hw=>exact .cells _ _ _ _ (fun j h1 h2=>hf j (hw j h1 h2).1 (hw j h1 h2).2) fun hlt=>by omega
      | short c c' e f g h0 hle hc hz hn=>exact .short _ _ _ _ _ h0 hle hc hz hn
      | same _ hp=>exact hp.elim
    · rw [ice_ne hb] at ho'
      exact h.obj i o o' hi' ho'
  · have:=(h.still a ha).2
    by_cases hb:a.block=b
    · rw [ice_frozen_self hb hv]
      unfold World.frozen? at this
      rw [hb,hv] at this
      simp only [Bool.and_eq_true,decide_eq_true_eq] at this ⊢
      exact hf _ this.1 this.2
    · rw [ice_frozen hb]
      exact this
theorem Like.more (h:Like S w v)(hk:∀ a,S'.keep a->S.keep a∨(a.spot=Option.none/\v.frozen? a=true))(hg:∀ a,S'.gone a->S.gone a)(hB:S'.base=S.base):Like S' w v:=
  ⟨h.size,by rw [hB];exact h.obj,fun a ha=>(hk a ha).elim (h.still a) id,fun a ha=>h.gone a (hg a ha),h.os,by rw [hB];exact h.out⟩
theorem Like.cut (h:Like S w v)(hv:v.heap[b]? = Option.some (.cells x e f))(hf:∀ i,f.1<=i->¬ i<f.2)(hn:0<n)(hx:n<=x.size)(hk:∀ a,S'.keep a->S.keep a)(hg:∀ a,S'.gone a->S.gone a∨(a.spot=Option.none/\a.block=b/\n<=a.off))(hB:S'.base=S.base)(hb0:S.base.heap.size<=b):Like S' w (World.cut v b n lo hi):=by
  have hlt:b<v.heap.size:=(Array.getElem?_eq_some_iff.1 hv).1
  refine ⟨by rw [cut_size];exact h.size,fun i o o' hi' ho'=>?_,fun a ha=>⟨(h.still a (hk a ha)).1,?_⟩,fun a ha=>?_,h.os,by rw [hB];exact h.out⟩
  · by_cases hb:i=b
    · subst hb
      rw [cut_self hv] at ho'
      cases ho'
      have:=h.obj i o _ hi' hv
      have hsz:(x.extract 0 n).size=n:=by simp;omega
      have hget:∀ j,j<(x.extract 0 n).size->(x.extract 0 n)[j]? = x[j]?:=fun j hj=>by
        rw [hsz] at hj
        rw [Array.getElem?_extract]
        simp [Nat.lt_of_lt_of_le hj hx]
        omega
      cases this with
      | cells c e f1 g hw=>
        exact .short _ _ _ _ _ (by omega) (by omega) hget (fun j h1 h2=>by
          obtain ⟨k1,k2⟩:=hw j h1 h2
          exact hf j k1 k2) (by rw [hB];exact hb0)
      | short c c' e f g h0 hle hc hz hn=>exact .short _ _ _ _ _ (by omega) (by omega) (fun j hj=>(hget j hj).trans (hc j (by omega))) hz (by rw [hB];exact hb0)
      | same _ hp=>exact hp.elim
    · rw [cut_ne hb] at ho'
      rw [hB]
      exact h.obj i o o' hi' ho'
  · have:=(h.still a (hk a ha)).2
    by_cases hb:a.block=b
    · unfold World.frozen? at this
      rw [hb,hv] at this
      simp only [Bool.and_eq_true,decide_eq_true_eq] at this
      exact absurd this.2 (hf _ this.1)
    · unfold World.frozen? at this ⊢
      rw [cut_ne hb]
      exact this
  · rw [cut_size]
    rcases hg a ha with hg|⟨h1,h2,h3⟩
    · refine ⟨(h.gone a hg).1,?_,(h.gone a hg).2.2⟩
      have:=(h.gone a hg).2.1
      unfold World.cell? at this ⊢
      by_cases hb:a.block=b
      · rw [hb,cut_self hv]
        rw [hb,hv] at this
        simp only [(h.gone a hg).1,Option.isSome_none,Bool.false_eq_true,if_false] at this ⊢
        have:=Array.getElem?_eq_none_iff.1 this
        exact Array.getElem?_eq_none_iff.2 (by simp <;> omega)
      · rw [cut_ne hb]
        exact this
    · refine ⟨h1,?_,by rw [h2];exact hlt⟩
      unfold World.cell?
      rw [h2,cut_self hv]
      simp only [h1,Option.isSome_none,Bool.false_eq_true,if_false]
      exact Array.getElem?_eq_none_iff.2 (by simp <;> omega)
end
end
end Go.Tame
namespace Go.Proofs.Shardlog
open Go Go.Conc Go.Tame Go.Proofs
section
open Go.ConcN (upd upd_ne upd_same)
variable {Ω:World}
section
variable {g:List Rec}{r:Rec}{x:Member}{w v:World}{In:Nat->Option Chair}
theorem prot_apart (g:List Rec)(a:Addr)(h:(protOf Ω g).gone a):¬ (protOf Ω g).keep a:=by
  obtain ⟨r,_,h⟩:=h
  rintro ⟨r',_,x,_,h'⟩
  rcases h with rfl|rfl <;> rcases h' with h'|h'|h'|h' <;> simp at h'
theorem chair_wf (h:r.D≠x.W):(chairOf r x).seat.Wf:=by
  constructor
  · intro cc hcc
    simp only [chairOf,seatOf,seatCases,List.mem_toArray,List.mem_cons,List.not_mem_nil,or_false] at hcc
    rcases hcc with rfl|rfl
    · exact ⟨_,_,rfl⟩
    · exact ⟨_,_,rfl⟩
  · intro k m c z z' h1 h2
    simp only [chairOf,seatOf,seatCases] at h1 h2
    rcases k with _|_|k <;> rcases m with _|_|m <;> simp [rcase] at h1 h2 <;> first|rfl|(exfalso;exact h (by omega))
def Below (g:List Rec) (n:Nat):Prop:=∀ r ∈ g,r.D<n/\r.c<n/\∀ x ∈ r.ms,x.W<n
theorem Below.mono {n m:Nat}(h:Below g n)(hm:n<=m):Below g m:=fun r hr=>by
  obtain ⟨h1,h2,h3⟩:=h r hr
  exact ⟨by omega,by omega,fun x hx=>by have:=h3 x hx;omega⟩
theorem Held.newRec (h:Held g w In){n cb c D:Nat}(hb:Below g n)(hc:n<=c)(hD:n<=D)(h6:w.cell? ⟨c,6,none⟩=some (.int .u64 0))(h7:w.cell? ⟨c,7,none⟩=some (.int .u32 0)):Held (⟨cb,c,D,[],0,true⟩ :: g) w In:=by
  refine ⟨fun j ch hj=>?_,fun r hr hl x hx=>?_,fun r hr hl=>?_,fun r hr hl=>?_,fun r hr r' hr' hl hl'=>?_⟩
  · obtain ⟨r,hr,k⟩:=h.who j ch hj
    exact ⟨r,List.mem_cons_of_mem _ hr,k⟩
  · rcases List.mem_cons.1 hr with rfl|hr
    · cases hx
    · exact h.sits r hr hl x hx
  · rcases List.mem_cons.1 hr with rfl|hr
    · exact ⟨by simpa using h6,h7⟩
    · exact h.count r hr hl
  · rcases List.mem_cons.1 hr with rfl|hr
    · simp
    · exact h.nodup r hr hl
  · rcases List.mem_cons.1 hr with rfl|hr <;> rcases List.mem_cons.1 hr' with rfl|hr'
    · exact ⟨fun _=>rfl,fun _=>rfl,fun x hx=>by cases hx⟩
    · obtain ⟨b1,b2,b3⟩:=hb r' hr'
      exact ⟨fun e=>by dsimp only at e;omega,fun e=>by dsimp only at e;omega,fun x hx e=>by have:=b3 x hx;dsimp only at e;omega⟩
    · obtain ⟨b1,b2,b3⟩:=hb r hr
      exact ⟨fun e=>by dsimp only at e;omega,fun e=>by dsimp only at e;omega,fun x hx=>by cases hx⟩
    · exact h.apart r hr r' hr' hl hl'
theorem Held.countUp {cb c D cnt n:Nat}{ms:List Member}(h:Held (⟨cb,c,D,ms,cnt,true⟩ :: g) w In)(hb:Below g n)(hc:n<=c)(k:Nat)(d:Nat)(hk:(k:Int)=cnt+1):Held (⟨cb,c,D,ms,k,true⟩ :: g) ((w.setCell ⟨c,6,none⟩ (.int .u64 ((cnt:Int)*4294967296+4294967296))).at d) In:=by
  obtain ⟨c6,c7⟩:=h.count _ (List.mem_cons_self ..) rfl
  refine ⟨fun j ch hj=>?_,fun r hr hl x hx=>?_,fun r hr hl=>?_,fun r hr hl=>?_,fun r hr r' hr' hl hl'=>?_⟩
  · obtain ⟨r,hr,hl,x,hx,e,e'⟩:=h.who j ch hj
    rcases List.mem_cons.1 hr with rfl|hr
    · exact ⟨_,List.mem_cons_self ..,rfl,x,hx,e,e'⟩
    · exact ⟨r,List.mem_cons_of_mem _ hr,hl,x,hx,e,e'⟩
  · rcases List.mem_cons.1 hr with rfl|hr
    · exact h.sits _ (List.mem_cons_self ..) rfl x hx
    · exact h.sits r (List.mem_cons_of_mem _ hr) hl x hx
  · show (w.setCell _ _).cell? _=_/\(w.setCell _ _).cell? _=_
    rcases List.mem_cons.1 hr with rfl|hr
    · refine ⟨?_,?_⟩
      · rw [World.cell?_setCell_same _ _ _ c6]
        have e:((cnt:Int)*4294967296+4294967296)=(k:Int)*4294967296:=by omega
        rw [e]
      · rw [World.cell?_setCell_other _ _ _ _ (by simp)]
        exact c7
    · obtain ⟨_,b2,_⟩:=hb r hr
      rw [World.cell?_setCell_other _ _ _ _ (by simp <;> omega),World.cell?_setCell_other _ _ _ _ (by simp)]
      exact h.count r (List.mem_cons_of_mem _ hr) hl
  · rcases List.mem_cons.1 hr with rfl|hr
    · exact h.nodup ⟨cb,c,D,ms,cnt,true⟩ (List.mem_cons_self ..) rfl
    · exact h.nodup r (List.mem_cons_of_mem _ hr) hl
  · rcases List.mem_cons.1 hr with rfl|hr <;> rcases List.mem_cons.1 hr' with rfl|hr'
    · exact ⟨fun _=>rfl,fun _=>rfl,(h.apart _ (List.mem_cons_self ..) _ (List.mem_cons_self ..) rfl rfl).2.2⟩
    · obtain ⟨b1,b2,b3⟩:=hb r' hr'
      obtain ⟨a1,a2,a3⟩:=h.apart _ (List.mem_cons_self ..) r' (List.mem_cons_of_mem _ hr') rfl hl'
      refine ⟨fun e=>?_,fun e=>by dsimp only at e;omega,a3⟩
      have:=congrArg Rec.c (a1 e)
      dsimp only at this
      omega
    · obtain ⟨b1,b2,b3⟩:=hb r hr
      obtain ⟨a1,a2,a3⟩:=h.apart r (List.mem_cons_of_mem _ hr) _ (List.mem_cons_self ..) hl rfl
      refine ⟨fun e=>?_,fun e=>by dsimp only at e;omega,a3⟩
      have:=congrArg Rec.c (a1 e)
      dsimp only at this
      omega
    · exact h.apart r (List.mem_cons_of_mem _ hr) r' (List.mem_cons_of_mem _ hr') hl hl'
theorem Held.more {cb c D cnt n j:Nat}{ms:List Member}{sb s W:Nat}(h:Held (⟨cb,c,D,ms,cnt,true⟩ :: g) w In)(hb:Below g n)(hc:n<=c)(hD:n<=D)(hW:n<=W)(hDW:D≠W)(hj:0<j)(hIn:∀ i d,In i=some d->i<j)(hms:ms.length<=3) :
    Held (⟨cb,c,D,ms ++ [⟨j,sb,s,W⟩],cnt,true⟩ :: g) w (upd In j (some (chairOf ⟨cb,c,D,ms ++ [⟨j,sb,s,W⟩],cnt,true⟩ ⟨j,sb,s,W⟩))):=by
  have ch:∀ (ms':List Member) (y:Member),chairOf ⟨cb,c,D,ms',cnt,true⟩ y=chairOf ⟨cb,c,D,ms,cnt,true⟩ y:=fun _ _=>rfl
  have no:In j=none:=by
    cases e:In j with
    | none=>rfl
    | some d=>exact absurd (hIn j d e) (Nat.lt_irrefl _)
  refine ⟨fun i d hi=>?_,fun r hr hl x hx=>?_,fun r hr hl=>?_,fun r hr hl=>?_,fun r hr r' hr' hl hl'=>?_⟩
  · by_cases e:i=j
    · subst e
      rw [upd_same] at hi
      exact ⟨_,List.mem_cons_self ..,rfl,_,List.mem_append_right _ (List.mem_cons_self ..),rfl,(Option.some.inj hi).symm⟩
    · rw [upd_ne _ _ e] at hi
      obtain ⟨r,hr,hl,x,hx,e1,e2⟩:=h.who i d hi
      rcases List.mem_cons.1 hr with rfl|hr
      · exact ⟨_,List.mem_cons_self ..,rfl,x,List.mem_append_left _ hx,e1,e2⟩
      · exact ⟨r,List.mem_cons_of_mem _ hr,hl,x,hx,e1,e2⟩
  · have key:∀ r0:Rec,r0 ∈ (⟨cb,c,D,ms,cnt,true⟩ :: g:List Rec)->r0.live=true->∀ y ∈ r0.ms,upd In j (some (chairOf ⟨cb,c,D,ms ++ [⟨j,sb,s,W⟩],cnt,true⟩ ⟨j,sb,s,W⟩)) y.j=some (chairOf r0 y):=fun r0 h0 hl0 y hy=>by
      have:=h.sits r0 h0 hl0 y hy
      have hne:y.j≠j:=fun e=>by rw [e,no] at this;cases this
      rw [upd_ne _ _ hne]
      exact this
    rcases List.mem_cons.1 hr with rfl|hr
    · rcases List.mem_append.1 hx with hx|hx
      · rw [ch]
        exact key _ (List.mem_cons_self ..) rfl x hx
      · rcases List.mem_cons.1 hx with rfl|hx
        · exact upd_same ..
        · cases hx
    · exact key r (List.mem_cons_of_mem _ hr) hl x hx
  · rcases List.mem_cons.1 hr with rfl|hr
    · exact h.count ⟨cb,c,D,ms,cnt,true⟩ (List.mem_cons_self ..) rfl
    · exact h.count r (List.mem_cons_of_mem _ hr) hl
  · rcases List.mem_cons.1 hr with rfl|hr
    · obtain ⟨n1,n2,n3⟩:=h.nodup _ (List.mem_cons_self ..) rfl
      have hout:∀ y ∈ ms,y.j≠j:=fun y hy e=>by
        have:=h.sits _ (List.mem_cons_self ..) rfl y hy
        rw [e,no] at this
        cases this
      refine ⟨?_,fun x hx=>?_,by simp;omega⟩
      · show ((ms ++ [_]).map _).Nodup
        rw [List.map_append,List.nodup_append]
        refine ⟨n1,by simp,fun a ha b hb e=>?_⟩
        obtain ⟨y,hy,rfl⟩:=List.mem_map.1 ha
        simp only [List.map_cons,List.map_nil,List.mem_cons,List.not_mem_nil,or_false] at hb
        exact hout y hy (e.trans hb)
      · rcases List.mem_append.1 hx with hx|hx
        · exact n2 x hx
        · rcases List.mem_cons.1 hx with rfl|hx
          · dsimp only;omega
          · cases hx
    · exact h.nodup r (List.mem_cons_of_mem _ hr) hl
  · rcases List.mem_cons.1 hr with rfl|hr <;> rcases List.mem_cons.1 hr' with rfl|hr'
    · refine ⟨fun _=>rfl,fun _=>rfl,fun x hx=>?_⟩
      rcases List.mem_append.1 hx with hx|hx
      · exact (h.apart _ (List.mem_cons_self ..) _ (List.mem_cons_self ..) rfl rfl).2.2 x hx
      · rcases List.mem_cons.1 hx with rfl|hx
        · exact hDW
        · cases hx
    · obtain ⟨b1,b2,b3⟩:=hb r' hr'
      exact ⟨fun e=>by dsimp only at e;omega,fun e=>by dsimp only at e;omega,fun x hx e=>by have:=b3 x hx;dsimp only at e;omega⟩
    · obtain ⟨b1,b2,b3⟩:=hb r hr
      refine ⟨fun e=>by dsimp only at e;omega,fun e=>by dsimp only at e;omega,fun x hx=>?_⟩
      rcases List.mem_append.1 hx with hx|hx
      · exact (h.apart r (List.mem_cons_of_mem _ hr) _ (List.mem_cons_self ..) hl rfl).2.2 x hx
      · rcases List.mem_cons.1 hx with rfl|hx
        · dsimp only;omega
        · cases hx
    · exact h.apart r (List.mem_cons_of_mem _ hr) r' (List.mem_cons_of_mem _ hr') hl hl'
end
end
section
section
variable {r:Rec}{x:Member}
theorem chair_cells:(chairOf r x).cells = [(⟨r.cb,0,none⟩,.pointer (some ⟨r.c,0,none⟩)),(⟨x.sb,0,none⟩,.pointer (some ⟨x.s,0,none⟩)),(⟨r.c,5,none⟩,.chan (some r.D)),(⟨x.s,16,none⟩,.chan (some x.W))]:=rfl
theorem chair_still {a:Addr}(ha:a=⟨r.cb,0,none⟩∨a=⟨x.sb,0,none⟩∨a=⟨r.c,5,none⟩∨a=⟨x.s,16,none⟩):(chairOf r x).still a:=by
  unfold Chair.still
  rw [chair_cells]
  rcases ha with rfl|rfl|rfl|rfl
  · exact ⟨.pointer (some ⟨r.c,0,none⟩),by simp⟩
  · exact ⟨.pointer (some ⟨x.s,0,none⟩),by simp⟩
  · exact ⟨.chan (some r.D),by simp⟩
  · exact ⟨.chan (some x.W),by simp⟩
theorem chair_reads {w:World}(h:(chairOf r x).K w):Reads r.cb x.sb r.c x.s r.D x.W w:=by
  unfold Chair.K at h
  rw [chair_cells] at h
  exact ⟨h _ _ (by simp),h _ _ (by simp),h _ _ (by simp),h _ _ (by simp)⟩
theorem b7_runs {cb sb c s D W:Nat}{w0 w1:Nat->World}{w2:Nat->Nat->World}{w3 w4:Nat->World}:isRun (b7 cb sb c s D W w0 w1 w2 w3 w4)=true:=by kernel_rfl
theorem running_of {g:Goroutine}(h:isRun g=true):g.status=.running:=by
  unfold isRun at h
  revert h
  cases g.status <;> simp
theorem atIn_b7 {w0 w1:Nat->World}{w2:Nat->Nat->World}{w3 w4:Nat->World}{K:World->Prop}{Still:Loc->Prop}{B:Nat}:AtIn Tryz.prog false K Still B (seatOf r x) (b7 r.cb x.sb r.c x.s r.D x.W w0 w1 w2 w3 w4) (b7 r.cb x.sb r.c x.s r.D x.W w0 w1 w2 w3 w4):=
  ⟨running_of b7_runs,rfl,rfl,rfl,⟨w0,w1,w2,w3,w4,rfl⟩,#[],by simp,fun w _=>b7_sel w⟩
theorem seated_born:Seated Tryz.prog false (chairOf r x).K (chairOf r x).loc (chairOf r x).B (chairOf r x).seat 32 (born0 r.cb x.sb):=by
  refine .inl ⟨31,default,rfl,?_⟩
  refine WayD.goes (Stop:=fun d g=>∃ w0 w1 w2 w3 w4,g=b7 r.cb x.sb r.c x.s r.D x.W w0 w1 w2 w3 w4) (fun w d h=>h.at d) (fun d g w h=>?_) (birth (c:=r.c) (s:=x.s) (D:=r.D) (W:=x.W) (fun w h=>chair_reads h) (fun a ha=>?_) fun w0 w1 w2 w3 w4=>⟨w0,w1,w2,w3,w4,rfl⟩)
  · obtain ⟨w0,w1,w2,w3,w4,e⟩:=h
    rw [e]
    exact ⟨_,atIn_b7⟩
  · refine ⟨a,rfl,⟨a,rfl,chair_still ha⟩,?_⟩
    show a.block<r.cb+x.sb+r.c+x.s+1
    rcases ha with rfl|rfl|rfl|rfl <;> (dsimp only;omega)
end
end
end Go.Proofs.Shardlog
namespace Go.Tame
open Go.Conc
section
section
variable {P:Program}{Z:Setting P}{cs:List Frame}{X:Z.Gh->Frame->List Frame->World->Prop}{b:Frame}{k:List Item}
theorem CW.loopI (ok:Z.Ok){c:Code}(I:Nat->Z.Gh->Act->World->Prop)(h:∀ n,(∀ m,m<n->∀ g a v,I m g a v->CW Z g (b.at a (.inLoop c :: k)) cs v X)->∀ g a v,I n g a v->CW Z g (b.at a (.code c :: .inLoop c :: k)) cs v X)(n:Nat)(g:Z.Gh)(a:Act)(v:World)(hI:I n g a v) :
    CW Z g (b.at a (.code (.loop c) :: k)) cs v X:=by
  have key:∀ n g a v,I n g a v->CW Z g (b.at a (.code c :: .inLoop c :: k)) cs v X:=by
    intro n
    induction n using Nat.strongRecOn with
    | _ n ih=>exact h n fun m hm g a v hI=>.inLoop ok (ih m hm g a v hI)
  exact .loop ok (key n g a v hI)
end
end
end Go.Tame
namespace Go.Proofs.Shardlog
open Go Go.Conc Go.Tame Go.Proofs
section
open Go.ConcN (upd upd_ne upd_same)
variable {Ω:World}
section
variable {g:List Rec}{fr:Frame}{cs:List Frame}{v:World}{X:List Rec->Frame->List Frame->World->Prop}{b:Frame}{a:Act}{k:List Item}{cb c D cnt n:Nat}{ms:List Member}
theorem ZZ.rest {l m:List Oper}{x:Oper}{rest:List Nat}(hr:rest=List.range' (l.length+1) m.length)(hops:(m.all fun o=>valOp o.op && okOp Tryz.prog o.op)=true)(hk:b.kind≠.early)
    (h:∀ (Q:_root_.Go.Exit->Act->World->Prop) (u:World),u.heap=v.heap->u.os=v.os->(∀ a' v',CW (ZZ Ω) g (b.at a' k) cs v' X->Q .normal a' v')->wpList Tryz.L (l++x :: m).toArray Q m a u):CW (ZZ Ω) g (b.at a (.inRegion (l++x :: m).toArray rest :: k)) cs v X:=by
  have e:rest=List.range' (l.length+1) m.length ++ []:=by simp [hr]
  rw [e]
  refine CW.preK ZZ.ok hk m (l.length+1) a v (fun j hj=>?_) (fun o ho=>?_) fun t _=>h _ (retape v t) rfl rfl fun a' v' hx=>⟨rfl,.regionEnd ZZ.ok hx⟩
  · rw [List.getElem?_toArray,List.getElem?_append_right (by omega),show l.length+1+j - l.length=j+1 by omega,List.getElem?_cons_succ]
  · have:=List.all_eq_true.1 hops o ho
    simpa using this
theorem ops_all {ops:Array Oper}(h:(ops.toList.all fun o=>valOp o.op && okOp Tryz.prog o.op)=true)(i:Nat)(o:Oper)(ho:ops[i]? = some o):valOp o.op=true/\okOp Tryz.prog o.op=true:=by
  have hm:o ∈ ops.toList:=List.mem_of_getElem? (i:=i) (by simpa using ho)
  have:=List.all_eq_true.1 h o hm
  simpa using this
theorem spawn_runs {Q:Program}{ρ:Operand->Value}{o:Oper}{c:Call}{x:Operand}{f:Fn}{first captured args:Array Value}(ho:o.op=.go c)(hc:c.callee=.value x)(hx:ρ x=.func f first captured)(ha:first++c.args.map ρ=args)(w:World) :
    (execOp ρ o).run Q w=.ok (.spawn { target:=.fn f captured,args:=args }) w/\(execOp ρ o).events Q w #[] = #[]:=by
  subst ha
  have e:execOp ρ o=(do pure (Next.spawn { target:=.fn f captured,args:=first++c.args.map ρ }):Sem Next):=by
    unfold execOp
    rw [ho]
    show (do pure (Next.spawn (← resolve ρ c o.type)):Sem Next)=_
    unfold resolve
    rw [hc]
    show (do pure (Next.spawn (← Deferred.ofValue (ρ x) (c.args.map ρ))):Sem Next)=_
    rw [hx]
    rfl
  rw [e]
  exact ⟨rfl,rfl⟩
theorem protOf_cnt (m:Nat):protOf Ω (⟨cb,c,D,ms,m,true⟩ :: g)=protOf Ω (⟨cb,c,D,ms,cnt,true⟩ :: g):=by
  unfold protOf
  congr 1
  · funext a
    simp only [List.mem_cons,exists_eq_or_imp,keepAt]
  · funext a
    simp only [List.mem_cons,exists_eq_or_imp]
theorem few {cnt:Nat}(h:cnt<=3):(cnt:Int)*4294967296=0∨Fewer ((cnt:Int)*4294967296):=by
  unfold Fewer
  omega
theorem zz_add (hb:Below g n)(hc:n<=c)(hcnt:cnt<=3)(h:CW (ZZ Ω) (⟨cb,c,D,ms,cnt+1,true⟩ :: g) (b.finish (.tuple #[])) cs v X) :
    CW (ZZ Ω) (⟨cb,c,D,ms,cnt,true⟩ :: g) (Frame.enter Tryz.prog 38 #[.pointer (some ⟨c,6,none⟩),.int .i64 1] .normal) (b :: cs) v X:=by
  have g6:(protOf Ω (⟨cb,c,D,ms,cnt,true⟩ :: g)).gone ⟨c,6,none⟩:=⟨_,List.mem_cons_self ..,.inl rfl⟩
  have g7:(protOf Ω (⟨cb,c,D,ms,cnt,true⟩ :: g)).gone ⟨c,7,none⟩:=⟨_,List.mem_cons_self ..,.inr rfl⟩
  refine CW.route (n:=143) (g':=⟨cb,c,D,ms,cnt+1,true⟩ :: g) (fr':=b.finish (.tuple #[])) (cs':=cs) (v':=v) (Rel:=fun w u=>∃ d,u=(w.setCell ⟨c,6,none⟩ (.int .u64 ((cnt:Int)*4294967296+4294967296))).at d) (protOf_cnt (cnt+1)) (fun w In hl hj=>?_) (fun w u d hl ⟨d',e⟩=>?_) (fun w u d In hl hj ⟨d',e⟩=>?_) h
  · obtain ⟨c6,c7⟩:=hj.count _ (List.mem_cons_self ..) rfl
    exact add_route (few hcnt) c6 (hl.warm g6 c6).2 (by rw [c7];rfl) (prot_apart _ _ g6) g6 g7 fun d=>⟨rfl,d,rfl⟩
  · subst e
    exact ((Like.goneSet hl g6 _).at _).at _
  · subst e
    exact (hj.countUp hb hc (cnt+1) d' (by omega)).at d
theorem zz_go {ops:Array Oper}{i:Nat}{rest:List Nat}{o:Oper}{sb s W:Nat}{xc xs:Array Value}{ec es:TypeId}{sr sr':Nat × Nat}(hb:Below g n)(hc:n<=c)(hD:n<=D)(hW:n<=W)(hDW:D≠W)(hms:ms.length<=3)(hne:s≠sb/\s≠cb/\s≠c/\sb≠c/\sb≠cb)(hΩ:Ω.heap.size<=sb/\Ω.heap.size<=s)
    (ho:ops[i]? = some o) (hw:Region.wanted o (yielded ops a.tmps)=true) (hk:b.kind≠.early) (hr:∀ w,(execOp a.eval o).run Tryz.prog w=.ok (.spawn (call39 cb sb)) w/\(execOp a.eval o).events Tryz.prog w #[] = #[])
    (hcb:v.heap[cb]? = some (.cells #[.pointer (some ⟨c,0,none⟩)] 23 (0,1))) (hsb:v.heap[sb]? = some (.cells #[.pointer (some ⟨s,0,none⟩)] 100 (0,0))) (hcc:v.heap[c]? = some (.cells xc ec (5,6))) (hc5:xc[5]? = some (.chan (some D)))
    (hs:v.heap[s]? = some (.cells xs es (0,0))) (hs16:xs[16]? = some (.chan (some W))) (hDc:v.heap[D]? = some (.chan 0 #[] false sr.1 sr.2 false)) (hWc:v.heap[W]? = some (.chan 0 #[] false sr'.1 sr'.2 false))
    (h:∀ j,CW (ZZ Ω) (⟨cb,c,D,ms ++ [⟨j,sb,s,W⟩],cnt,true⟩ :: g) (b.at (a.put o.dst undef) (.inRegion ops rest :: k)) cs (World.ice (World.ice v sb 0 1) s 16 17) X) :
    CW (ZZ Ω) (⟨cb,c,D,ms,cnt,true⟩ :: g) (b.at a (.inRegion ops (i :: rest) :: k)) cs v X:=by
  obtain ⟨n1,n2,n3,n4,n5⟩:=hne
  have cell_of:∀ {x:Nat} {cs:Array Value} {e:TypeId} {f:Nat × Nat} (j:Nat),v.heap[x]? = some (.cells cs e f)->v.cell? ⟨x,j,none⟩=cs[j]?:=fun {x cs e f} j h=>by
    unfold World.cell?
    rw [h]
    rfl
  have hs':(World.ice v sb 0 1).heap[s]? = some (.cells xs es (0,0)):=by rw [ice_ne n1];exact hs
  have frz:∀ x:Addr,x=⟨cb,0,none⟩∨x=⟨sb,0,none⟩∨x=⟨c,5,none⟩∨x=⟨s,16,none⟩->(World.ice (World.ice v sb 0 1) s 16 17).frozen? x=true:=by
    rintro x (rfl|rfl|rfl|rfl)
    · rw [ice_frozen (show cb≠s from Ne.symm n2),ice_frozen (show cb≠sb from Ne.symm n5)]
      unfold World.frozen?
      rw [hcb]
      rfl
    · rw [ice_frozen (show sb≠s from Ne.symm n1),show (World.ice v sb 0 1).frozen? ⟨sb,0,none⟩=_ from ice_frozen_self (a:=⟨sb,0,none⟩) rfl hsb]
      rfl
    · rw [ice_frozen (show c≠s from Ne.symm n3),ice_frozen (show c≠sb from Ne.symm n4)]
      unfold World.frozen?
      rw [hcc]
      rfl
    · rw [show (World.ice (World.ice v sb 0 1) s 16 17).frozen? ⟨s,16,none⟩=_ from ice_frozen_self (a:=⟨s,16,none⟩) rfl hs']
      rfl
  refine CW.go ZZ.ok (child:=born0 cb sb) (es:=#[]) (c:=chairOf ⟨cb,c,D,[],0,true⟩ ⟨0,sb,s,W⟩) (n:=32) (fr':=b.at (a.put o.dst undef) (.inRegion ops rest :: k)) (g':=fun j=>⟨cb,c,D,ms ++ [⟨j,sb,s,W⟩],cnt,true⟩ :: g) (v':=fun _=>World.ice (World.ice v sb 0 1) s 16 17) (fun w hl=>?_) (by simp) (chair_wf hDW) (fun x hx=>?_) (fun x y hxy=>?_) seated_born
    (fun j=>⟨fun x hx=>?_,fun x hx=>?_⟩) (fun j x hx=>?_) (fun j x hx=>?_) (fun j=>prot_apart _) (fun w j hl=>?_) (fun w In j hj hIn hl hh=>?_) h
  · rw [stepG_spawn ho hw hk (hr w).1 (d:=call39 cb sb) rfl,listed_none (hr w).2]
    rfl
  · rcases seat_has hx with rfl|rfl
    · exact ⟨_,_,_,hDc⟩
    · exact ⟨_,_,_,hWc⟩
  · rw [chair_cells] at hxy
    simp only [List.mem_cons,Prod.mk.injEq,List.not_mem_nil,or_false] at hxy
    rcases hxy with ⟨rfl,rfl⟩|⟨rfl,rfl⟩|⟨rfl,rfl⟩|⟨rfl,rfl⟩
    · rw [cell_of 0 hcb];rfl
    · rw [cell_of 0 hsb];rfl
    · rw [cell_of 5 hcc];exact hc5
    · rw [cell_of 16 hs];exact hs16
  · obtain ⟨r,hr,y,hy,hk⟩:=hx
    rcases List.mem_cons.1 hr with rfl|hr
    · exact ⟨_,List.mem_cons_self ..,y,List.mem_append_left _ hy,hk⟩
    · exact ⟨r,List.mem_cons_of_mem _ hr,y,hy,hk⟩
  · obtain ⟨r,hr,hk⟩:=hx
    rcases List.mem_cons.1 hr with rfl|hr
    · exact ⟨_,List.mem_cons_self ..,hk⟩
    · exact ⟨r,List.mem_cons_of_mem _ hr,hk⟩
  · obtain ⟨y,hy⟩:=hx
    rw [chair_cells] at hy
    refine ⟨_,List.mem_cons_self ..,⟨j,sb,s,W⟩,List.mem_append_right _ (List.mem_cons_self ..),?_⟩
    simp only [List.mem_cons,Prod.mk.injEq,List.not_mem_nil,or_false] at hy
    rcases hy with ⟨h,_⟩|⟨h,_⟩|⟨h,_⟩|⟨h,_⟩
    · exact .inl h
    · exact .inr (.inl h)
    · exact .inr (.inr (.inl h))
    · exact .inr (.inr (.inr h))
  · exact ⟨_,List.mem_cons_self ..,hx⟩
  · refine Like.more ((Like.ice hl hsb (fun i h1 h2=>by simp at h2) hΩ.1).ice hs' (fun i h1 h2=>by simp at h2) hΩ.2) (fun x hx=>?_) (fun x hx=>?_) rfl
    · obtain ⟨r,hr,y,hy,hk⟩:=hx
      rcases List.mem_cons.1 hr with rfl|hr
      · rcases List.mem_append.1 hy with hy|hy
        · exact .inl ⟨_,List.mem_cons_self ..,y,hy,hk⟩
        · rcases List.mem_cons.1 hy with rfl|hy
          · refine .inr ⟨?_,frz x hk⟩
            rcases hk with rfl|rfl|rfl|rfl <;> rfl
          · cases hy
      · exact .inl ⟨r,List.mem_cons_of_mem _ hr,y,hy,hk⟩
    · obtain ⟨r,hr,hk⟩:=hx
      rcases List.mem_cons.1 hr with rfl|hr
      · exact ⟨_,List.mem_cons_self ..,hk⟩
      · exact ⟨r,List.mem_cons_of_mem _ hr,hk⟩
  · exact Held.more hh hb hc hD hW hDW hj hIn hms
theorem zz_ghost {xc:Array Value}{ec:TypeId}{yb:Array Value}{eb:TypeId}(hΩ:Ω.heap.size<=c/\Ω.heap.size<=cb)(hb:Below g n)(hc:n<=c)(hD:n<=D)(hne:cb≠c)(hcc:v.heap[c]? = some (.cells xc ec (0,0)))(h6:xc[6]? = some (.int .u64 0))(h7:xc[7]? = some (.int .u32 0))(hcb:v.heap[cb]? = some (.cells yb eb (0,0)))
    (h:CW (ZZ Ω) (⟨cb,c,D,[],0,true⟩ :: g) fr cs (World.ice (World.cut v c 6 5 6) cb 0 1) X):CW (ZZ Ω) g fr cs v X:=by
  have hlt:7<xc.size:=(Array.getElem?_eq_some_iff.1 h7).1
  have cell_of:∀ (j:Nat),v.cell? ⟨c,j,none⟩=xc[j]?:=fun j=>by
    unfold World.cell?
    rw [hcc]
    rfl
  refine CW.ghost (g':=⟨cb,c,D,[],0,true⟩ :: g) ⟨fun x hx=>?_,fun x hx=>?_⟩ (prot_apart _) (fun w In hl hj=>⟨?_,hj.newRec hb hc hD (hl.cell ((cell_of 6).trans h6)) (hl.cell ((cell_of 7).trans h7))⟩) h
  · obtain ⟨r,hr,k⟩:=hx
    exact ⟨r,List.mem_cons_of_mem _ hr,k⟩
  · obtain ⟨r,hr,k⟩:=hx
    exact ⟨r,List.mem_cons_of_mem _ hr,k⟩
  · refine Like.ice (f:=(0,0)) (x:=yb) (e:=eb) (Like.cut hl hcc (fun i _ h2=>by simp at h2) (by omega) (by omega) (fun x hx=>?_) (fun x hx=>?_) rfl hΩ.1) (by rw [cut_ne hne];exact hcb) (fun i h1 h2=>by simp at h2) hΩ.2
    · obtain ⟨r,hr,y,hy,k⟩:=hx
      rcases List.mem_cons.1 hr with rfl|hr
      · cases hy
      · exact ⟨r,hr,y,hy,k⟩
    · obtain ⟨r,hr,k⟩:=hx
      rcases List.mem_cons.1 hr with rfl|hr
      · refine .inr ?_
        rcases k with rfl|rfl
        · exact ⟨rfl,rfl,by simp⟩
        · exact ⟨rfl,rfl,by simp⟩
      · exact .inl ⟨r,hr,k⟩
end
end
section
section
variable {v:World}
theorem alloc_get (u:World)(o:Obj)(i:Nat):(u.alloc o).heap[i]? = if i=u.heap.size then some o else u.heap[i]?:=by
  show (u.heap.push o)[i]? = _
  rw [Array.getElem?_push]
theorem alloc_size (u:World)(o:Obj):(u.alloc o).heap.size=u.heap.size+1:=by
  show (u.heap.push o).size=_
  rw [Array.size_push]
theorem alloc_os (u:World)(o:Obj):(u.alloc o).os=u.os:=rfl
theorem drew_get (u:World)(i:Nat):u.drew.heap[i]? = u.heap[i]?:=rfl
theorem drew_size (u:World):u.drew.heap.size=u.heap.size:=rfl
theorem drew_os (u:World):u.drew.os=u.os:=rfl
def emptyMap:Obj:=.map #[] 0
structure NewMem (v v':World) (m:Nat):Prop where
  maps:∀ i,i<6->v'.heap[m+i]? = some emptyMap
  ge:v.heap.size<=m
  le:m+6<=v'.heap.size
  old:∀ i,i<v.heap.size->v'.heap[i]? = v.heap[i]?
  os:v'.os=v.os
theorem lone_memory:Calls Tryz.L 70 #[] v fun e v'=>∃ m,e=.returned (.agg #[.map (some m),.map (some (m+1)),.map (some (m+2)),.map (some (m+3)),.map (some (m+4)),.map (some (m+5)),.slice none 0 0,.int .i64 0,.slice none 0 0,.int .i64 0])/\NewMem v v' m:=by
  have hmm:=@Go.RowKit.run_makeMap Tryz.L
  go_enter LL.func70,Tryz.ntmps70
  go_wp2
  refine bodyPost_ret (v:=.agg #[.map (some (v.heap.size+1)),.map (some (v.heap.size+1+1)),.map (some (v.heap.size+1+1+1)),.map (some (v.heap.size+1+1+1+1)),.map (some (v.heap.size+1+1+1+1+1)),.map (some (v.heap.size+1+1+1+1+1+1)),.slice none 0 0,.int .i64 0,.slice none 0 0,.int .i64 0]) (by simp [results,Tryz.results70,go_sem]) rfl ⟨v.heap.size+1,rfl,?_⟩
  refine ⟨fun i hi=>?_,by omega,?_,fun i hi=>?_,rfl⟩
  · simp only [alloc_get,alloc_size]
    rcases i with _|_|_|_|_|_|i <;> first|omega|simp [emptyMap]
  · simp only [alloc_size]
    omega
  · simp only [alloc_get,alloc_size]
    repeat rw [if_neg (by omega)]
theorem mkChan {t:TypeId}(h:(match Tryz.L.underlying t with|some (.chan _ e)=>(Tryz.L.info? e).isSome|_=>false)=true)(w:World):(Instr.makeChan t (.int .i64 0)).run Tryz.L w=.ok (.chan (some w.heap.size)) (w.alloc (.chan 0 #[] false 0 0 false)):=by
  cases hu:Tryz.L.underlying t with
  | none=>rw [hu] at h;cases h
  | some d=>
    rw [hu] at h
    cases d with
    | chan dir e=>
      obtain ⟨i,hi⟩:=Option.isSome_iff_exists.1 h
      simpa using run_makeChan (P:=Tryz.L) (w:=w) hu hi .i64 0 (by omega) (by simp)
    | _=>cases h
@[go_sem] theorem LL.mk150 (w:World):(Instr.makeChan 150 (.int .i64 0)).run Tryz.L w=.ok (.chan (some w.heap.size)) (w.alloc (.chan 0 #[] false 0 0 false)):=mkChan (by kernel_rfl) w
@[go_sem] theorem LL.mk151 (w:World):(Instr.makeChan 151 (.int .i64 0)).run Tryz.L w=.ok (.chan (some w.heap.size)) (w.alloc (.chan 0 #[] false 0 0 false)):=mkChan (by kernel_rfl) w
@[go_sem] theorem LL.mk85 (w:World):(Instr.makeChan 85 (.int .i64 0)).run Tryz.L w=.ok (.chan (some w.heap.size)) (w.alloc (.chan 0 #[] false 0 0 false)):=mkChan (by kernel_rfl) w
def newCells (a b:Int) (m W R:Nat):Array Value:=
  #[.int .i64 a,.int .i64 b,.bool true,.slice none 0 0,.int .i64 0,.map (some m),.map (some (m+1)),.map (some (m+2)),.map (some (m+3)),.map (some (m+4)),.map (some (m+5)),.slice none 0 0,.int .i64 0,.slice none 0 0,.int .i64 0,.slice none 0 0,.chan (some W),.chan (some R)]
structure NewShard (v v':World) (a b:Int) (s m W R:Nat):Prop where
  cells:v'.heap[s]? = some (.cells (newCells a b m W R) 154)
  maps:∀ i,i<6->v'.heap[m+i]? = some emptyMap
  work:v'.heap[W]? = some (.chan 0 #[] false 0 0 false)
  worked:v'.heap[R]? = some (.chan 0 #[] false 0 0 false)
  two:W≠R
  ge:v.heap.size<=s/\v.heap.size<=m/\v.heap.size<=W/\v.heap.size<=R
  le:v.heap.size<=v'.heap.size
  old:∀ i,i<v.heap.size->v'.heap[i]? = v.heap[i]?
  os:v'.os=v.os
theorem newShard_of {u v':World}{e:Ending}{a b:Int}{s m W R:Nat}(he:e=.returned (.pointer (some ⟨s,0,none⟩)))(hv:v'=u.alloc (.cells (newCells a b m W R) 154))(hs:s=u.heap.size)(maps:∀ i,i<6->u.heap[m+i]? = some emptyMap)
    (work:u.heap[W]? = some (.chan 0 #[] false 0 0 false)) (worked:u.heap[R]? = some (.chan 0 #[] false 0 0 false)) (two:W≠R) (ge:v.heap.size<=m/\v.heap.size<=W/\v.heap.size<=R) (old:∀ i,i<v.heap.size->u.heap[i]? = v.heap[i]?) (os:u.os=v.os) :
    ∃ s m W R,e=.returned (.pointer (some ⟨s,0,none⟩))/\NewShard v v' a b s m W R:=by
  have lt:∀ {i:Nat} {o:Obj},u.heap[i]? = some o->i≠u.heap.size:=fun {i o} h e=>by
    rw [e,Array.getElem?_eq_none_iff.2 (Nat.le_refl _)] at h
    cases h
  have hW:W<u.heap.size:=(Array.getElem?_eq_some_iff.1 work).1
  subst hs
  subst hv
  refine ⟨_,m,W,R,he,?_,fun i hi=>?_,?_,?_,two,⟨by omega,ge⟩,?_,fun i hi=>?_,os⟩
  · rw [alloc_get,if_pos rfl]
  · rw [alloc_get,if_neg (lt (maps i hi))]
    exact maps i hi
  · rw [alloc_get,if_neg (lt work)]
    exact work
  · rw [alloc_get,if_neg (lt worked)]
    exact worked
  · rw [alloc_size]
    omega
  · rw [alloc_get,if_neg (by omega)]
    exact old i hi
set_option maxHeartbeats 1000000 in
theorem lone_newShard (a b:Int):Calls Tryz.L 37 #[goInt a,goInt b] v fun e v'=>∃ s m W R,e=.returned (.pointer (some ⟨s,0,none⟩))/\NewShard v v' a b s m W R:=by
  go_enter LL.func37,Tryz.ntmps37
  go_wp2_with fail
  go_region_with (go_at_call 70;refine (lone_memory).mono ?_;rintro e w' ⟨m,rfl,hm⟩)
  all_goals go_wp2_with fail
  all_goals go_ret
  all_goals obtain ⟨h1,h2,h3,h4,h5⟩:=hm
  all_goals simp only [alloc_size,drew_size,alloc_get,drew_get,alloc_os,drew_os] at h2 h4 h5
  all_goals refine newShard_of (m:=m) rfl rfl (by simp only [alloc_size]) (fun i hi=>?_) ?_ ?_ ?_ ?_ (fun i hi=>?_) ?_
  all_goals try simp only [alloc_size,drew_size,alloc_get,drew_get,alloc_os,drew_os]
  all_goals first
    | exact h5
    | omega
    | (have h0:=h1 i hi;have hlt:m+i<w'.heap.size:=by omega
       repeat rw [if_neg (by omega)]
       exact h0)
    | (rw [if_pos trivial];done)
    | (rw [if_neg (by omega),if_pos trivial];done)
    | (rw [if_pos rfl];done)
    | (rw [if_neg (by omega),if_pos rfl];done)
    | (rw [if_neg (by omega),h4 _ (by omega),if_pos rfl];done)
    | (rw [h4 _ (by omega),if_pos rfl];done)
    | (rw [h4 _ (by omega),if_neg (by omega),if_pos rfl];done)
    | (rw [if_neg (by omega),if_neg (by omega),h4 _ (by omega)];done)
    | (rw [if_neg (by omega),h4 _ (by omega),if_neg (by omega)];done)
    | (rw [h4 _ (by omega),if_neg (by omega),if_neg (by omega)];done)
end
end
end Go.Proofs.Shardlog
