/- Several texts in one: TameStand, TameWay, TameHall, TameRoute, TameLock. -/
import Derived.Test.YtblcigmggdiccaaGreatDoorPart06
import Derived.Test.YtblcigmggdiccaaGreatDoorPart02
import Derived.Test.YtblcigmggdiccaaGreatDoorPart05
import Derived.Test.YtblcigmggdiccaaGreatDoorPart04
set_option linter.unusedSectionVars false
set_option linter.unusedSimpArgs false
set_option linter.unusedVariables false
namespace Go.Tame
open Go.Conc
section
section
variable {P:Program}{F:Array Func}{b:Frame}{a:Act}{k:List Item}{cs:List Frame}{v v':World}
theorem lone_step {Q:Program}{g g':Frame}{cs':List Frame}{es:Array Event}{n:Nat}{r:Stepped}(h:stepG Q true (G g cs) v=.go (G g' cs') v' es)(hk:runN Q n (solo (G g' cs') v')=r):runN Q (n+1) (solo (G g cs) v)=r:=by
  simp only [runN,step_solo_go rfl h]
  exact hk
theorem dead_step {g g':Frame}{cs':List Frame}{es:Array Event}(h:stepG (withFuncs P F) true (G g cs) v=.go (G g' cs') v' es)(hn:cs' ≠ [sent F])(hd:Dead1 P F (solo (G g' cs') v')):Dead1 P F (solo (G g cs) v):=
  dead_next (step_solo_go rfl h) hd fun fr' w' e=>by
    have:=congrArg (fun m=>(m.gs.getD 0 default).callers) e
    simp [solo,G] at this
    exact hn this
theorem dead_end {g:Frame}{o:Outcome}{x:World}(h:(stepG (withFuncs P F) true (G g cs) v).bare=.ended o x):Dead1 P F (solo (G g cs) v):=(lost_over (.inl ⟨o,x,h⟩)).dead
theorem dead_op {ops:Array Oper}{i:Nat}{rest:List Nat}{o:Oper}{h:Halt}{x:World}(ho:ops[i]? = some o)(hw:Region.wanted o (yielded ops a.tmps)=true)(hd:Dead h)(hr:(execOp a.eval o).run (withFuncs P F) v=.halt h x):Dead1 P F (solo (G (b.at a (.inRegion ops (i :: rest) :: k)) cs) v):=by
  obtain ⟨o',w',he⟩:=apply_dead (Q:=withFuncs P F) (fr:=b.at a (.inRegion ops (i :: rest) :: k)) (cs:=cs) hd hr
  refine dead_end (o:=o') (x:=w') ?_
  have hst:stepG (withFuncs P F) true (G (b.at a (.inRegion ops (i :: rest) :: k)) cs) v=stepG.apply (withFuncs P F) true (b.at a (.inRegion ops (i :: rest) :: k)) cs none (execOp a.eval o) v:=stepG_op ho hw
  rw [hst];exact he
theorem step_val {Q:Program}{ops:Array Oper}{i:Nat}{rest:List Nat}{o:Oper}{y:Value}(hk:b.kind≠.early)(ho:ops[i]? = some o)(hw:Region.wanted o (yielded ops a.tmps)=true)(hr:(execOp a.eval o).run Q v=.ok (.value y) v'):∃ es,stepG Q true (G (b.at a (.inRegion ops (i :: rest) :: k)) cs) v=.go (G (b.at (a.put o.dst y) (.inRegion ops rest :: k)) cs) v' es:=by
  have hst:stepG Q true (G (b.at a (.inRegion ops (i :: rest) :: k)) cs) v=stepG.apply Q true (b.at a (.inRegion ops (i :: rest) :: k)) cs none (execOp a.eval o) v:=stepG_op ho hw
  obtain ⟨es,_,h,_⟩:=apply_ok (Q:=Q) (fr:=b.at a (.inRegion ops (i :: rest) :: k)) (cs:=cs) hk hr
  refine ⟨es,?_⟩
  rw [hst,h y rfl,Frame.finish_at,ho];rfl
theorem step_unit {Q:Program}{ops:Array Oper}{i:Nat}{rest:List Nat}{o:Oper}(hk:b.kind≠.early)(ho:ops[i]? = some o)(hw:Region.wanted o (yielded ops a.tmps)=true)(hr:(execOp a.eval o).run Q v=.ok .skip v'):∃ es,stepG Q true (G (b.at a (.inRegion ops (i :: rest) :: k)) cs) v=.go (G (b.at (a.put o.dst undef) (.inRegion ops rest :: k)) cs) v' es:=by
  have hst:stepG Q true (G (b.at a (.inRegion ops (i :: rest) :: k)) cs) v=stepG.apply Q true (b.at a (.inRegion ops (i :: rest) :: k)) cs none (execOp a.eval o) v:=stepG_op ho hw
  obtain ⟨es,_,_,h,_⟩:=apply_ok (Q:=Q) (fr:=b.at a (.inRegion ops (i :: rest) :: k)) (cs:=cs) hk hr
  refine ⟨es,?_⟩
  rw [hst,h rfl,Frame.finish_at,ho];rfl
theorem step_skip {Q:Program}{ops:Array Oper}{i:Nat}{rest:List Nat}{o:Oper}(ho:ops[i]? = some o)(hw:Region.wanted o (yielded ops a.tmps)=false):stepG Q true (G (b.at a (.inRegion ops (i :: rest) :: k)) cs) v=.go (G (b.at (a.put o.dst undef) (.inRegion ops rest :: k)) cs) v #[]:=by
  have hf:(b.at a (.inRegion ops (i :: rest) :: k)).finish undef=b.at (a.put o.dst undef) (.inRegion ops rest :: k):=by rw [Frame.finish_at,ho];rfl
  rw [← hf]
  simp only [Frame.at,G] at *
  simp [stepG,stepG.exec,ho,hw]
theorem dead_refuse {m:String}:Dead1 P F (solo (G (b.at a (.code (.refuse m) :: k)) cs) v):=by
  have:∃ o x,(stepG (withFuncs P F) true (G (b.at a (.code (.refuse m) :: k)) cs) v).bare=.ended o x:=by
    simp [stepG,stepG.exec,Frame.at,G]
  obtain ⟨o,x,h⟩:=this
  exact dead_end h
end
end
end Go.Tame
namespace Go.Proofs
open Go Go.Conc Go.Tame
section
section
variable {v:World}{x y:Value}{n:Int}
theorem und21L (w:World):(underlying 21).run Tryz.L w=.ok (.int .i32) w:=by
  rw [LL.runUnderlying,Tryz.runUnderlying21]
theorem eql_any (w:World)(y:Value){k:Int}(hk:k=0∨k=1):(∃ t:Bool,(binOp .eql 21 y (.int .i32 k)).run Tryz.L w=.ok (.bool t) w/\(t=true->y=.int .i32 k))∨∃ h,Dead h/\(binOp .eql 21 y (.int .i32 k)).run Tryz.L w=.halt h w:=by
  have eqd:∀ y,(Op.equal 21 y (.int .i32 k))=Op.equalIn (9999+1) 21 y (.int .i32 k):=fun y=>rfl
  have key:∀ y,(∀ k' m,y≠.int k' m)->(∀ o,y≠.pointer o)->∃ h,Dead h/\(Op.equal 21 y (.int .i32 k)).run Tryz.L w=.halt h w:=by
    intro y h1 h2
    rw [eqd,Op.equalIn]
    simp only [Sem.run_bind,und21L,Result.andThen_ok]
    cases y <;> first|exact absurd rfl (h1 _ _)|exact absurd rfl (h2 _)|exact ⟨.stuck _,trivial,rfl⟩
  have lift:∀ y,(binOp .eql 21 y (.int .i32 k))=(do pure (.bool (← Op.equal 21 y (.int .i32 k))))->(∃ h,Dead h/\(Op.equal 21 y (.int .i32 k)).run Tryz.L w=.halt h w)->∃ h,Dead h/\(binOp .eql 21 y (.int .i32 k)).run Tryz.L w=.halt h w:=by
    rintro y e ⟨h,hd,hr⟩
    refine ⟨h,hd,?_⟩
    rw [e,Sem.run_bind,hr];rfl
  cases y with
  | int k' m=>
    by_cases hk:k'=.i32
    · subst hk
      refine .inl ⟨m == k,?_,fun h=>by rw [eq_of_beq h]⟩
      simp [binOp,Op.intCmp]
    · refine .inr ⟨.stuck "BinOp: operands of different kinds",trivial,?_⟩
      simp [binOp,hk]
  | pointer o=>
    have hb:(binOp .eql 21 (.pointer o) (.int .i32 k))=(do pure (.bool (← Op.equal 21 (.pointer o) (.int .i32 k)))):=by cases o <;> rfl
    have hrun:(∃ h,Dead h/\(Op.equal 21 (.pointer o) (.int .i32 k)).run Tryz.L w=.halt h w)∨(Op.equal 21 (.pointer o) (.int .i32 k)).run Tryz.L w=.ok false w:=by
      rw [eqd,Op.equalIn]
      simp only [Sem.run_bind,und21L,Result.andThen_ok]
      cases o with
      | none=>rcases hk with rfl|rfl <;> exact .inl ⟨.unsupported .addressObserved,trivial,rfl⟩
      | some a=>
        rcases hk with rfl|rfl
        · exact .inr rfl
        · exact .inl ⟨.unsupported .addressObserved,trivial,rfl⟩
    rcases hrun with h|h
    · exact .inr (lift _ hb h)
    · refine .inl ⟨false,?_,nofun⟩
      rw [hb,Sem.run_bind,h];rfl
  | _=>exact .inr (lift _ rfl (key _ (by simp) (by simp)))
theorem isAgg21L (w:World):(isAgg 21).run Tryz.L w=.ok false w:=by rw [LL.isAgg,Tryz.isAgg21]
theorem load21 (w:World)(x:Value):(∃ ad y,x=.pointer (some ad)/\w.cell? ad=some y/\(Instr.loadAt 21 x).run Tryz.L w=.ok y w)∨(∃ ad,x=.pointer (some ad)/\w.cell? ad=none/\(Instr.loadAt 21 x).run Tryz.L w=(load ad .plain).run Tryz.L w)∨∃ m,(Instr.loadAt 21 x).run Tryz.L w=.halt (.stuck m) w:=by
  have hp:∀ ad,(Instr.loadAt 21 (.pointer (some ad))).run Tryz.L w=(load ad .plain).run Tryz.L w:=fun ad=>by
    unfold Instr.loadAt Instr.sureAddr loadVar
    simp only [Sem.run_bind,Sem.run_pure,Result.andThen_ok,isAgg21L,Bool.false_eq_true,if_false]
  cases x with
  | pointer o=>
    cases o with
    | none=>exact .inr (.inr ⟨_,rfl⟩)
    | some ad=>
      cases hc:w.cell? ad with
      | none=>exact .inr (.inl ⟨ad,rfl,hc,hp ad⟩)
      | some y=>exact .inl ⟨ad,y,rfl,hc,by rw [hp];simp [load,Sem.run,hc]⟩
  | _=>exact .inr (.inr ⟨_,rfl⟩)
theorem store21 (w:World)(ad:Addr){y:Value}{n:Int}(hc:w.cell? ad=some y):(Instr.storeAt 21 (.pointer (some ad)) (.int .i32 n)).run Tryz.L w=if w.frozen? ad=true then .halt (.unsupported (.unsafePointer "a write to bytes that a string shares")) w else .ok () (w.setCell ad (.int .i32 n)):=by
  unfold Instr.storeAt Instr.sureAddr storeVar
  simp only [Sem.run_bind,Sem.run_pure,Result.andThen_ok,isAgg21L,Bool.false_eq_true,if_false]
  have h0:ad.add 0=ad:=rfl
  by_cases hf:w.frozen? ad=true <;> simp [h0,LL.sizeOf,Tryz.sizeOf21,Value.cells,storeCells,store,Sem.run,hc,Value.oneCell',hf]
theorem stand_any {S:Prot}{w:World}{k n:Int}(hk:k=0∨k=1){f:FuncId}{fn:Func}(hf:Tryz.L.funcs[f]? = some fn)(hb:fn.body=some (standIn k n))(hn:fn.ntmps=2)(hres:fn.results=#[]){args:Array Value}{kind:CallKind}(hkd:kind=.normal∨kind=.deferred){a:Frame}{cs:List Frame}(hcs:cs ≠ [])(hl:Like S w v) :
    (∃ ad x,(args++Array.replicate (2 - args.size) undef)=#[.pointer (some ad),x]/\v.cell? ad=some (.int .i32 k)/\v.frozen? ad=false/\∃ steps,∀ t',runN Tryz.L steps (solo (G (Frame.enter Tryz.L f args kind) (a :: cs)) (retape v t'))=.next (solo (G (Tame.ret kind a (.tuple #[])) cs) (retape (v.setCell ad (.int .i32 n)) t'))) ∨
    Dead1 Tryz.prog Tryz.FL (solo (G (Frame.enter Tryz.L f args kind) (a :: cs)) v):=by
  obtain ⟨tm,htm⟩:∃ tm,tm=args++Array.replicate (2 - args.size) undef:=⟨_,rfl⟩
  have hen:Frame.enter Tryz.L f args kind=({ base f with kind:=kind }:Frame).at ⟨tm,[]⟩ [.code (standIn k n)]:=by
    simp [Frame.enter,Frame.at,hf,hb,hn,base,htm]
  have hkn:kind≠.early:=by rcases hkd with rfl|rfl <;> nofun
  generalize hbb:({ base f with kind:=kind }:Frame)=b at hen
  have hbk:b.kind=kind:=by rw [← hbb]
  have hbf:b.fn=f:=by rw [← hbb];rfl
  have hbe:b.kind≠.early:=by rw [hbk];exact hkn
  have hne:∀ c:Frame,a :: cs ≠ [sent Tryz.FL]:=fun _ e=>hcs (by injection e)
  rw [← htm,hen]
  have s1:∀ (A:Act) (u:World),stepG Tryz.L true (G (b.at A [.code (standIn k n)]) (a :: cs)) u=.go (G (b.at A [.code (.region 0 (standOps k) false),.code (.cond (.tmp 1) (.seq (.region 1 (standPut n) false) .ret) (.refuse ""))]) (a :: cs)) u #[]:=fun A u=>by
    simp [stepG,stepG.exec,Frame.at,G,standIn]
  have s2:∀ (A:Act) (r:List Item) (u:World),stepG Tryz.L true (G (b.at A (.code (.region 0 (standOps k) false) :: r)) (a :: cs)) u=.go (G (b.at A (.inRegion (standOps k) [0,1,2,3] :: r)) (a :: cs)) u #[]:=fun A r u=>by
    simp [stepG,stepG.exec,Frame.at,G,standOps]
    rfl
  have s3:∀ (A:Act) (r:List Item) (u:World),∃ es,stepG Tryz.L true (G (b.at A (.inRegion (standOps k) [0,1,2,3] :: r)) (a :: cs)) u=.go (G (b.at (A.put (some 2) (.bool true)) (.inRegion (standOps k) [1,2,3] :: r)) (a :: cs)) u es:=fun A r u=>
    step_val (o:={ dst:=some 2,op:=.assign (.const (.bool true)),type:=4,pos:= "",after:=#[],guard:=none }) hbe rfl rfl rfl
  generalize hcond:Item.code (.cond (.tmp 1) (.seq (.region 1 (standPut n) false) .ret) (.refuse ""))=ic at s1
  obtain ⟨es3,t3⟩:=s3 ⟨tm,[]⟩ [ic] v
  have hd3:Dead1 Tryz.prog Tryz.FL (solo (G (b.at ((⟨tm,[]⟩:Act).put (some 2) (.bool true)) [.inRegion (standOps k) [1,2,3],ic]) (a :: cs)) v)->Dead1 Tryz.prog Tryz.FL (solo (G (b.at ⟨tm,[]⟩ [.code (standIn k n)]) (a :: cs)) v):=fun h=>
    dead_step (s1 _ _) (hne a) (dead_step (s2 _ _ _) (hne a) (dead_step t3 (hne a) h))
  by_cases hsz:2<tm.size
  · -- handed too much
    refine .inr (hd3 ?_)
    refine dead_op (o:={ dst:=none,op:=.load 21 (.const (.pointer none)),type:=21,pos:= "",after:=#[],guard:=some (0,true) }) (h:=.stuck "an address expected (no nilCheck in front?)") (x:=v) rfl ?_ trivial rfl
    simp [Region.wanted,yielded,standOps,Act.put,hsz]
  · have h2:tm.size=2:=by
      have:2<=tm.size:=by rw [htm];simp;omega
      omega
    obtain ⟨x0,x1,rfl⟩:∃ x0 x1,tm=#[x0,x1]:=by
      obtain ⟨l⟩:=tm
      match l,h2 with
      | [x0,x1],_=>exact ⟨x0,x1,rfl⟩
    have e1:(⟨#[x0,x1],[]⟩:Act).put (some 2) (.bool true)=⟨#[x0,x1],[]⟩:=rfl
    rw [e1] at t3 hd3
    have t4:∀ u,stepG Tryz.L true (G (b.at ⟨#[x0,x1],[]⟩ [.inRegion (standOps k) [1,2,3],ic]) (a :: cs)) u=.go (G (b.at ⟨#[x0,x1],[]⟩ [.inRegion (standOps k) [2,3],ic]) (a :: cs)) u #[]:=fun u=>
      Tame.step_skip (o:={ dst:=none,op:=.load 21 (.const (.pointer none)),type:=21,pos:= "",after:=#[],guard:=some (0,true) }) rfl (by simp [Region.wanted,yielded,standOps])
    have hx0:(⟨#[x0,x1],[]⟩:Act).eval (.tmp 0)=x0:=rfl
    have hop2:∀ u,(execOp (⟨#[x0,x1],[]⟩:Act).eval { dst:=some 1,op:=.load 21 (.tmp 0),type:=21,pos:= "",after:=#[],guard:=none }).run Tryz.L u=((Instr.loadAt 21 x0).run Tryz.L u).andThen fun y u'=>.ok (.value y) u':=fun u=>by
      show (do pure (Next.value (← Instr.loadAt 21 ((⟨#[x0,x1],[]⟩:Act).eval (.tmp 0)))):Sem Next).run Tryz.L u=_
      rw [hx0,Sem.run_bind];rfl
    have deadAt:∀ (h:Halt),Dead h->(Instr.loadAt 21 x0).run Tryz.L v=.halt h v->Dead1 Tryz.prog Tryz.FL (solo (G (b.at ⟨#[x0,x1],[]⟩ [.code (standIn k n)]) (a :: cs)) v):=fun h hd hr=>by
      refine hd3 (dead_step (t4 v) (hne a) ?_)
      refine dead_op (o:={ dst:=some 1,op:=.load 21 (.tmp 0),type:=21,pos:= "",after:=#[],guard:=none }) (h:=h) (x:=v) rfl rfl hd ?_
      have:=hop2 v
      rw [hr] at this
      exact this
    rcases load21 v x0 with ⟨ad,y,rfl,hc,hr⟩|⟨ad,rfl,hc,hr⟩|⟨m,hr⟩
    · have hl2:∀ t',(Instr.loadAt 21 (.pointer (some ad))).run Tryz.L (retape v t')=.ok y (retape v t'):=fun t'=>by
        rcases load21 (retape v t') (.pointer (some ad)) with ⟨ad',y',e,hc',hr'⟩|⟨ad',e,hc',_⟩|⟨m,hr'⟩
        · cases e
          have:y'=y:=by
            have h:(retape v t').cell? ad=v.cell? ad:=rfl
            rw [h,hc] at hc';exact (Option.some.inj hc').symm
          rw [hr',this]
        · cases e
          have h:(retape v t').cell? ad=v.cell? ad:=rfl
          rw [h,hc] at hc';cases hc'
        · unfold Instr.loadAt Instr.sureAddr loadVar at hr' ⊢
          simp only [Sem.run_bind,Sem.run_pure,Result.andThen_ok,isAgg21L,Bool.false_eq_true,if_false] at hr' ⊢
          have h:(retape v t').cell? ad=some y:=hc
          simp [load,Sem.run,h]
      have t5:∀ t',∃ es,stepG Tryz.L true (G (b.at ⟨#[.pointer (some ad),x1],[]⟩ [.inRegion (standOps k) [2,3],ic]) (a :: cs)) (retape v t')=.go (G (b.at ⟨#[.pointer (some ad),y],[]⟩ [.inRegion (standOps k) [3],ic]) (a :: cs)) (retape v t') es:=fun t'=>
        step_val (o:={ dst:=some 1,op:=.load 21 (.tmp 0),type:=21,pos:= "",after:=#[],guard:=none }) (y:=y) hbe rfl rfl (by rw [hop2,hl2 t'];rfl)
      have hop3:∀ u,(execOp (⟨#[.pointer (some ad),y],[]⟩:Act).eval { dst:=some 1,op:=.binOp .eql 21 (.tmp 1) (.const (.int .i32 k)) 21,type:=4,pos:= "",after:=#[],guard:=none }).run Tryz.L u=((binOp .eql 21 y (.int .i32 k)).run Tryz.L u).andThen fun y u'=>.ok (.value y) u':=fun u=>by
        have hg:eqGuard .eql 21 (.tmp 1) (.const (.int .i32 k)) y (.int .i32 k)=pure ():=by cases y <;> rfl
        show (do pure (Next.value (← (do eqGuard .eql 21 (.tmp 1) (.const (.int .i32 k)) y (.int .i32 k);binOp .eql 21 y (.int .i32 k)))):Sem Next).run Tryz.L u=_
        rw [hg,Sem.run_bind,Sem.run_bind];rfl
      have hre:retape v v.tape=v:=rfl
      have hd5:Dead1 Tryz.prog Tryz.FL (solo (G (b.at ⟨#[.pointer (some ad),y],[]⟩ [.inRegion (standOps k) [3],ic]) (a :: cs)) v)->Dead1 Tryz.prog Tryz.FL (solo (G (b.at ⟨#[.pointer (some ad),x1],[]⟩ [.code (standIn k n)]) (a :: cs)) v):=fun h=>by
        obtain ⟨es,t5⟩:=t5 v.tape
        exact hd3 (dead_step (t4 v) (hne a) (dead_step t5 (hne a) h))
      rcases eql_any v y hk with ⟨t,hq,ht⟩|⟨h,hd,hq⟩
      · have t6:∀ t',(binOp .eql 21 y (.int .i32 k)).run Tryz.L (retape v t')=.ok (.bool t) (retape v t')->∃ es,stepG Tryz.L true (G (b.at ⟨#[.pointer (some ad),y],[]⟩ [.inRegion (standOps k) [3],ic]) (a :: cs)) (retape v t')=.go (G (b.at ⟨#[.pointer (some ad),.bool t],[]⟩ [.inRegion (standOps k) [],ic]) (a :: cs)) (retape v t') es:=fun t' hq'=>
          step_val (o:={ dst:=some 1,op:=.binOp .eql 21 (.tmp 1) (.const (.int .i32 k)) 21,type:=4,pos:= "",after:=#[],guard:=none }) (y:=.bool t) hbe rfl rfl (by rw [hop3,hq'];rfl)
        have t7:∀ u,stepG Tryz.L true (G (b.at ⟨#[.pointer (some ad),.bool t],[]⟩ [.inRegion (standOps k) [],ic]) (a :: cs)) u=.go (G (b.at ⟨#[.pointer (some ad),.bool t],[]⟩ [ic]) (a :: cs)) u #[]:=fun u=>by simp [stepG,stepG.exec,Frame.at,G]
        cases t with
        | false=>
          have t8:∀ u,stepG Tryz.L true (G (b.at ⟨#[.pointer (some ad),.bool false],[]⟩ [ic]) (a :: cs)) u=.go (G (b.at ⟨#[.pointer (some ad),.bool false],[]⟩ [.code (.refuse "")]) (a :: cs)) u #[]:=fun u=>by
            rw [← hcond]
            have:(b.at ⟨#[.pointer (some ad),.bool false],[]⟩ [.code (.cond (.tmp 1) (.seq (.region 1 (standPut n) false) .ret) (.refuse ""))]).eval (.tmp 1)=.bool false:=rfl
            simp only [Frame.at] at this
            simp [stepG,stepG.exec,Frame.at,G,this]
          obtain ⟨es6,t6⟩:=t6 v.tape hq
          exact .inr (hd5 (dead_step t6 (hne a) (dead_step (t7 v) (hne a) (dead_step (t8 v) (hne a) dead_refuse))))
        | true=>
          have hy:=ht rfl
          subst hy
          have hq':∀ t',(binOp .eql 21 (.int .i32 k) (.int .i32 k)).run Tryz.L (retape v t')=.ok (.bool true) (retape v t'):=fun t'=>by simp [binOp,Op.intCmp]
          have t8:∀ u,stepG Tryz.L true (G (b.at ⟨#[.pointer (some ad),.bool true],[]⟩ [ic]) (a :: cs)) u=.go (G (b.at ⟨#[.pointer (some ad),.bool true],[]⟩ [.code (.seq (.region 1 (standPut n) false) .ret)]) (a :: cs)) u #[]:=fun u=>by
            rw [← hcond]
            have:(b.at ⟨#[.pointer (some ad),.bool true],[]⟩ [.code (.cond (.tmp 1) (.seq (.region 1 (standPut n) false) .ret) (.refuse ""))]).eval (.tmp 1)=.bool true:=rfl
            simp only [Frame.at] at this
            simp [stepG,stepG.exec,Frame.at,G,this]
          have t9:∀ u,stepG Tryz.L true (G (b.at ⟨#[.pointer (some ad),.bool true],[]⟩ [.code (.seq (.region 1 (standPut n) false) .ret)]) (a :: cs)) u=.go (G (b.at ⟨#[.pointer (some ad),.bool true],[]⟩ [.code (.region 1 (standPut n) false),.code .ret]) (a :: cs)) u #[]:=fun u=>by simp [stepG,stepG.exec,Frame.at,G]
          have t10:∀ u,stepG Tryz.L true (G (b.at ⟨#[.pointer (some ad),.bool true],[]⟩ [.code (.region 1 (standPut n) false),.code .ret]) (a :: cs)) u=.go (G (b.at ⟨#[.pointer (some ad),.bool true],[]⟩ [.inRegion (standPut n) [0],.code .ret]) (a :: cs)) u #[]:=fun u=>by
            simp [stepG,stepG.exec,Frame.at,G,standPut]
          have hop4:∀ u,u.cell? ad=some (.int .i32 k)->(execOp (⟨#[.pointer (some ad),.bool true],[]⟩:Act).eval { dst:=none,op:=.store 21 (.tmp 0) (.const (.int .i32 n)),type:=0,pos:= "",after:=#[],guard:=none }).run Tryz.L u=(if u.frozen? ad=true then .halt (.unsupported (.unsafePointer "a write to bytes that a string shares")) u else .ok .skip (u.setCell ad (.int .i32 n))):=fun u hu=>by
            show (do Instr.storeAt 21 (.pointer (some ad)) (.int .i32 n);pure Next.skip:Sem Next).run Tryz.L u=_
            rw [Sem.run_bind,store21 u ad hu]
            split <;> rfl
          have pre:∀ (steps:Nat) (t':Nat->Question->Nat) (r:Stepped),runN Tryz.L steps (solo (G (b.at ⟨#[.pointer (some ad),.bool true],[]⟩ [.inRegion (standPut n) [0],.code .ret]) (a :: cs)) (retape v t'))=r->runN Tryz.L (steps+10) (solo (G (b.at ⟨#[.pointer (some ad),x1],[]⟩ [.code (standIn k n)]) (a :: cs)) (retape v t'))=r:=fun steps t' r h=>by
            obtain ⟨es5,u5⟩:=t5 t'
            obtain ⟨es6,u6⟩:=t6 t' (hq' t')
            obtain ⟨es3',u3⟩:=s3 ⟨#[.pointer (some ad),x1],[]⟩ [ic] (retape v t')
            rw [e1] at u3
            exact lone_step (s1 _ _) (lone_step (s2 _ _ _) (lone_step u3 (lone_step (t4 _) (lone_step u5 (lone_step u6 (lone_step (t7 _) (lone_step (t8 _) (lone_step (t9 _) (lone_step (t10 _) h)))))))))
          cases hz:v.frozen? ad with
          | true=>
            refine .inr ?_
            obtain ⟨es5,u5⟩:=t5 v.tape
            obtain ⟨es6,u6⟩:=t6 v.tape (hq' v.tape)
            refine hd5 (dead_step u6 (hne a) (dead_step (t7 v) (hne a) (dead_step (t8 v) (hne a) (dead_step (t9 v) (hne a) (dead_step (t10 v) (hne a) ?_)))))
            refine dead_op (o:={ dst:=none,op:=.store 21 (.tmp 0) (.const (.int .i32 n)),type:=0,pos:= "",after:=#[],guard:=none }) (h:=.unsupported (.unsafePointer "a write to bytes that a string shares")) (x:=v) rfl rfl trivial ?_
            have:=hop4 v hc
            rw [if_pos hz] at this
            exact this
          | false=>
            refine .inl ⟨ad,x1,rfl,hc,hz,4+10,fun t'=>pre 4 t' _ ?_⟩
            have t11:∃ es,stepG Tryz.L true (G (b.at ⟨#[.pointer (some ad),.bool true],[]⟩ [.inRegion (standPut n) [0],.code .ret]) (a :: cs)) (retape v t')=.go (G (b.at ⟨#[.pointer (some ad),.bool true],[]⟩ [.inRegion (standPut n) [],.code .ret]) (a :: cs)) (retape (v.setCell ad (.int .i32 n)) t') es:=
              step_unit (o:={ dst:=none,op:=.store 21 (.tmp 0) (.const (.int .i32 n)),type:=0,pos:= "",after:=#[],guard:=none }) hbe rfl rfl (by
                have:=hop4 (retape v t') hc
                rw [if_neg (by rw [show (retape v t').frozen? ad=v.frozen? ad from rfl,hz];simp)] at this
                exact this)
            obtain ⟨es11,t11⟩:=t11
            have t12:∀ u,stepG Tryz.L true (G (b.at ⟨#[.pointer (some ad),.bool true],[]⟩ [.inRegion (standPut n) [],.code .ret]) (a :: cs)) u=.go (G (b.at ⟨#[.pointer (some ad),.bool true],[]⟩ [.code .ret]) (a :: cs)) u #[]:=fun u=>by simp [stepG,stepG.exec,Frame.at,G]
            have t13:∀ u,stepG Tryz.L true (G (b.at ⟨#[.pointer (some ad),.bool true],[]⟩ [.code .ret]) (a :: cs)) u=.go (G { b.at ⟨#[.pointer (some ad),.bool true],[]⟩ [.code .ret] with mode:=.returning } (a :: cs)) u #[]:=fun u=>by simp [stepG,stepG.exec,Frame.at,G]
            have t14:∀ u,∃ es,stepG Tryz.L true (G { b.at ⟨#[.pointer (some ad),.bool true],[]⟩ [.code .ret] with mode:=.returning } (a :: cs)) u=.go (G (Tame.ret kind a (.tuple #[])) cs) u es:=fun u=>by
              have hrs:(results fn #[.pointer (some ad),.bool true]).run Tryz.L u=.ok (.tuple #[]) u:=by simp [results,hres]
              refine ⟨GStep.es (GStep.after (seen Tryz.L f ((results fn #[.pointer (some ad),.bool true]).events Tryz.L u #[])) (.go (G (Tame.ret kind a (.tuple #[])) cs) u #[])),?_⟩
              have:stepG Tryz.L true (G { b.at ⟨#[.pointer (some ad),.bool true],[]⟩ [.code .ret] with mode:=.returning } (a :: cs)) u=GStep.after (seen Tryz.L f ((results fn #[.pointer (some ad),.bool true]).events Tryz.L u #[])) (match (results fn #[.pointer (some ad),.bool true]).run Tryz.L u with
                  | .ok y x'=>doReturn Tryz.L true { b.at ⟨#[.pointer (some ad),.bool true],[]⟩ [.code .ret] with mode:=.returning } (a :: cs) none y x'
                  | .halt (.stuck s) x'=>.ended (.stuck s (Frame.pos Tryz.L { b.at ⟨#[.pointer (some ad),.bool true],[]⟩ [.code .ret] with mode:=.returning })) x'
                  | .halt _ x'=>.ended (.stuck "return: the result variables cannot be read" (Frame.pos Tryz.L { b.at ⟨#[.pointer (some ad),.bool true],[]⟩ [.code .ret] with mode:=.returning })) x'):=by
                simp only [stepG,G,Frame.at]
                unfold unwind
                simp only [hbf,hf,Sem.runT_eq]
                rfl
              rw [this,hrs]
              simp only []
              rw [doReturn_cons (fr:={ b.at ⟨#[.pointer (some ad),.bool true],[]⟩ [.code .ret] with mode:=.returning }) (by rw [show ({ b.at ⟨#[.pointer (some ad),.bool true],[]⟩ [.code .ret] with mode:=.returning }:Frame).kind=b.kind from rfl,hbk];exact hkd)]
              rw [show ({ b.at ⟨#[.pointer (some ad),.bool true],[]⟩ [.code .ret] with mode:=.returning }:Frame).kind=kind from hbk]
              rfl
            obtain ⟨es14,t14⟩:=t14 (retape (v.setCell ad (.int .i32 n)) t')
            exact lone_step t11 (lone_step (t12 _) (lone_step (t13 _) (lone_step t14 rfl)))
      · refine .inr (hd5 (dead_op (o:={ dst:=some 1,op:=.binOp .eql 21 (.tmp 1) (.const (.int .i32 k)) 21,type:=4,pos:= "",after:=#[],guard:=none }) (h:=h) (x:=v) rfl rfl hd ?_))
        have:=hop3 v
        rw [hq] at this
        exact this
    · obtain ⟨y,hy,hfar⟩:=hl.far ad Tryz.L (Mode.plain == Mode.atomic)
      refine .inr (deadAt y hy ?_)
      rw [hr]
      have:v.farLoad Tryz.L ad (Mode.plain == Mode.atomic)=.error y:=hfar v.tape
      simp [load,Sem.run,hc,this]
    · exact .inr (deadAt (.stuck m) trivial hr)
end
end
end Go.Proofs
namespace Go.Tame
open Go.Conc
section
open Go.ConcN (sumTo upd sumTo_upd upd_ne upd_same)
section
variable {P:Program}{S:Prot}{In:Nat->Option Chair}{h:Nat}{K:World->Prop}{E:Event->Prop}{Stop:Nat->Goroutine->Prop}
end
end
section
open Go.ConcN (sumTo upd sumTo_upd upd_ne upd_same)
structure Hall (P:Program) (S:Prot) (In:Nat->Option Chair) (Q:Nat->Prop) (T:Trace) (gs:Array Goroutine) (w:World) (q:Nat->Nat):Prop where
  waits:∀ j g,j≠0->¬ Q j->gs[j]? = some g->Waits P (q j) (Deaf T j) g j (In j)
  wf:∀ j c,In j=some c->c.seat.Wf
  chans:∀ j c x,In j=some c->¬ Q j->c.seat.has x->∃ (cap:Nat) (k:Nat × Nat),w.heap[x]? = some (.chan cap #[] false k.1 k.2 false)
  keep:∀ j c,In j=some c->c.K w
  prot:∀ j c a,In j=some c->c.still a->S.keep a
  nearGone:∀ j c a,In j=some c->c.near a->S.gone a
  apart:∀ a,S.gone a->¬ S.keep a
  none:In 0=none
  tr:Tr (stillOf In) (nearOf In) (goneOf S) (Knows T 0) T
  hear:∀ j c,In j=some c->¬ Q j->Deaf T j=0
  new:∀ j,gs.size<=j->Deaf T j=0
  bound:∀ j c,In j=some c->j<gs.size
  zero:¬ Q 0
  seated:∀ j,Q j->∃ c,In j=some c
section
variable {P:Program}{S:Prot}{In:Nat->Option Chair}{Q:Nat->Prop}{T:Trace}{gs:Array Goroutine}{w:World}{q:Nat->Nat}
theorem House.hall (C:House P S In 0 T gs w q)(h0:¬ Q 0)(hs:∀ j,Q j->∃ c,In j=some c):Hall P S In Q T gs w q:=
  ⟨fun j g hj _=>C.waits j g hj,C.wf,fun j c x e _=>C.chans j c x e,C.keep,C.prot,C.nearGone,C.apart,C.none,C.tr,fun j c e _=>C.hear j c e,C.new,C.bound,h0,hs⟩
theorem Hall.at (C:Hall P S In Q T gs w q)(d:Nat):Hall P S In Q T gs (w.at d) q:=
  ⟨C.waits,C.wf,C.chans,fun j c e=>(C.keep j c e).at d,C.prot,C.nearGone,C.apart,C.none,C.tr,C.hear,C.new,C.bound,C.zero,C.seated⟩
theorem Hall.fixed (C:Hall P S In Q T gs w q){x:Nat}{y:Goroutine}(hx:x≠0)(hq:¬ Q x)(hy:gs[x]? = Option.some y):y.again w=y:=by
  have hw:=C.waits x y hx hq hy
  cases e:In x with
  | none=>rw [e] at hw;exact again_running w hw.2.status
  | some c=>
    rw [e] at hw
    exact Seated.again (C.keep x c e) hw (C.wf x c e) fun cc hcc=>by obtain ⟨cap,k,hk⟩:=C.chans x c cc e hq hcc;exact ⟨_,_,_,_,_,hk⟩
theorem Hall.noSend (C:Hall P S In Q T gs w q){x:Nat}{y:Goroutine}(hx:x≠0)(hq:¬ Q x)(hy:gs[x]? = Option.some y)(c:Nat):offersAt y c true = []:=by
  have hw:=C.waits x y hx hq hy
  cases e:In x with
  | none=>rw [e] at hw;exact offersAt_of_not_blocked (fun hb=>by rcases hw.2.status with z|z <;> (rw [z] at hb;cases hb)) c true
  | some s=>
    rw [e] at hw
    rcases hw with ⟨k,w₀,hq,hg⟩|⟨_,_,g₂,rfl,_⟩
    · have:=(Seated.status (C.keep x s e) (.inl ⟨k,w₀,hq,hg⟩)).elim (·.1) (fun z=>by omega)
      exact offersAt_of_not_blocked (fun hb=>by rw [this] at hb;cases hb) c true
    · exact offersAt_parked_sends (fun cc hcc=>by obtain ⟨c',z',rfl⟩:=(C.wf x s e).recvs cc hcc;rfl) _
theorem Hall.move (C:Hall P S In Q T gs w q){i:Nat}{w':World}{ops:Trace}{gs':Array Goroutine}(hi:i=0∨Q i)(hsz:gs'.size=gs.size)(hother:∀ x,x≠0->¬ Q x->gs'[x]? = gs[x]?)(hu:∀ op ∈ ops,op.g=i)
    (hk:∀ j c,In j=Option.some c->c.K w') (hc:∀ (x cap:Nat) (k:Nat × Nat),w.heap[x]? = some (Obj.chan cap #[] false k.1 k.2 false)->w'.heap[x]? = some (Obj.chan cap #[] false k.1 k.2 false)) (ht:Tr (stillOf In) (nearOf In) (goneOf S) (Knows (T++ops) 0) (T++ops)) (hlt:i<gs.size) :
    Hall P S In Q (T++ops) gs' w' q:=by
  have hdeaf:∀ j,j≠i->Deaf (T++ops) j=Deaf T j:=fun j e=>Deaf_other T (fun z=>e z.symm) ops hu
  have hne:∀ x,x≠0->¬ Q x->x≠i:=fun x h1 h2 e=>by subst e;exact hi.elim h1 h2
  refine ⟨fun x y hx hq hy=>?_,C.wf,fun j c x e hq hx=>?_,hk,C.prot,C.nearGone,C.apart,C.none,ht,fun j c e hq=>?_,fun j hj=>(hdeaf j (by omega)).trans (C.new j (by omega)),fun j c e=>by rw [hsz];exact C.bound j c e,C.zero,C.seated⟩
  · rw [hdeaf x (hne x hx hq)]
    exact C.waits x y hx hq (by rw [← hother x hx hq];exact hy)
  · obtain ⟨cap,k,h⟩:=C.chans j c x e hq hx
    exact ⟨cap,k,hc _ _ _ h⟩
  · have h0:j≠0:=fun z=>by subst z;rw [C.none] at e;cases e
    exact (hdeaf j (hne j h0 hq)).trans (C.hear j c e hq)
theorem Hall.put (C:Hall P S In Q T gs w q){i n':Nat}{g':Goroutine}{ops:Trace}{gs':Array Goroutine}{c:Chair}(hc:In i=Option.some c)(hsz:gs'.size=gs.size)(hother:∀ x,x≠i->x≠0->¬ Q x->gs'[x]? = gs[x]?)(hself:gs'[i]? = Option.some g')
    (hops:∀ op ∈ ops,op.g=i) (hr:∀ op ∈ ops,∀ b,op.act.touch? = Option.some b->b.write=false/\c.loc b.loc) (hd:∀ t:Trace,Deaf (t++ops) i=Deaf t i) (hs:Seated P (i == 0) c.K c.loc c.B c.seat n' g'):Hall P S In Q (T++ops) gs' w (upd q i n'):=by
  have hdeaf:∀ j,Deaf (T++ops) j=Deaf T j:=fun j=>by
    by_cases e:j=i
    · subst e;rw [hd]
    · rw [Deaf_other T (fun z=>e z.symm) ops hops]
  refine ⟨fun x y hx hq hy=>?_,C.wf,C.chans,C.keep,C.prot,C.nearGone,C.apart,C.none,C.tr.read (g:=i) hops (fun op hop b hb=>⟨(hr op hop b hb).1,c,hc,(hr op hop b hb).2⟩) (near_still C.nearGone C.prot C.apart),fun j c e hq=>(hdeaf j).trans (C.hear j c e hq),fun j hj=>(hdeaf j).trans (C.new j (by rw [← hsz];exact hj)),fun j c e=>by rw [hsz];exact C.bound j c e,C.zero,C.seated⟩
  rw [hdeaf]
  by_cases e:x=i
  · subst e
    rw [hself] at hy
    obtain rfl:=Option.some.inj hy
    rw [hc,upd_same]
    exact hs
  · rw [hother x e hx hq] at hy
    rw [upd_ne q n' e]
    exact C.waits x y hx hq hy
theorem Hall.putLeaver (C:Hall P S In Q T gs w q){i n':Nat}{g':Goroutine}{ops:Trace}{gs':Array Goroutine}(h0:i≠0)(hc:In i=Option.none)(hsz:gs'.size=gs.size)(hother:∀ x,x≠i->x≠0->¬ Q x->gs'[x]? = gs[x]?)(hself:gs'[i]? = Option.some g')(hi:i<gs.size)
    (hops:∀ op ∈ ops,op.g=i) (hn:∀ op ∈ ops,op.act.touch? = Option.none) (hs:QuitsD P n' (Deaf (T++ops) i) g'):Hall P S In Q (T++ops) gs' w (upd q i n'):=by
  have hdeaf:∀ j,j≠i->Deaf (T++ops) j=Deaf T j:=fun j e=>Deaf_other T (fun z=>e z.symm) ops hops
  refine ⟨fun x y hx hq hy=>?_,C.wf,C.chans,C.keep,C.prot,C.nearGone,C.apart,C.none,C.tr.mute hn,fun j c e hq=>(hdeaf j (fun z=>by rw [z,hc] at e;cases e)).trans (C.hear j c e hq),fun j hj=>(hdeaf j (fun z=>by omega)).trans (C.new j (by omega)),fun j c e=>by rw [hsz];exact C.bound j c e,C.zero,C.seated⟩
  by_cases e:x=i
  · subst e
    rw [hself] at hy
    obtain rfl:=Option.some.inj hy
    rw [hc,upd_same]
    exact ⟨h0,hs⟩
  · rw [hother x e hx hq] at hy
    rw [upd_ne q n' e,hdeaf x e]
    exact C.waits x y hx hq hy
theorem Hall.by_step (C:Hall P S In Q T gs w q){i:Nat}{g:Goroutine}{sl:Option (Nat × Nat)}(hi:gs[i]? = some g)(hne:i≠0)(hQ:¬ Q i)(hrun:g.status=.running)(hquiet:∀ j y,(j=0∨Q j)->gs[j]? = Option.some y->∀ c,offersAt y c true = []) :
    ∃ gs' ops q' d,runT P (crowd gs w sl) i=(.next (crowd gs' (w.at d) sl),ops)/\gs'.size=gs.size/\(∀ k,k≠i->gs'[k]? = gs[k]? ∨ gs'[k]? = (gs[k]?).map (·.again (w.at d)))/\(∀ op ∈ ops,op.g=i)/\(∀ op ∈ ops,∀ m,op.act≠.mark (.release m))/\Hall P S In Q (T++ops) gs' (w.at d) q'/\sumTo gs.size q'<sumTo gs.size q/\∀ j,j≠i->q' j=q j:=by
  have hlt:i<gs.size:=(Array.getElem?_eq_some_iff.1 hi).1
  have harr:∀ (d:Nat) (x g':Goroutine) (k:Nat),k≠i->k≠0->¬ Q k->((gs.map (woken P g x (w.at d))).setIfInBounds i g')[k]? = gs[k]?:=by
    intro d x g' k hk h0 hq
    rw [Array.getElem?_setIfInBounds_ne (fun e=>hk e.symm),Array.getElem?_map]
    cases e:gs[k]? with
    | none=>rfl
    | some y=>simp [woken_of_again ((C.at d).fixed h0 hq e)]
  have hall:∀ (d:Nat) (x g':Goroutine) (k:Nat),k≠i->((gs.map (woken P g x (w.at d))).setIfInBounds i g')[k]? = gs[k]? ∨ ((gs.map (woken P g x (w.at d))).setIfInBounds i g')[k]? = (gs[k]?).map (·.again (w.at d)):=by
    intro d x g' k hk
    rw [Array.getElem?_setIfInBounds_ne (fun e=>hk e.symm),Array.getElem?_map]
    unfold woken
    split
    · exact .inr rfl
    · exact .inl (by cases gs[k]? <;> rfl)
  have hrel:∀ (es:Array Event),(∀ e ∈ es,e.mute=true∨∃ a,e=⟨.cell a,false,false⟩)->∀ (fn:FuncId) (pos:String),∀ op ∈ MemOp.ofEvents i fn pos es,∀ m,op.act≠.mark (.release m):=by
    intro es hes fn pos op hop m e
    obtain ⟨ev,hev,rfl⟩:=Go.Conc.mem_ofEvents hop
    rcases hes ev hev with h|⟨a,rfl⟩
    · obtain ⟨loc,wr,sy⟩:=ev
      cases loc with
      | mark m'=>cases m' <;> simp_all [MemAct.ofEvent,Event.mute]
      | _=>simp_all [Event.mute]
    · simp [MemAct.ofEvent] at e
  have hself:∀ (d:Nat) (x g':Goroutine),((gs.map (woken P g x (w.at d))).setIfInBounds i g')[i]? = some g':=fun d x g'=>Array.getElem?_setIfInBounds_self_of_lt (by simpa using hlt)
  have hw:=C.waits i g hne hQ hi
  cases e:In i with
  | none=>
    rw [e] at hw
    obtain ⟨h0,hw⟩:=hw
    cases hq:q i with
    | zero=>rw [hq] at hw;rw [show g.status=.finished from hw.1] at hrun;cases hrun
    | succ k=>
      rw [hq] at hw
      rcases hw with ⟨hf,_⟩|⟨_,g',es,hm,hst,hQQ⟩
      · rw [hf] at hrun;cases hrun
      · have h00:(i == 0)=false:=beq_eq_false_iff_ne.2 h0
        have hgo:stepG P (i == 0) g w=.go g' (w.at w.drawn) es:=by rw [h00];exact hst w
        refine ⟨_,_,upd q i k,w.drawn,runT_crowd_go (sl:=sl) hi hgo,by simp,hall w.drawn _ _,fun op hop=>by obtain ⟨e,_,rfl⟩:=Go.Conc.mem_ofEvents hop;rfl,hrel es (fun e he=>.inl (hm e he)) _ _,C.putLeaver h0 e (by simp) (harr w.drawn _ _) (hself w.drawn _ _) hlt (fun op hop=>by obtain ⟨e,_,rfl⟩:=Go.Conc.mem_ofEvents hop;rfl) (fun op hop=>?_) (by rw [Deaf_own];exact hQQ),?_,fun j hj=>upd_ne q k hj⟩
        · obtain ⟨ev,hev,rfl⟩:=Go.Conc.mem_ofEvents hop
          exact touch_mute (hm ev hev)
        · have h2:sumTo gs.size (upd q i k)+(k+1)=sumTo gs.size q+k:=by
            have:=sumTo_upd q k id hlt
            simpa [hq] using this
          omega
  | some s=>
    rw [e] at hw
    obtain ⟨k,w₀,hqi,hg⟩:∃ k w₀,q i=k+1/\Goes P (i == 0) (RK s.K) (DQ s.loc s.B) (fun g _=>∃ g₂,AtIn P (i == 0) s.K s.loc s.B s.seat g g₂) k g w₀:=by
      rcases hw with h|⟨_,_,g₂,rfl,_⟩
      · exact h
      · cases hrun
    have hK:=C.keep i s e
    have hcase:(∃ g₂,AtIn P (i == 0) s.K s.loc s.B s.seat g g₂)∨∃ k' g' es d,k=k'+1/\stepG P (i == 0) g w=.go g' (w.at d) es/\(∀ e ∈ es,EvC s.loc s.B e)/\Goes P (i == 0) (RK s.K) (DQ s.loc s.B) (fun g _=>∃ g₂,AtIn P (i == 0) s.K s.loc s.B s.seat g g₂) k' g' (w.at d):=by
      cases k with
      | zero=>exact .inl (hg w hK)
      | succ k'=>
        rcases hg with hstop|⟨_,hstep⟩
        · exact .inl (hstop w hK)
        · have hs:=hstep w hK
          cases hgo:stepG P (i == 0) g w with
          | go g' w' es=>
            rw [hgo,goes_go] at hs
            obtain ⟨⟨⟨d,rfl⟩,hes⟩,hG'⟩:=hs
            exact .inr ⟨k',g',es,d,rfl,rfl,hes,hG'⟩
          | _=>rw [hgo] at hs;exact hs.elim
    have hsum:∀ m,m<k+1->sumTo gs.size (upd q i m)<sumTo gs.size q:=by
      intro m hm
      have h2:sumTo gs.size (upd q i m)+(k+1)=sumTo gs.size q+m:=by
        have:=sumTo_upd q m id hlt
        simpa [hqi] using this
      omega
    rcases hcase with ⟨g₂,hat⟩|⟨k',g',es,d,rfl,hgo,hes,hG'⟩
    · obtain ⟨_,_,_,_,_,es,hes,hstp⟩:=id hat
      obtain ⟨hops,hr,hd⟩:=read_ops (i:=i) (fn:=g.frame.fn) (pos:=g.frame.place) hes
      have hno:∀ cc ∈ s.seat.cases,NoWays w (gs.setIfInBounds i ph) cc:=by
        intro cc hcc
        obtain ⟨c,z,rfl⟩:=(C.wf i s e).recvs cc hcc
        obtain ⟨cap,kk,hc⟩:=C.chans i s c e hQ (Seat.has_of_mem hcc)
        refine ways_recv_none hc (partners_nil fun x y hy=>?_)
        rcases getElem?_stand gs i x y hy with ⟨_,rfl⟩|⟨hx,hy'⟩
        · exact offersAt_ph _ _
        · by_cases hh:x=0∨Q x
          · exact hquiet x y hh hy' _
          · exact C.noSend (fun z=>hh (.inl z)) (fun z=>hh (.inr z)) hy' _
      refine ⟨_,_,upd q i 0,w.drawn,crowd_waits (sl:=sl) hi (hstp w hK) hno,by simp,fun x hx=>.inl (Array.getElem?_setIfInBounds_ne (fun z=>hx z.symm)),hops,hrel es (fun e he=>.inr (by obtain ⟨a,h,_⟩:=hes e he;exact ⟨a,h⟩)) _ _,(C.put e (by simp) (fun x hx _ _=>Array.getElem?_setIfInBounds_ne (fun z=>hx z.symm)) (Array.getElem?_setIfInBounds_self_of_lt hlt) hops hr hd (.inr ⟨rfl,g,g₂,rfl,hat⟩)).at w.drawn,hsum 0 (by omega),fun j hj=>upd_ne q 0 hj⟩
    · obtain ⟨hops,hr,hd⟩:=read_ops (i:=i) (fn:=g.frame.fn) (pos:=g.frame.place) hes
      exact ⟨_,_,upd q i (k'+1),d,runT_crowd_go (sl:=sl) hi hgo,by simp,hall d _ _,hops,hrel es (fun e he=>.inr (by obtain ⟨a,h,_⟩:=hes e he;exact ⟨a,h⟩)) _ _,(C.at d).put e (by simp) (harr d _ _) (hself d _ _) hops hr hd (.inl ⟨k',w.at d,rfl,hG'⟩),hsum _ (by omega),fun j hj=>upd_ne q _ hj⟩
end
end
section
open Go.ConcN (sumTo upd sumTo_upd upd_ne upd_same)
def Fine (S:Prot) (es:Array Event):Prop:=
  (∀ e ∈ es,∀ x,(MemAct.ofEvent e).touch? = some x->(x.write=true->∀ a,x.loc=.cell a->¬ S.keep a)/\¬ goneOf S x.loc)∨(∀ e ∈ es,∀ x,(MemAct.ofEvent e).touch? = some x->goneOf S x.loc/\x.kind≠.plain)
structure Leaves (S:Prot) (w w':World):Prop where
  still:∀ a,S.keep a->w'.cell? a=w.cell? a
  chan:∀ (i cap:Nat) (buf:Array Value) (cl:Bool) (s r:Nat) (tm:Bool),w.heap[i]? = some (.chan cap buf cl s r tm)->w'.heap[i]? = some (.chan cap buf cl s r tm)
theorem Leaves.at (S:Prot)(w:World)(d:Nat):Leaves S w (w.at d):=⟨fun _ _=>rfl,fun _ _ _ _ _ _ _ h=>h⟩
theorem setCell_chan' {w:World}{a:Addr}{x:Value}{i cap s r:Nat}{buf:Array Value}{cl tm:Bool}(h:w.heap[i]? = some (.chan cap buf cl s r tm)):(w.setCell a x).heap[i]? = some (.chan cap buf cl s r tm):=by
  unfold World.setCell
  simp only [Array.getElem?_modify]
  by_cases e:a.block=i
  · simp only [e,if_true,h,Option.map_some]
  · simp only [e,if_false,h]
theorem Leaves.set {S:Prot}{w:World}{a:Addr}{x:Value}(h:¬ S.keep a):Leaves S w (w.setCell a x):=
  ⟨fun b hb=>World.cell?_setCell_other _ _ _ _ (fun e=>h (e ▸ hb)),fun _ _ _ _ _ _ _ h=>setCell_chan' h⟩
section
variable (P:Program)(S:Prot)(Stop:Goroutine->World->Prop)
def Route:Nat->Nat->Goroutine->World->Prop
  | 0,d,g,w=>d=0/\Stop g w
  | n+1,d,g,w=>(d=0/\Stop g w)∨(g.status=.running/\∀ x,∃ g' w' es,stepG P true g (w.at x)=.go g' w' es/\Leaves S w w'/\Fine S es/\Route n (deafBehind d es) g' w')
end
section
variable {P:Program}{S:Prot}{In:Nat->Option Chair}{Stop:Goroutine->World->Prop}
theorem Route.stop {n:Nat}{g:Goroutine}{w:World}(h:Stop g w):Route P S Stop n 0 g w:=by
  cases n with
  | zero=>exact ⟨rfl,h⟩
  | succ n=>exact .inl ⟨rfl,h⟩
theorem Route.step {n d:Nat}{g:Goroutine}{w:World}(hs:g.status=.running)(h:∀ x,∃ g' w' es,stepG P true g (w.at x)=.go g' w' es/\Leaves S w w'/\Fine S es/\Route P S Stop n (deafBehind d es) g' w'):Route P S Stop (n+1) d g w:=.inr ⟨hs,h⟩
theorem Route.more {n m d:Nat}{g:Goroutine}{w:World}(h:Route P S Stop n d g w)(hm:n<=m):Route P S Stop m d g w:=by
  induction n generalizing m d g w with
  | zero=>
    obtain ⟨rfl,h⟩:=h
    exact .stop h
  | succ n ih=>
    obtain ⟨m,rfl⟩:∃ k,m=k+1:=⟨m - 1,by omega⟩
    rcases h with h|⟨hs,h⟩
    · exact .inl h
    · refine .inr ⟨hs,fun x=>?_⟩
      obtain ⟨g',w',es,h1,h2,h3,h4⟩:=h x
      exact ⟨g',w',es,h1,h2,h3,ih h4 (by omega)⟩
theorem Route.way {K:World->Prop}{E:Event->Prop}{St:Nat->Goroutine->Prop}(hat:∀ w d,K w->K (w.at d))(hE:∀ es:Array Event,(∀ e ∈ es,E e)->Fine S es){m:Nat}:∀ {n d:Nat} {g:Goroutine} {w:World},WayD P true K E St n d g->K w->(∀ d g x,St d g->Route P S Stop m d g (w.at x))->Route P S Stop (n+m) d g w
  | 0,d,g,w,h,_,k=>by rw [Nat.zero_add];exact k d g w.drawn h
  | n+1,d,g,w,h,hw,k=>by
    rcases h with h|⟨hs,h⟩
    · exact (k d g w.drawn h).more (by omega)
    · rw [Nat.add_right_comm]
      refine .step hs fun x=>?_
      obtain ⟨g',y,es,h1,h2,h3⟩:=h (w.at x) (hat w x hw)
      exact ⟨g',_,es,h1,.at S w y,hE es h2,Route.way hat hE h3 (hat w y hw) fun d g z hz=>k d g z hz⟩
theorem Tr.fine {t:Trace}{fn:FuncId}{pos:String}{es:Array Event}(hp:∀ j c a,In j=some c->c.still a->S.keep a)(hn:∀ j c a,In j=some c->c.near a->S.gone a)(ha:∀ a,S.gone a->¬ S.keep a)(H:Tr (stillOf In) (nearOf In) (goneOf S) (Knows t 0) t)(h:Fine S es) :
    Tr (stillOf In) (nearOf In) (goneOf S) (Knows (t++MemOp.ofEvents 0 fn pos es) 0) (t++MemOp.ofEvents 0 fn pos es):=by
  have hu:∀ op ∈ MemOp.ofEvents 0 fn pos es,op.g=0:=fun op hop=>by obtain ⟨e,_,rfl⟩:=Go.Conc.mem_ofEvents hop;rfl
  rcases h with h|h
  · refine H.work hu (fun op hop b hb=>?_) (near_gone hn)
    obtain ⟨e,he,rfl⟩:=Go.Conc.mem_ofEvents hop
    obtain ⟨h1,h2⟩:=h e he b hb
    exact ⟨fun hw g ⟨c,hc,a,hl,hs⟩=>h1 hw a hl (hp g c a hc hs),h2⟩
  · refine H.mine hu (fun op hop b hb=>?_) fun g l ⟨a,hl,hg⟩ ⟨c,hc,x,hx,hs⟩=>by rw [hl] at hx;cases hx;exact ha a hg (hp g c a hc hs)
    obtain ⟨e,he,rfl⟩:=Go.Conc.mem_ofEvents hop
    exact h e he b hb
theorem Hall.house {T:Trace}{gs:Array Goroutine}{w:World}{q:Nat->Nat}(C:Hall P S In (fun _=>False) T gs w q)(h:Deaf T 0=0):House P S In 0 T gs w q:=
  ⟨fun j g hj=>C.waits j g hj (fun z=>z),C.wf,fun j c x e=>C.chans j c x e (fun z=>z),C.keep,C.prot,C.nearGone,C.apart,C.none,C.tr,h,fun j c e=>C.hear j c e (fun z=>z),C.new,C.bound⟩
theorem Hall.route:∀ (n:Nat) (g:Goroutine) (w:World),(∀ d,Route P S Stop n d g w->∀ (μ:Nat) (T:Trace) (gs:Array Goroutine) (q:Nat->Nat) (sl:Option (Nat × Nat)) (x:Nat),sumTo gs.size q=μ->Deaf T 0=d->Hall P S In (fun _=>False) T gs (w.at x) q->gs[0]? = some g ->
      ∃ (N:Nat) (gs':Array Goroutine) (g':Goroutine) (w':World) (x':Nat) (sl':Option (Nat × Nat)) (T':Trace) (q':Nat->Nat),runNT P N (crowd gs (w.at x) sl) T=(.next (crowd gs' (w'.at x') sl'),T')/\gs'.size=gs.size/\gs'[0]? = some g'/\Stop g' w'/\House P S In 0 T' gs' (w'.at x') q'):=by
  intro n
  induction n with
  | zero=>
    rintro g w d ⟨rfl,hs⟩ μ T gs q sl x _ hd H ha
    exact ⟨0,gs,g,w,x,sl,T,q,rfl,rfl,ha,hs,H.house hd⟩
  | succ n ih=>
    intro g w d hR μ
    induction μ using Nat.strongRecOn with
    | _ μ ihμ=>
      intro T gs q sl x hμ hd C ha
      rcases hR with ⟨rfl,hs⟩|⟨hrun,hstep⟩
      · exact ⟨0,gs,g,w,x,sl,T,q,rfl,rfl,ha,hs,C.house hd⟩
      · have hawake:∀ g ∈ gs,Conc.awake g:=by
          intro y hy
          obtain ⟨i,hi,rfl⟩:=Array.mem_iff_getElem.1 hy
          by_cases e:i=0
          · subst e
            have:gs[0] = g:=by simpa [Array.getElem?_eq_getElem hi] using ha
            rw [this];exact awake_of (.inl hrun)
          · have hw:=C.waits i _ e (fun z=>z) (Array.getElem?_eq_getElem hi)
            cases es:In i with
            | none=>rw [es] at hw;exact awake_of (hw.2.status.elim .inl fun x=>.inr (.inr x))
            | some s=>rw [es] at hw;exact awake_of ((Seated.status (C.keep i s es) hw).elim (fun x=>.inl x.1) fun x=>.inr (.inl x.1))
        obtain ⟨i,y,x',sl',hi,hy,hpick⟩:=crowd_pick (P:=P) (w:=w.at x) (sl:=sl) hawake ⟨_,_,ha,hrun⟩
        have hat:(w.at x).at x'=w.at x':=rfl
        have Cd:Hall P S In (fun _=>False) T gs (w.at x') q:=C.at x'
        have stepIt:∀ {gs':Array Goroutine} {u:World} {ops:Trace},runT P (crowd gs (w.at x') sl') i=(.next (crowd gs' u sl'),ops)->runNT P 1 (crowd gs (w.at x) sl) T=(.next (crowd gs' u sl'),T++ops):=fun {gs' u ops} hr=>by
          have:stepT P (crowd gs (w.at x) sl)=(.next (crowd gs' u sl'),ops):=by rw [hpick,hat];exact hr
          rw [runNT_succ_next this];rfl
        by_cases e:i=0
        · subst e
          rw [ha] at hi
          obtain rfl:=Option.some.inj hi
          have hlt:0<gs.size:=(Array.getElem?_eq_some_iff.1 ha).1
          obtain ⟨g',w',es,h1,h2,h3,h4⟩:=hstep x'
          have hr:=runT_crowd_go (P:=P) (sl:=sl') ha h1
          have hops:∀ op ∈ MemOp.ofEvents 0 g.frame.fn g.frame.place es,op.g=0:=fun op hop=>by obtain ⟨e,_,rfl⟩:=Go.Conc.mem_ofEvents hop;rfl
          have htr:=Tr.fine (fn:=g.frame.fn) (pos:=g.frame.place) Cd.prot Cd.nearGone Cd.apart Cd.tr h3
          have hkeep:∀ j c,In j=some c->c.K w':=fun j c hc a v hv=>by
            rw [h2.still a (Cd.prot j c a hc ⟨v,hv⟩)];exact Cd.keep j c hc a v hv
          have hch:∀ (z cap:Nat) (k:Nat × Nat),(w.at x').heap[z]? = some (Obj.chan cap #[] false k.1 k.2 false)->w'.heap[z]? = some (Obj.chan cap #[] false k.1 k.2 false):=fun z cap k h=>h2.chan _ _ _ _ _ _ _ h
          have C0:Hall P S In (fun _=>False) (T++MemOp.ofEvents 0 g.frame.fn g.frame.place es) gs w' q:=Cd.move (.inl rfl) rfl (fun _ _ _=>rfl) hops hkeep hch htr hlt
          have hsame:∀ z,z≠0->((gs.map (woken P g g' w')).setIfInBounds 0 g')[z]? = gs[z]?:=fun z hz=>by
            rw [Array.getElem?_setIfInBounds_ne (fun e=>hz e.symm),Array.getElem?_map]
            cases e:gs[z]? with
            | none=>rfl
            | some v=>simp [woken_of_again (C0.fixed hz (fun h=>h) e)]
          have C1:Hall P S In (fun _=>False) (T++MemOp.ofEvents 0 g.frame.fn g.frame.place es) ((gs.map (woken P g g' w')).setIfInBounds 0 g') w' q:=Cd.move (.inl rfl) (by simp) (fun z hz _=>hsame z hz) hops hkeep hch htr hlt
          obtain ⟨N,gs₂,g₂,w₂,x₂,sl₂,T₂,q₂,k1,k2,k3,k4,k5⟩:=ih g' w' _ h4 _ _ _ q sl' w'.drawn rfl (by rw [Deaf_own,hd]) C1 (Array.getElem?_setIfInBounds_self_of_lt (by simpa using hlt))
          exact ⟨1+N,gs₂,g₂,w₂,x₂,sl₂,T₂,q₂,by rw [runNT_add,stepIt hr];exact k1,by rw [k2];simp,k3,k4,k5⟩
        · obtain ⟨gs₁,ops,q₁,d₃,hr,hsz,hall,hops,_,C₁,hlt,_⟩:=Cd.by_step (sl:=sl') hi e (fun h=>h) hy fun j v hj hv c=>by
            rcases hj with rfl|hj
            · rw [ha] at hv;obtain rfl:=Option.some.inj hv
              exact offersAt_of_not_blocked (fun h=>by rw [hrun] at h;cases h) _ _
            · exact hj.elim
          have ha₁:gs₁[0]? = some g:=by
            rcases hall 0 (fun h=>e h.symm) with h|h
            · rw [h];exact ha
            · rw [h,ha,Option.map_some,again_running _ (.inl hrun)]
          obtain ⟨N,gs₂,g₂,w₂,x₂,sl₂,T₂,q₂,k1,k2,k3⟩:=ihμ (sumTo gs₁.size q₁) (by rw [hsz];omega) (T++ops) gs₁ q₁ sl' d₃ rfl (by rw [Deaf_other T (fun h=>e h) ops hops];exact hd) C₁ ha₁
          exact ⟨1+N,gs₂,g₂,w₂,x₂,sl₂,T₂,q₂,by rw [runNT_add,stepIt hr];exact k1,k2.trans hsz,k3⟩
theorem House.route {n:Nat}{g:Goroutine}{w:World}(h:Route P S Stop n 0 g w){T:Trace}{gs:Array Goroutine}{q:Nat->Nat}(sl:Option (Nat × Nat))(H:House P S In 0 T gs w q)(ha:gs[0]? = some g) :
    ∃ (N:Nat) (gs':Array Goroutine) (g':Goroutine) (w':World) (x':Nat) (sl':Option (Nat × Nat)) (T':Trace) (q':Nat->Nat),runNT P N (crowd gs w sl) T=(.next (crowd gs' (w'.at x') sl'),T')/\gs'.size=gs.size/\gs'[0]? = some g'/\Stop g' w'/\House P S In 0 T' gs' (w'.at x') q':=
  Hall.route n g w 0 h _ T gs q sl w.drawn rfl H.hears (H.hall (fun z=>z) fun j hj=>hj.elim) ha
end
end
section
def bareMark (e:Event):Bool:=match e.loc with
  | .mark (.read _) | .mark (.write _)=>false
  | .mark _=>true
  | _=>false
theorem bareMark_touch {e:Event}(h:bareMark e=true):(MemAct.ofEvent e).touch? = none:=by
  obtain ⟨loc,wr,sy⟩:=e
  cases loc with
  | mark m=>cases m <;> first|rfl|cases h
  | _=>cases h
theorem AtOp.loadN {P:Program}{main:Bool}{g:Goroutine}{w:World}{v:Value}{t:TypeId}{x:Operand}(h:AtOp g (.load t x)){a:Addr}{d:TypeDesc}(hx:(actOf g).eval x=.pointer (some a))(hd:P.underlying t=some d)(hone:(match d with | .struct _ | .array _ _=>false|_=>true)=true)
    (hq:(P.funcs[g.frame.fn]?).any (·.norace)=true) (hc:w.cell? a=some v):stepG P main g w=.go (putOf g v) w #[]:=by
  have hrun:(execOp (actOf g).eval (operOf g)).run P w=.ok (.value v) w/\(execOp (actOf g).eval (operOf g)).events P w #[] = #[⟨.cell a,false,false⟩]:=by
    unfold execOp
    rw [h.op]
    dsimp only
    rw [hx]
    have hu:(underlying t).run P w=.ok d w/\(underlying t).events P w #[] = #[]:=by
      constructor
      · show (match P.underlying t with|some d=>pure d|none=>stuck _:Sem TypeDesc).run P w=_
        rw [hd];rfl
      · show (match P.underlying t with|some d=>pure d|none=>stuck _:Sem TypeDesc).events P w #[] = _
        rw [hd];simp
    have hag:(isAgg t).run P w=.ok false w/\(isAgg t).events P w #[] = #[]:=by
      unfold isAgg
      rw [Sem.run_bind,Sem.events_bind,hu.1,hu.2]
      simp only [Result.andThen_ok,Result.evThen_ok]
      cases d <;> first|exact ⟨rfl,by simp⟩|cases hone
    have hl:(loadVar t a).run P w=.ok v w/\(loadVar t a).events P w #[] = #[⟨.cell a,false,false⟩]:=by
      unfold loadVar
      rw [Sem.run_bind,Sem.events_bind,hag.1,hag.2]
      simp [Result.andThen_ok,Result.evThen_ok,hc,events_load]
    have hsa:Instr.sureAddr (.pointer (some a))=pure a:=rfl
    constructor
    · simp [Instr.loadAt,hsa,Sem.run_bind,hl.1]
    · simp [Instr.loadAt,hsa,Sem.events_bind,Sem.run_bind,hl.1,hl.2]
  have hs:seen P g.frame.fn #[⟨.cell a,false,false⟩] = #[]:=by
    unfold seen
    simp [hq]
  rw [h.value hrun.1,hrun.2,hs]
def isRun (g:Goroutine):Bool:=match g.status with | .running=>true|_=>false
theorem isRun_eq {g:Goroutine}(h:isRun g=true):g.status=.running:=by
  unfold isRun at h
  split at h
  · assumption
  · cases h
section
variable {P:Program}{S:Prot}{Stop:Goroutine->World->Prop}
theorem Route.seg {n d d' m:Nat}{g:Goroutine}{w:World}(hc:∀ ws,chk P true bareMark n d g ws=some (tgt n ws,d'))(k:∀ ws x,Route P S Stop m d' (fin P true n g ws) (w.at x)):Route P S Stop (n+m) d g w:=by
  refine Route.way (K:=fun _=>True) (E:=fun e=>bareMark e=true) (St:=fun d₁ g₁=>d₁=d'/\∃ ws,g₁=fin P true n g ws) (fun _ _ _=>trivial) (fun es he=>.inl fun e hee x hx=>by rw [bareMark_touch (he e hee)] at hx;cases hx)
    (WayD.seg (m:=0) (fun _ h=>h) hc fun ws=>⟨rfl,ws,rfl⟩) trivial ?_
  rintro d₁ g₁ x ⟨rfl,ws,rfl⟩
  exact k ws x
theorem Route.one {n d:Nat}{g g':Goroutine}{w:World}{f:World->World}{es:Array Event}(hs:isRun g=true)(h:∀ x,stepG P true g (w.at x)=.go g' (f (w.at x)) es)(hl:∀ x,Leaves S w (f (w.at x)))(hf:Fine S es)(k:∀ x,Route P S Stop n (deafBehind d es) g' (f (w.at x))):Route P S Stop (n+1) d g w:=
  Route.step (isRun_eq hs) fun x=>⟨g',_,es,h x,hl x,hf,k x⟩
theorem Leaves.setAt {w:World}{a:Addr}{x:Value}{d:Nat}(h:¬ S.keep a):Leaves S w ((w.at d).setCell a x):=⟨(Leaves.set (w:=w.at d) h).still,(Leaves.set (w:=w.at d) h).chan⟩
theorem cellBlock {w:World}{c o:Nat}{v:Value}(h:w.cell? ⟨c,o,none⟩=some v):∃ x e f,w.heap[c]? = some (.cells x e f)/\o<x.size:=by
  unfold World.cell? at h
  cases hb:w.heap[c]? with
  | none=>simp [hb] at h
  | some ob=>
    cases ob <;> simp [hb] at h
    rename_i x e f
    exact ⟨x,e,f,rfl,(Array.getElem?_eq_some_iff.1 h).1⟩
theorem atomics_gone {a:Addr}(h:S.gone a):Fine S #[⟨.cell a,false,true⟩,⟨.cell a,true,true⟩]:=by
  refine .inr fun e he x hx=>?_
  simp only [List.mem_toArray,List.mem_cons,List.not_mem_nil,or_false] at he
  rcases he with rfl|rfl <;> (simp [MemAct.ofEvent,MemAct.touch?] at hx;subst hx;exact ⟨⟨a,rfl,h⟩,nofun⟩)
theorem atomics_own {a:Addr}(h:¬ S.gone a)(hk:¬ S.keep a):Fine S #[⟨.cell a,false,true⟩,⟨.cell a,true,true⟩]:=by
  refine .inl fun e he x hx=>?_
  simp only [List.mem_toArray,List.mem_cons,List.not_mem_nil,or_false] at he
  rcases he with rfl|rfl <;> (simp [MemAct.ofEvent,MemAct.touch?] at hx;subst hx;exact ⟨fun _ b hb=>by cases hb;exact hk,fun ⟨b,hb,hg⟩=>by cases hb;exact h hg⟩)
theorem said_gone {a:Addr}(h:S.gone a):Fine S #[⟨.mark (.read a),false,true⟩]:=by
  refine .inr fun e he x hx=>?_
  simp only [List.mem_toArray,List.mem_cons,List.not_mem_nil,or_false] at he
  subst he
  simp [MemAct.ofEvent,MemAct.touch?] at hx;subst hx;exact ⟨⟨a,rfl,h⟩,nofun⟩
end
end
end Go.Tame
namespace Go.Proofs.Shardlog
open Go.Conc Go.Tame
section
set_option maxRecDepth 100000
section
variable (c o:Nat)(jv:Value)(b:Frame)(cs:List Frame)(kd:CallKind)(w0 w1 w2 w3 w4:Nat->World)
noncomputable def kk0:Goroutine:=G (Frame.enter Tryz.prog 90 #[.pointer (some ⟨c,o,none⟩),jv] kd) (b :: cs)
noncomputable def kk1:Goroutine:=fin Tryz.prog true 10 (kk0 c o jv b cs kd) w0
noncomputable def kk2:Goroutine:=putOf (kk1 c o jv b cs kd w0) (.bool true)
noncomputable def kk3:Goroutine:=fin Tryz.prog true 10 (kk2 c o jv b cs kd w0) w1
noncomputable def kk4:Goroutine:=putOf (kk3 c o jv b cs kd w0 w1) (.pointer (some ⟨c,o,none⟩))
noncomputable def kk5:Goroutine:=fin Tryz.prog true 3 (kk4 c o jv b cs kd w0 w1) w2
noncomputable def uu0:Goroutine:=G (Frame.enter Tryz.prog 91 #[.pointer (some ⟨c,o,none⟩),jv] kd) (b :: cs)
noncomputable def uu1:Goroutine:=fin Tryz.prog true 7 (uu0 c o jv b cs kd) w0
noncomputable def uu2:Goroutine:=putOf (uu1 c o jv b cs kd w0) (.int .i32 1)
noncomputable def uu3:Goroutine:=fin Tryz.prog true 4 (uu2 c o jv b cs kd w0) w1
noncomputable def uu4:Goroutine:=putOf (uu3 c o jv b cs kd w0 w1) (.pointer (some ⟨c,o,none⟩))
noncomputable def uu5:Goroutine:=fin Tryz.prog true 10 (uu4 c o jv b cs kd w0 w1) w2
noncomputable def uu6:Goroutine:=putOf (uu5 c o jv b cs kd w0 w1 w2) (.int .i32 0)
noncomputable def uu7:Goroutine:=fin Tryz.prog true 14 (uu6 c o jv b cs kd w0 w1 w2) w3
end
theorem Tryz.ext120:Ext Tryz.prog 120 Tryz.f120 (Extern.Atomic.casT (.int .i32)):=⟨Tryz.func120,by kernel_rfl,by kernel_rfl,by kernel_rfl,by kernel_rfl⟩
theorem Tryz.ext122:Ext Tryz.prog 122 Tryz.f122 (Extern.Atomic.update (Op.intArith .add) .i32 true):=⟨Tryz.func122,by kernel_rfl,by kernel_rfl,by kernel_rfl,by kernel_rfl⟩
theorem Tryz.und211:Tryz.prog.underlying 211=some (.pointer 77):=by kernel_rfl
theorem Tryz.size77:(Tryz.prog.info? 77).map (·.size)=some 2:=by kernel_rfl
theorem Tryz.und21:Tryz.prog.underlying 21=some (.int .i32):=by kernel_rfl
section
variable {c o:Nat}{jv:Value}{b:Frame}{cs:List Frame}{kd:CallKind}{w0 w1 w2 w3 w4:Nat->World}{S:Prot}{w:World}{Stop:Goroutine->World->Prop}
theorem kk_1 (hkd:kd=.normal∨kd=.deferred)(ws:Nat->World):chk Tryz.prog true bareMark 10 0 (kk0 c o jv b cs kd) ws=some (tgt 10 ws,1):=by
  cases hkd with
  | inl h=>subst h;kernel_rfl
  | inr h=>subst h;kernel_rfl
theorem kk_2 (hkd:kd=.normal∨kd=.deferred):AtOp (kk1 c o jv b cs kd w0) (.call { callee:=.value (.func 120),args:=#[.tmp 5,.const (.int .i32 0),.const (.int .i32 1)],argTypes:=#[213,21,21] }):=by
  cases hkd with
  | inl h=>subst h;exact ⟨by kernel_rfl,by kernel_rfl,by kernel_rfl,by kernel_rfl,by kernel_rfl⟩
  | inr h=>subst h;exact ⟨by kernel_rfl,by kernel_rfl,by kernel_rfl,by kernel_rfl,by kernel_rfl⟩
theorem kk_2v (hkd:kd=.normal∨kd=.deferred):(actOf (kk1 c o jv b cs kd w0)).eval (.tmp 5)=.pointer (some ⟨c,o,none⟩):=by
  cases hkd with
  | inl h=>subst h;kernel_rfl
  | inr h=>subst h;kernel_rfl
theorem kk_2a (hkd:kd=.normal∨kd=.deferred):(actOf (kk1 c o jv b cs kd w0)).eval (.const (.int .i32 0))=.int .i32 0:=by
  cases hkd with
  | inl h=>subst h;kernel_rfl
  | inr h=>subst h;kernel_rfl
theorem kk_2b (hkd:kd=.normal∨kd=.deferred):(actOf (kk1 c o jv b cs kd w0)).eval (.const (.int .i32 1))=.int .i32 1:=by
  cases hkd with
  | inl h=>subst h;kernel_rfl
  | inr h=>subst h;kernel_rfl
theorem kk_2r (hkd:kd=.normal∨kd=.deferred):isRun (kk1 c o jv b cs kd w0)=true:=by
  cases hkd with
  | inl h=>subst h;kernel_rfl
  | inr h=>subst h;kernel_rfl
theorem kk_3 (hkd:kd=.normal∨kd=.deferred)(ws:Nat->World):chk Tryz.prog true bareMark 10 1 (kk2 c o jv b cs kd w0) ws=some (tgt 10 ws,0):=by
  cases hkd with
  | inl h=>subst h;kernel_rfl
  | inr h=>subst h;kernel_rfl
theorem kk_4 (hkd:kd=.normal∨kd=.deferred):AtOp (kk3 c o jv b cs kd w0 w1) (.convert 211 127 (.tmp 8)):=by
  cases hkd with
  | inl h=>subst h;exact ⟨by kernel_rfl,by kernel_rfl,by kernel_rfl,by kernel_rfl,by kernel_rfl⟩
  | inr h=>subst h;exact ⟨by kernel_rfl,by kernel_rfl,by kernel_rfl,by kernel_rfl,by kernel_rfl⟩
theorem kk_4v (hkd:kd=.normal∨kd=.deferred):(actOf (kk3 c o jv b cs kd w0 w1)).eval (.tmp 8)=.pointer (some ⟨c,o,none⟩):=by
  cases hkd with
  | inl h=>subst h;kernel_rfl
  | inr h=>subst h;kernel_rfl
theorem kk_4r (hkd:kd=.normal∨kd=.deferred):isRun (kk3 c o jv b cs kd w0 w1)=true:=by
  cases hkd with
  | inl h=>subst h;kernel_rfl
  | inr h=>subst h;kernel_rfl
theorem kk_5 (hkd:kd=.normal∨kd=.deferred)(ws:Nat->World):chk Tryz.prog true bareMark 3 0 (kk4 c o jv b cs kd w0 w1) ws=some (tgt 3 ws,0):=by
  cases hkd with
  | inl h=>subst h;kernel_rfl
  | inr h=>subst h;kernel_rfl
theorem kk_5r (hkd:kd=.normal∨kd=.deferred):isRun (kk5 c o jv b cs kd w0 w1 w2)=true:=by
  cases hkd with
  | inl h=>subst h;kernel_rfl
  | inr h=>subst h;kernel_rfl
theorem kk_6 (hkd:kd=.normal∨kd=.deferred):∀ w,stepG Tryz.prog true (kk5 c o jv b cs kd w0 w1 w2) w=.go (G (Tame.ret kd b (.tuple #[])) cs) w #[]:=by
  cases hkd with
  | inl h=>
    subst h
    have:(fun w=>stepG Tryz.prog true (kk5 c o jv b cs .normal w0 w1 w2) w)=fun w=>.go (G (Tame.ret .normal b (.tuple #[])) cs) w #[]:=by kernel_rfl
    exact congrFun this
  | inr h=>
    subst h
    have:(fun w=>stepG Tryz.prog true (kk5 c o jv b cs .deferred w0 w1 w2) w)=fun w=>.go (G (Tame.ret .deferred b (.tuple #[])) cs) w #[]:=by kernel_rfl
    exact congrFun this
theorem uu_1 (hkd:kd=.normal∨kd=.deferred)(ws:Nat->World):chk Tryz.prog true bareMark 7 0 (uu0 c o jv b cs kd) ws=some (tgt 7 ws,0):=by
  cases hkd with
  | inl h=>subst h;kernel_rfl
  | inr h=>subst h;kernel_rfl
theorem uu_2 (hkd:kd=.normal∨kd=.deferred):AtOp (uu1 c o jv b cs kd w0) (.load 21 (.tmp 5)):=by
  cases hkd with
  | inl h=>subst h;exact ⟨by kernel_rfl,by kernel_rfl,by kernel_rfl,by kernel_rfl,by kernel_rfl⟩
  | inr h=>subst h;exact ⟨by kernel_rfl,by kernel_rfl,by kernel_rfl,by kernel_rfl,by kernel_rfl⟩
theorem uu_2v (hkd:kd=.normal∨kd=.deferred):(actOf (uu1 c o jv b cs kd w0)).eval (.tmp 5)=.pointer (some ⟨c,o,none⟩):=by
  cases hkd with
  | inl h=>subst h;kernel_rfl
  | inr h=>subst h;kernel_rfl
theorem uu_2r (hkd:kd=.normal∨kd=.deferred):isRun (uu1 c o jv b cs kd w0)=true:=by
  cases hkd with
  | inl h=>subst h;kernel_rfl
  | inr h=>subst h;kernel_rfl
theorem uu_2n (hkd:kd=.normal∨kd=.deferred):(Tryz.prog.funcs[(uu1 c o jv b cs kd w0).frame.fn]?).any (·.norace)=true:=by
  cases hkd with
  | inl h=>subst h;kernel_rfl
  | inr h=>subst h;kernel_rfl
theorem uu_3 (hkd:kd=.normal∨kd=.deferred)(ws:Nat->World):chk Tryz.prog true bareMark 4 0 (uu2 c o jv b cs kd w0) ws=some (tgt 4 ws,0):=by
  cases hkd with
  | inl h=>subst h;kernel_rfl
  | inr h=>subst h;kernel_rfl
theorem uu_4 (hkd:kd=.normal∨kd=.deferred):AtOp (uu3 c o jv b cs kd w0 w1) (.convert 211 127 (.tmp 7)):=by
  cases hkd with
  | inl h=>subst h;exact ⟨by kernel_rfl,by kernel_rfl,by kernel_rfl,by kernel_rfl,by kernel_rfl⟩
  | inr h=>subst h;exact ⟨by kernel_rfl,by kernel_rfl,by kernel_rfl,by kernel_rfl,by kernel_rfl⟩
theorem uu_4v (hkd:kd=.normal∨kd=.deferred):(actOf (uu3 c o jv b cs kd w0 w1)).eval (.tmp 7)=.pointer (some ⟨c,o,none⟩):=by
  cases hkd with
  | inl h=>subst h;kernel_rfl
  | inr h=>subst h;kernel_rfl
theorem uu_4r (hkd:kd=.normal∨kd=.deferred):isRun (uu3 c o jv b cs kd w0 w1)=true:=by
  cases hkd with
  | inl h=>subst h;kernel_rfl
  | inr h=>subst h;kernel_rfl
theorem uu_5 (hkd:kd=.normal∨kd=.deferred)(ws:Nat->World):chk Tryz.prog true bareMark 10 0 (uu4 c o jv b cs kd w0 w1) ws=some (tgt 10 ws,1):=by
  cases hkd with
  | inl h=>subst h;kernel_rfl
  | inr h=>subst h;kernel_rfl
theorem uu_6 (hkd:kd=.normal∨kd=.deferred):AtOp (uu5 c o jv b cs kd w0 w1 w2) (.call { callee:=.value (.func 122),args:=#[.tmp 13,.const (.int .i32 (-1))],argTypes:=#[213,21] }):=by
  cases hkd with
  | inl h=>subst h;exact ⟨by kernel_rfl,by kernel_rfl,by kernel_rfl,by kernel_rfl,by kernel_rfl⟩
  | inr h=>subst h;exact ⟨by kernel_rfl,by kernel_rfl,by kernel_rfl,by kernel_rfl,by kernel_rfl⟩
theorem uu_6v (hkd:kd=.normal∨kd=.deferred):(actOf (uu5 c o jv b cs kd w0 w1 w2)).eval (.tmp 13)=.pointer (some ⟨c,o,none⟩):=by
  cases hkd with
  | inl h=>subst h;kernel_rfl
  | inr h=>subst h;kernel_rfl
theorem uu_6a (hkd:kd=.normal∨kd=.deferred):(actOf (uu5 c o jv b cs kd w0 w1 w2)).eval (.const (.int .i32 (-1)))=.int .i32 (-1):=by
  cases hkd with
  | inl h=>subst h;kernel_rfl
  | inr h=>subst h;kernel_rfl
theorem uu_6r (hkd:kd=.normal∨kd=.deferred):isRun (uu5 c o jv b cs kd w0 w1 w2)=true:=by
  cases hkd with
  | inl h=>subst h;kernel_rfl
  | inr h=>subst h;kernel_rfl
theorem uu_7 (hkd:kd=.normal∨kd=.deferred)(ws:Nat->World):chk Tryz.prog true bareMark 14 1 (uu6 c o jv b cs kd w0 w1 w2) ws=some (tgt 14 ws,0):=by
  cases hkd with
  | inl h=>subst h;kernel_rfl
  | inr h=>subst h;kernel_rfl
theorem uu_7r (hkd:kd=.normal∨kd=.deferred):isRun (uu7 c o jv b cs kd w0 w1 w2 w3)=true:=by
  cases hkd with
  | inl h=>subst h;kernel_rfl
  | inr h=>subst h;kernel_rfl
theorem uu_8 (hkd:kd=.normal∨kd=.deferred):∀ w,stepG Tryz.prog true (uu7 c o jv b cs kd w0 w1 w2 w3) w=.go (G (Tame.ret kd b (.tuple #[])) cs) w #[]:=by
  cases hkd with
  | inl h=>
    subst h
    have:(fun w=>stepG Tryz.prog true (uu7 c o jv b cs .normal w0 w1 w2 w3) w)=fun w=>.go (G (Tame.ret .normal b (.tuple #[])) cs) w #[]:=by kernel_rfl
    exact congrFun this
  | inr h=>
    subst h
    have:(fun w=>stepG Tryz.prog true (uu7 c o jv b cs .deferred w0 w1 w2 w3) w)=fun w=>.go (G (Tame.ret .deferred b (.tuple #[])) cs) w #[]:=by kernel_rfl
    exact congrFun this
theorem kk_cas (hkd:kd=.normal∨kd=.deferred){u:World}(hc:u.cell? ⟨c,o,none⟩=some (.int .i32 0))(hz:u.frozen? ⟨c,o,none⟩=false):stepG Tryz.prog true (kk1 c o jv b cs kd w0) u=.go (kk2 c o jv b cs kd w0) (u.setCell ⟨c,o,none⟩ (.int .i32 1)) #[⟨.cell ⟨c,o,none⟩,false,true⟩,⟨.cell ⟨c,o,none⟩,true,true⟩]:=by
  have h1:=kk_2 (c:=c) (o:=o) (jv:=jv) (b:=b) (cs:=cs) (w0:=w0) hkd
  have h2:=kk_2v (c:=c) (o:=o) (jv:=jv) (b:=b) (cs:=cs) (w0:=w0) hkd
  have h3:=kk_2a (c:=c) (o:=o) (jv:=jv) (b:=b) (cs:=cs) (w0:=w0) hkd
  have h4:=kk_2b (c:=c) (o:=o) (jv:=jv) (b:=b) (cs:=cs) (w0:=w0) hkd
  unfold kk2
  generalize kk1 c o jv b cs kd w0=g at h1 h2 h3 h4 ⊢
  exact h1.casHit Tryz.ext120 h2 h3 h4 hc hz
theorem kk_conv (hkd:kd=.normal∨kd=.deferred){u:World}{v:Value}(hc:u.cell? ⟨c,o,none⟩=some v):stepG Tryz.prog true (kk3 c o jv b cs kd w0 w1) u=.go (kk4 c o jv b cs kd w0 w1) u #[]:=by
  obtain ⟨cc,e,f,hb1,hb2⟩:=cellBlock hc
  have h1:=kk_4 (c:=c) (o:=o) (jv:=jv) (b:=b) (cs:=cs) (w0:=w0) (w1:=w1) hkd
  have h2:=kk_4v (c:=c) (o:=o) (jv:=jv) (b:=b) (cs:=cs) (w0:=w0) (w1:=w1) hkd
  unfold kk4
  generalize kk3 c o jv b cs kd w0 w1=g at h1 h2 ⊢
  exact h1.unsafePtr (a:=⟨c,o,none⟩) (t:=77) (n:=1) h2 Tryz.und211 Tryz.und127 Tryz.size77 hb1 hb2
theorem uu_load (hkd:kd=.normal∨kd=.deferred){u:World}(hc:u.cell? ⟨c,o,none⟩=some (.int .i32 1)):stepG Tryz.prog true (uu1 c o jv b cs kd w0) u=.go (uu2 c o jv b cs kd w0) u #[]:=by
  have h1:=uu_2 (c:=c) (o:=o) (jv:=jv) (b:=b) (cs:=cs) (w0:=w0) hkd
  have h2:=uu_2v (c:=c) (o:=o) (jv:=jv) (b:=b) (cs:=cs) (w0:=w0) hkd
  have h3:=uu_2n (c:=c) (o:=o) (jv:=jv) (b:=b) (cs:=cs) (w0:=w0) hkd
  unfold uu2
  generalize uu1 c o jv b cs kd w0=g at h1 h2 h3 ⊢
  exact AtOp.loadN (P:=Tryz.prog) (main:=true) (w:=u) (v:=.int .i32 1) (a:=⟨c,o,none⟩) (d:=.int .i32) h1 h2 Tryz.und21 rfl h3 hc
theorem uu_conv (hkd:kd=.normal∨kd=.deferred){u:World}{v:Value}(hc:u.cell? ⟨c,o,none⟩=some v):stepG Tryz.prog true (uu3 c o jv b cs kd w0 w1) u=.go (uu4 c o jv b cs kd w0 w1) u #[]:=by
  obtain ⟨cc,e,f,hb1,hb2⟩:=cellBlock hc
  have h1:=uu_4 (c:=c) (o:=o) (jv:=jv) (b:=b) (cs:=cs) (w0:=w0) (w1:=w1) hkd
  have h2:=uu_4v (c:=c) (o:=o) (jv:=jv) (b:=b) (cs:=cs) (w0:=w0) (w1:=w1) hkd
  unfold uu4
  generalize uu3 c o jv b cs kd w0 w1=g at h1 h2 ⊢
  exact h1.unsafePtr (a:=⟨c,o,none⟩) (t:=77) (n:=1) h2 Tryz.und211 Tryz.und127 Tryz.size77 hb1 hb2
theorem uu_add (hkd:kd=.normal∨kd=.deferred){u:World}(hc:u.cell? ⟨c,o,none⟩=some (.int .i32 1))(hz:u.frozen? ⟨c,o,none⟩=false):stepG Tryz.prog true (uu5 c o jv b cs kd w0 w1 w2) u=.go (uu6 c o jv b cs kd w0 w1 w2) (u.setCell ⟨c,o,none⟩ (.int .i32 0)) #[⟨.cell ⟨c,o,none⟩,false,true⟩,⟨.cell ⟨c,o,none⟩,true,true⟩]:=by
  have h1:=uu_6 (c:=c) (o:=o) (jv:=jv) (b:=b) (cs:=cs) (w0:=w0) (w1:=w1) (w2:=w2) hkd
  have h2:=uu_6v (c:=c) (o:=o) (jv:=jv) (b:=b) (cs:=cs) (w0:=w0) (w1:=w1) (w2:=w2) hkd
  have h3:=uu_6a (c:=c) (o:=o) (jv:=jv) (b:=b) (cs:=cs) (w0:=w0) (w1:=w1) (w2:=w2) hkd
  unfold uu6
  generalize uu5 c o jv b cs kd w0 w1 w2=g at h1 h2 h3 ⊢
  have h:=h1.addA (main:=true) Tryz.ext122 h2 h3 hc hz
  have e:IntKind.i32.wrap (1 + -1)=0:=by decide
  rw [e] at h
  exact h
theorem deaf_two {a:Addr}(d:Nat):deafBehind d #[⟨.cell a,false,true⟩,⟨.cell a,true,true⟩] = d:=rfl
theorem Fine.nil:Fine S #[]:=.inl fun e he=>by simp at he
theorem lock_route (hkd:kd=.normal∨kd=.deferred)(hc:w.cell? ⟨c,o,none⟩=some (.int .i32 0))(hz:w.frozen? ⟨c,o,none⟩=false)(hk:¬ S.keep ⟨c,o,none⟩)(hg:¬ S.gone ⟨c,o,none⟩)
    (hs:∀ d,Stop (G (Tame.ret kd b (.tuple #[])) cs) ((w.setCell ⟨c,o,none⟩ (.int .i32 1)).at d)):Route Tryz.prog S Stop 26 0 (kk0 c o jv b cs kd) w:=by
  refine Route.seg (n:=10) (m:=16) (d:=0) (d':=1) (g:=kk0 c o jv b cs kd) (kk_1 (c:=c) (o:=o) (jv:=jv) (b:=b) (cs:=cs)  hkd) fun w0 x0=>?_
  have h1:=fun x=>kk_cas (jv:=jv) (b:=b) (cs:=cs) (w0:=w0) hkd (u:=(w.at x0).at x) hc hz
  refine Route.one (n:=15) (d:=1) (g:=kk1 c o jv b cs kd w0) (g':=kk2 c o jv b cs kd w0) (f:=fun w=>w.setCell ⟨c,o,none⟩ (.int .i32 1)) (kk_2r (jv:=jv) (b:=b) (cs:=cs) (c:=c) (o:=o) (w0:=w0) hkd) h1 (fun x=>Leaves.setAt hk) (atomics_own hg hk) fun x=>?_
  rw [deaf_two]
  have hcell:((((w.at x0).at x).setCell ⟨c,o,none⟩ (.int .i32 1)).cell? ⟨c,o,none⟩)=some (.int .i32 1):=World.cell?_setCell_same _ _ _ hc
  refine Route.seg (n:=10) (m:=5) (d:=1) (d':=0) (g:=kk2 c o jv b cs kd w0) (kk_3 (c:=c) (o:=o) (jv:=jv) (b:=b) (cs:=cs) (w0:=w0) hkd) fun w1 x1=>?_
  have h2:=fun x'=>kk_conv (jv:=jv) (b:=b) (cs:=cs) (w0:=w0) (w1:=w1) hkd (u:=((((w.at x0).at x).setCell ⟨c,o,none⟩ (.int .i32 1)).at x1).at x') hcell
  refine Route.one (n:=4) (d:=0) (g:=kk3 c o jv b cs kd w0 w1) (g':=kk4 c o jv b cs kd w0 w1) (f:=id) (kk_4r (jv:=jv) (b:=b) (cs:=cs) (c:=c) (o:=o) (w0:=w0) (w1:=w1) hkd) h2 (fun x=>Leaves.at _ _ _) Fine.nil fun x2=>?_
  refine Route.seg (n:=3) (m:=1) (d:=0) (d':=0) (g:=kk4 c o jv b cs kd w0 w1) (kk_5 (c:=c) (o:=o) (jv:=jv) (b:=b) (cs:=cs) (w0:=w0) (w1:=w1) hkd) fun w2 x3=>?_
  refine Route.one (n:=0) (d:=0) (g:=kk5 c o jv b cs kd w0 w1 w2) (f:=id) (kk_5r (jv:=jv) (b:=b) (cs:=cs) (c:=c) (o:=o) (w0:=w0) (w1:=w1) (w2:=w2) hkd) (fun x=>kk_6 (c:=c) (o:=o) (jv:=jv) (b:=b) (cs:=cs) (w0:=w0) (w1:=w1) (w2:=w2) hkd _) (fun x=>Leaves.at _ _ _) Fine.nil fun x4=>?_
  exact .stop (hs x4)
theorem unlock_route (hkd:kd=.normal∨kd=.deferred)(hc:w.cell? ⟨c,o,none⟩=some (.int .i32 1))(hz:w.frozen? ⟨c,o,none⟩=false)(hk:¬ S.keep ⟨c,o,none⟩)(hg:¬ S.gone ⟨c,o,none⟩)
    (hs:∀ d,Stop (G (Tame.ret kd b (.tuple #[])) cs) ((w.setCell ⟨c,o,none⟩ (.int .i32 0)).at d)):Route Tryz.prog S Stop 39 0 (uu0 c o jv b cs kd) w:=by
  refine Route.seg (n:=7) (m:=32) (d:=0) (d':=0) (g:=uu0 c o jv b cs kd) (uu_1 (c:=c) (o:=o) (jv:=jv) (b:=b) (cs:=cs)  hkd) fun w0 x0=>?_
  have h1:=fun x=>uu_load (jv:=jv) (b:=b) (cs:=cs) (w0:=w0) hkd (u:=(w.at x0).at x) hc
  refine Route.one (n:=31) (d:=0) (g:=uu1 c o jv b cs kd w0) (g':=uu2 c o jv b cs kd w0) (f:=id) (uu_2r (jv:=jv) (b:=b) (cs:=cs) (c:=c) (o:=o) (w0:=w0) hkd) h1 (fun x=>Leaves.at _ _ _) Fine.nil fun x=>?_
  refine Route.seg (n:=4) (m:=27) (d:=0) (d':=0) (g:=uu2 c o jv b cs kd w0) (uu_3 (c:=c) (o:=o) (jv:=jv) (b:=b) (cs:=cs) (w0:=w0) hkd) fun w1 x1=>?_
  have h2:=fun x'=>uu_conv (jv:=jv) (b:=b) (cs:=cs) (w0:=w0) (w1:=w1) hkd (u:=(((w.at x0).at x).at x1).at x') hc
  refine Route.one (n:=26) (d:=0) (g:=uu3 c o jv b cs kd w0 w1) (g':=uu4 c o jv b cs kd w0 w1) (f:=id) (uu_4r (jv:=jv) (b:=b) (cs:=cs) (c:=c) (o:=o) (w0:=w0) (w1:=w1) hkd) h2 (fun x=>Leaves.at _ _ _) Fine.nil fun x2=>?_
  refine Route.seg (n:=10) (m:=16) (d:=0) (d':=1) (g:=uu4 c o jv b cs kd w0 w1) (uu_5 (c:=c) (o:=o) (jv:=jv) (b:=b) (cs:=cs) (w0:=w0) (w1:=w1) hkd) fun w2 x3=>?_
  have h3:=fun x'=>uu_add (jv:=jv) (b:=b) (cs:=cs) (w0:=w0) (w1:=w1) (w2:=w2) hkd (u:=(((((w.at x0).at x).at x1).at x2).at x3).at x') hc hz
  refine Route.one (n:=15) (d:=1) (g:=uu5 c o jv b cs kd w0 w1 w2) (g':=uu6 c o jv b cs kd w0 w1 w2) (f:=fun w=>w.setCell ⟨c,o,none⟩ (.int .i32 0)) (uu_6r (jv:=jv) (b:=b) (cs:=cs) (c:=c) (o:=o) (w0:=w0) (w1:=w1) (w2:=w2) hkd) h3 (fun x=>Leaves.setAt hk) (atomics_own hg hk) fun x4=>?_
  rw [deaf_two]
  refine Route.seg (n:=14) (m:=1) (d:=1) (d':=0) (g:=uu6 c o jv b cs kd w0 w1 w2) (uu_7 (c:=c) (o:=o) (jv:=jv) (b:=b) (cs:=cs) (w0:=w0) (w1:=w1) (w2:=w2) hkd) fun w3 x5=>?_
  refine Route.one (n:=0) (d:=0) (g:=uu7 c o jv b cs kd w0 w1 w2 w3) (f:=id) (uu_7r (jv:=jv) (b:=b) (cs:=cs) (c:=c) (o:=o) (w0:=w0) (w1:=w1) (w2:=w2) (w3:=w3) hkd) (fun x=>uu_8 (c:=c) (o:=o) (jv:=jv) (b:=b) (cs:=cs) (w0:=w0) (w1:=w1) (w2:=w2) (w3:=w3) hkd _) (fun x=>Leaves.at _ _ _) Fine.nil fun x6=>?_
  exact .stop (hs x6)
end
end
end Go.Proofs.Shardlog
