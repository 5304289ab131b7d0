/- Several texts in one: TameWoken, TameCall, TameLeave, TameHire, TameTold, TameStage. -/
import Derived.Test.YtblcigmggdiccaaGreatDoorPart04
import Derived.Test.YtblcigmggdiccaaGreatDoorPart02
set_option linter.unusedSectionVars false
set_option linter.unusedSimpArgs false
set_option linter.unusedVariables false
namespace Go.Proofs.Shardlog
open Go.Conc Go.Tame
section
set_option maxRecDepth 100000
section
variable {c:Nat}{cs:List Frame}{J:Nat->Value}{n:Int}{a0 a1 a2 a3 a4 a5 a6 a7 a8:Nat->World}{K:World->Prop}{Stop:Nat->Goroutine->Prop}{m:Nat}
theorem c5_at (hn:Count n):AtOp (c5 c cs J n a0 a1 a2 a3 a4) (.call { callee:=.value (.func 66),args:=#[.tmp 70,.tmp 71],argTypes:=#[131,4] })/\((#[Operand.tmp 70,.tmp 71].map (actOf (c5 c cs J n a0 a1 a2 a3 a4)).eval))[0]? = some (.pointer (some ⟨c,7,none⟩))/\(c5 c cs J n a0 a1 a2 a3 a4).status=.running:=by
  rcases hn with rfl|rfl|rfl|rfl <;> exact ⟨⟨by kernel_rfl,by kernel_rfl,by kernel_rfl,by kernel_rfl,by kernel_rfl⟩,by kernel_rfl,by kernel_rfl⟩
theorem c5_wait (hn:Count n){w:World}(hc:w.cell? ⟨c,7,none⟩=some (.int .u32 0)):stepG Tryz.prog true (c5 c cs J n a0 a1 a2 a3 a4) w=.go { c5 c cs J n a0 a1 a2 a3 a4 with status:=.blocked } w #[]:=
  (c5_at hn).1.semWait Tryz.ext66 (c5_at hn).2.1 hc
theorem c5_go (hn:Count n){w:World}(hc:w.cell? ⟨c,7,none⟩=some (.int .u32 1))(hz:w.frozen? ⟨c,7,none⟩=false):stepG Tryz.prog true (c5 c cs J n a0 a1 a2 a3 a4) w=.go (c6 c cs J n a0 a1 a2 a3 a4) (w.setCell ⟨c,7,none⟩ (.int .u32 0)) (semEvents ⟨c,7,none⟩):=
  (c5_at hn).1.semacquire Tryz.ext66 (c5_at hn).2.1 hc (by decide) hz
theorem c6_way (hn:Count n)(h:∀ a5,Stop 1 (c7 c cs J n a0 a1 a2 a3 a4 a5)):WayD Tryz.prog true K (fun e=>e.mute=true) Stop 16 1 (c6 c cs J n a0 a1 a2 a3 a4):=by
  rcases hn with rfl|rfl|rfl|rfl
  all_goals exact WayD.seg (p:=Event.mute) (n:=16) (m:=0) (d':=1) (fun _ he=>he) (fun ws=>by kernel_rfl) fun a5=>h a5
theorem c7_load (hn:Count n){w:World}(hc:w.cell? ⟨c,6,none⟩=some (.int .u64 0)):stepG Tryz.prog true (c7 c cs J n a0 a1 a2 a3 a4 a5) w=.go (c8 c cs J n a0 a1 a2 a3 a4 a5) w #[⟨.cell ⟨c,6,none⟩,false,true⟩]:=by
  have h:AtOp (c7 c cs J n a0 a1 a2 a3 a4 a5) (.call { callee:=.value (.func 92),args:=#[.tmp 5],argTypes:=#[187] })/\(actOf (c7 c cs J n a0 a1 a2 a3 a4 a5)).eval (.tmp 5)=.pointer (some ⟨c,6,none⟩):=by
    rcases hn with rfl|rfl|rfl|rfl <;> exact ⟨⟨by kernel_rfl,by kernel_rfl,by kernel_rfl,by kernel_rfl,by kernel_rfl⟩,by kernel_rfl⟩
  exact h.1.loadA Tryz.ext92 h.2 hc
theorem c8_way (hn:Count n)(hK:∀ w,K w->∃ x e f,w.heap[c]? = some (.cells x e f)/\7<x.size)(h:∀ a6,WayD Tryz.prog true K (fun e=>e.mute=true) Stop m 0 (c10 c cs J n a0 a1 a2 a3 a4 a5 a6)):WayD Tryz.prog true K (fun e=>e.mute=true) Stop (15+(m+1)) 1 (c8 c cs J n a0 a1 a2 a3 a4 a5):=by
  have hat:∀ a6,AtOp (c9 c cs J n a0 a1 a2 a3 a4 a5 a6) (.convert 123 127 (.tmp 79))/\(actOf (c9 c cs J n a0 a1 a2 a3 a4 a5 a6)).eval (.tmp 79)=.pointer (some ⟨c,6,none⟩)/\(c9 c cs J n a0 a1 a2 a3 a4 a5 a6).status=.running:=by
    rcases hn with rfl|rfl|rfl|rfl <;> exact fun a6=>⟨⟨by kernel_rfl,by kernel_rfl,by kernel_rfl,by kernel_rfl,by kernel_rfl⟩,by kernel_rfl,by kernel_rfl⟩
  have k:∀ a6,WayD Tryz.prog true K (fun e=>e.mute=true) Stop (m+1) 0 (c9 c cs J n a0 a1 a2 a3 a4 a5 a6):=fun a6=>by
    refine WayD.one (m:=m) (g':=c10 c cs J n a0 a1 a2 a3 a4 a5 a6) (es:=#[]) (hat a6).2.2 (fun w hw=>?_) (by simp) (h a6)
    obtain ⟨x,e,f,h1,h2⟩:=hK w hw
    exact (hat a6).1.unsafePtr (a:=⟨c,6,none⟩) (t:=92) (n:=1) (hat a6).2.1 Tryz.und123 Tryz.und127 Tryz.size92 h1 (by show 6<x.size;omega)
  rcases hn with rfl|rfl|rfl|rfl
  all_goals exact WayD.seg (p:=Event.mute) (n:=15) (m:=m+1) (d':=0) (fun _ he=>he) (fun ws=>by kernel_rfl) fun a6=>k a6
theorem c10_mark (hn:Count n)(w:World):stepG Tryz.prog true (c10 c cs J n a0 a1 a2 a3 a4 a5 a6) w=.go (c10b c cs J n a0 a1 a2 a3 a4 a5 a6 fun _=>w) w #[⟨.mark (.acquire ⟨c,6,none⟩),false,true⟩]:=by
  rcases hn with rfl|rfl|rfl|rfl
  · have:(fun w=>stepG Tryz.prog true (c10 c cs J 4294967296 a0 a1 a2 a3 a4 a5 a6) w)=fun w=>.go (c10b c cs J 4294967296 a0 a1 a2 a3 a4 a5 a6 fun _=>w) w #[⟨.mark (.acquire ⟨c,6,none⟩),false,true⟩]:=by kernel_rfl
    exact congrFun this w
  · have:(fun w=>stepG Tryz.prog true (c10 c cs J 8589934592 a0 a1 a2 a3 a4 a5 a6) w)=fun w=>.go (c10b c cs J 8589934592 a0 a1 a2 a3 a4 a5 a6 fun _=>w) w #[⟨.mark (.acquire ⟨c,6,none⟩),false,true⟩]:=by kernel_rfl
    exact congrFun this w
  · have:(fun w=>stepG Tryz.prog true (c10 c cs J 12884901888 a0 a1 a2 a3 a4 a5 a6) w)=fun w=>.go (c10b c cs J 12884901888 a0 a1 a2 a3 a4 a5 a6 fun _=>w) w #[⟨.mark (.acquire ⟨c,6,none⟩),false,true⟩]:=by kernel_rfl
    exact congrFun this w
  · have:(fun w=>stepG Tryz.prog true (c10 c cs J 17179869184 a0 a1 a2 a3 a4 a5 a6) w)=fun w=>.go (c10b c cs J 17179869184 a0 a1 a2 a3 a4 a5 a6 fun _=>w) w #[⟨.mark (.acquire ⟨c,6,none⟩),false,true⟩]:=by kernel_rfl
    exact congrFun this w
theorem c10_way (hn:Count n)(h:∀ a8,Stop 0 (c11 c cs J n a0 a1 a2 a3 a4 a5 a6 a7 a8)):WayD Tryz.prog true K (fun e=>e.mute=true) Stop 9 0 (c10b c cs J n a0 a1 a2 a3 a4 a5 a6 a7):=by
  rcases hn with rfl|rfl|rfl|rfl
  all_goals exact WayD.seg (p:=Event.mute) (n:=9) (m:=0) (d':=0) (fun _ he=>he) (fun ws=>by kernel_rfl) fun a8=>h a8
theorem c11_back (hn:Count n)(b:Frame)(w:World):stepG Tryz.prog true (c11 c (b :: cs) J n a0 a1 a2 a3 a4 a5 a6 a7 a8) w=.go (G (b.finish (.tuple #[])) cs) w #[]:=by
  rcases hn with rfl|rfl|rfl|rfl
  · have:(fun w=>stepG Tryz.prog true (c11 c (b :: cs) J 4294967296 a0 a1 a2 a3 a4 a5 a6 a7 a8) w)=fun w=>.go (G (b.finish (.tuple #[])) cs) w #[]:=by kernel_rfl
    exact congrFun this w
  · have:(fun w=>stepG Tryz.prog true (c11 c (b :: cs) J 8589934592 a0 a1 a2 a3 a4 a5 a6 a7 a8) w)=fun w=>.go (G (b.finish (.tuple #[])) cs) w #[]:=by kernel_rfl
    exact congrFun this w
  · have:(fun w=>stepG Tryz.prog true (c11 c (b :: cs) J 12884901888 a0 a1 a2 a3 a4 a5 a6 a7 a8) w)=fun w=>.go (G (b.finish (.tuple #[])) cs) w #[]:=by kernel_rfl
    exact congrFun this w
  · have:(fun w=>stepG Tryz.prog true (c11 c (b :: cs) J 17179869184 a0 a1 a2 a3 a4 a5 a6 a7 a8) w)=fun w=>.go (G (b.finish (.tuple #[])) cs) w #[]:=by kernel_rfl
    exact congrFun this w
end
end
end Go.Proofs.Shardlog
namespace Go.Tame
open Go.Conc (G solo crowd)
section
section
variable {S:Prot}{P:Program}{F:Array Func}{In:Nat->Option Chair}{w v:World}{f:FuncId}{args:Array Value}{R:Value->World->Prop}
def Left (P:Program) (F:Array Func) (R:Value->World->Prop) (fr:Frame) (v:World):Prop:=∃ y,R y v/\fr.leaving (withFuncs P F) v (.returned y)
theorem lone_of_calls (t:Nat->Question->Nat)(hc:Calls (withFuncs P F) f args (retape v t) fun e v'=>∃ y,e=.returned y/\R y v') :
    ∃ n fr' v',runN (withFuncs P F) n (solo (G (Frame.enter (withFuncs P F) f args .normal) ([] ++ [sent F])) (retape v t))=.next (solo (G fr' [sent F]) v')/\Left P F R fr' v':=by
  obtain ⟨e,v',fr,⟨y,rfl,hR⟩,hcm,_,hl⟩:=hc [sent F]
  obtain ⟨n,hn⟩:=(show Steps (withFuncs P F) _ _ from hcm)
  exact ⟨n,fr,v',hn,y,hR,hl⟩
def LeftC (S:Prot) (P:Program) (F:Array Func) (R:Value->World->Prop) (fr:Frame) (w:World):Prop:=FrameOk P F fr/\∃ v,Like S w v/\Left P F R fr v
theorem LeftC.at {fr:Frame}{w:World}(h:LeftC S P F R fr w)(d:Nat):LeftC S P F R fr (w.at d):=by
  obtain ⟨ho,v,hl,hr⟩:=h
  exact ⟨ho,v,⟨hl.size,hl.obj,hl.still,hl.gone,hl.os,hl.out⟩,hr⟩
theorem left_lost {fr:Frame}(h:Left P F R fr v):Lost P F (solo (G fr [sent F]) v):=by
  obtain ⟨y,_,hl⟩:=h
  have hs:step (withFuncs P F) (solo (G fr [sent F]) v)=.next (solo (G ((sent F).finish y) []) v):=step_leave_returned hl
  refine lost_next hs (fun n fr' A' v' hn e=>?_) fun fr' A' v' e=>?_
  · obtain ⟨o,z,hz⟩:=sent_over (Q:=withFuncs P F) (F:=F) (x:=v) (.inl ⟨y,rfl⟩)
    exact lost_ended (step_solo_ended (a:=G ((sent F).finish y) []) rfl hz) n fr' A' v' hn e
  · have:=congrArg (fun m=>(m.gs.getD 0 default).callers.length) e
    simp [solo,G] at this
theorem reach_of_calls {C:Macros}{m:C.κ}(hm:C.low m = [])(hF:Funcs S P F)(hC:Codes P F C.Sp)(hM:MacrosOk S P F C)(hsp:¬ C.Sp f)(hb:(F[f]?).any (fun fn=>!fn.body.isNone)=true)(hl:Like S w v)
    (hc:∀ t,Agree t v.tape v.drawn->Calls (withFuncs P F) f args (retape v t) fun e v'=>∃ y,e=.returned y/\R y v'):Reach S P C (fun _=>LeftC S P F R) m (Frame.enter P f args .normal) [] w:=by
  obtain ⟨g1,g2⟩:=FrameOk.enter (P:=P) hC args (kind:=.normal) hsp (.inl rfl) hb
  refine reach_of_lone (StopL:=Left P F R) hF hC hM hm g1 (by simp) hl (fun t ht=>?_) (fun fr' v' h=>left_lost h) fun _ fr' w' v' _ ho h h'=>⟨ho,v',h',h⟩
  obtain ⟨n,fr',v',h1,h2⟩:=lone_of_calls t (hc t ht)
  rw [g2] at h1
  exact ⟨n,fr',v',h1,h2⟩
theorem called {C:Macros}{J:C.κ->World->(Nat->Option Chair)->Prop}{m:C.κ}(hm:C.low m = [])(hJ:∀ m w w' In,Kept S w w'->J m w In->J m w' In)(hJat:∀ m w In d,J m w In->J m (w.at d) In)(hMc:MacroRuns P S C J)
    (hF:Funcs S P F) (hC:Codes P F C.Sp) (hM:MacrosOk S P F C) (hsp:¬ C.Sp f) (hb:(F[f]?).any (fun fn=>!fn.body.isNone)=true) (hl:Like S w v)
    (hc:∀ t,Agree t v.tape v.drawn->Calls (withFuncs P F) f args (retape v t) fun e v'=>∃ y,e=.returned y/\R y v')
    {T:Trace} {gs:Array Goroutine} {q:Nat->Nat} {sl:Option (Nat × Nat)} (H:House P S In (C.hand m) T gs w q) (hj:J m w In) (ha:gs[C.hand m]? = some (G (Frame.enter P f args .normal) (C.cs m))) :
    Leads P S C J (fun m fr A w=>A = []/\C.low m = []/\LeftC S P F R fr w) gs w sl T:=
  hold hJ hJat hMc (fun _ _ _ d h=>h.at d) (reach_of_calls (m:=m) hm hF hC hM hsp hb hl hc) In T gs q sl w.drawn H hj ha
end
end
end Go.Tame
namespace Go.Tame
open Go.Conc
section
open Go.ConcN (sumTo upd sumTo_upd upd_ne upd_same)
def Fixed {α:Type} (Q:Program) (s:Sem α):Prop:=∀ w a x t,s.run Q w=.ok a x->s.run Q (retape w t)=.ok a (retape x t)
section
variable {α β:Type}{Q:Program}
theorem fixed_pure (a:α):Fixed Q (pure a:Sem α):=fun w b x t h=>by cases h;rfl
theorem fixed_bind {s:Sem α}{f:α->Sem β}(h:Fixed Q s)(k:∀ a,Fixed Q (f a)):Fixed Q (s >>= f):=by
  intro w b x t he
  rw [Sem.run_bind] at he ⊢
  cases hs:s.run Q w with
  | ok a y=>rw [hs] at he;rw [h w a y t hs];exact k a y b x t he
  | halt y z=>rw [hs] at he;cases he
theorem fixed_stuck (m:String):Fixed Q (stuck m:Sem α):=fun w b x t h=>by cases h
theorem fixed_program {f:Program->Sem α}(k:Fixed Q (f Q)):Fixed Q (program >>= f):=fun w b x t h=>k w b x t h
theorem fixed_load (a:Addr)(m:Mode):Fixed Q (load a m):=by
  intro w b x t h
  have h1:(retape w t).cell? a=w.cell? a:=rfl
  have h2:(retape w t).farLoad Q a (m == .atomic)=w.farLoad Q a (m == .atomic):=rfl
  simp only [load,Sem.run,h1,h2] at h ⊢
  cases hc:w.cell? a with
  | some v=>rw [hc] at h;cases h;rfl
  | none=>
    rw [hc] at h
    cases hf:w.farLoad Q a (m == .atomic) with
    | ok r=>rw [hf] at h;cases h;rfl
    | error e=>rw [hf] at h;cases h
theorem fixed_typeInfo (t:TypeId):Fixed Q (typeInfo t):=fixed_program (by
  cases Q.info? t with
  | none=>exact fixed_stuck _
  | some i=>exact fixed_pure i)
theorem fixed_underlying (t:TypeId):Fixed Q (underlying t):=fixed_program (by
  cases Q.underlying t with
  | none=>exact fixed_stuck _
  | some i=>exact fixed_pure i)
theorem fixed_isAgg (t:TypeId):Fixed Q (isAgg t):=fixed_bind (fixed_underlying t) fun d=>by cases d <;> exact fixed_pure _
theorem fixed_loadCellsFrom (a:Addr):∀ (n i:Nat) (acc:Array Value),Fixed Q (loadCellsFrom a i n acc)
  | 0,_,_=>fixed_pure _
  | n+1,i,_=>fixed_bind (fixed_load _ _) fun _=>fixed_loadCellsFrom a n (i+1) _
theorem fixed_loadVar (t:TypeId)(a:Addr):Fixed Q (loadVar t a):=fixed_bind (fixed_isAgg t) fun c=>by
  cases c with
  | true=>exact fixed_bind (fixed_bind (fixed_typeInfo t) fun _=>fixed_pure _) fun _=>fixed_bind (fixed_loadCellsFrom a _ _ _) fun _=>fixed_pure _
  | false=>exact fixed_load a _
theorem fixed_asAddr (v:Value):Fixed Q (asAddr v):=by
  cases v <;> first|exact fixed_stuck _|skip
  rename_i o
  cases o with
  | some a=>exact fixed_pure a
  | none=>
    intro w b x t h
    cases h
theorem fixed_mapList {γ δ:Type}(f:γ->Sem δ)(h:∀ a,Fixed Q (f a)):∀ (l:List γ),Fixed Q (l.mapM f)
  | []=>by rw [List.mapM_nil];exact fixed_pure _
  | a :: l=>by
    rw [List.mapM_cons]
    exact fixed_bind (h a) fun _=>fixed_bind (fixed_mapList f h l) fun _=>fixed_pure _
theorem fixed_results (fn:Func)(tmps:Array Value):Fixed Q (results fn tmps):=by
  unfold results
  refine fixed_bind ?_ fun _=>fixed_pure _
  rw [Array.mapM_eq_mapM_toList,map_eq_pure_bind]
  refine fixed_bind (fixed_mapList _ (fun r=>?_) _) fun _=>fixed_pure _
  split
  · exact fixed_pure _
  · exact fixed_bind (fixed_asAddr _) fun _=>fixed_loadVar _ _
end
section
variable {S:Prot}{P:Program}{F:Array Func}{w v:World}{R:Value->World->Prop}
theorem LeftC.step {fr:Frame}(h:LeftC S P F R fr w)(main:Bool)(b:Frame)(cs:List Frame):∃ y v' w' es,R y v'/\Like S w' v'/\Kept S w w'/\(∀ e ∈ es,EvGood S e)/\stepG P main (G fr (b :: cs)) w=.go (G (b.finish y) cs) w' es:=by
  obtain ⟨ho,v,hl,y,hR,hm,hd,hk,fn,hf,hr⟩:=h
  obtain ⟨t,r,h1,h2,h3,h4⟩:=t_results (S:=S) (P:=P) (F:=F) (fn:=fn) (tmps:=fr.tmps) (L:=[]) w v hl (by simp)
  obtain ⟨fn',hfn1,hfn2⟩:=ho.fn
  have hff:fn'=fn:=by
    have:(withFuncs P F).funcs[fr.fn]? = some fn':=hfn1
    rw [hf] at this
    exact (Option.some.inj this).symm
  subst hff
  have hx:=h3 t (Agree.refl _ _)
  rw [fixed_results fn' fr.tmps v y v t hr] at hx
  match r,hx,h4 with
  | .ok y' v',hx,⟨w',g1,g2,g3,g4⟩=>
    have e1:y=y':=by injection hx
    have e2:retape v t=retape v' t:=by injection hx
    subst e1
    refine ⟨y,v,w',seen P fr.fn ((results fn' fr.tmps).events P w #[]) ++ #[],hR,?_,g3,fun e he=>g4 e (Go.Conc.mem_seen (by simpa using he)),?_⟩
    · have:=(g2.retape t)
      rw [← e2] at this
      exact (this.retape v.tape)
    · have:stepG P main (G fr (b :: cs)) w=GStep.after (seen P fr.fn ((results fn' fr.tmps).events P w #[])) (match (results fn' fr.tmps).run P w with
          | .ok y x'=>doReturn P main fr (b :: cs) none y x'
          | .halt (.stuck s) x'=>.ended (.stuck s (fr.pos P)) x'
          | .halt _ x'=>.ended (.stuck "return: the result variables cannot be read" (fr.pos P)) x'):=by
        simp only [stepG,G,hm]
        unfold unwind
        rw [hd];simp only [hm,hfn2,Sem.runT_eq]
        rfl
      rw [this,g1]
      simp only []
      rw [doReturn_cons (.inl hk),if_pos hk]
      rfl
end
section
variable {P:Program}{S:Prot}{In:Nat->Option Chair}{h:Nat}
theorem one {a:Goroutine}(hrun:a.status=.running){X:Goroutine->World->Prop}{w:World}(hs:∀ d,∃ a' u es,stepG P (h == 0) a (w.at d)=.go a' u es/\Kept S (w.at d) u/\(∀ e ∈ es,EvGood S e)/\X a' u) :
    ∀ (μ:Nat) (T:Trace) (gs:Array Goroutine) (q:Nat->Nat) (sl:Option (Nat × Nat)) (d:Nat),sumTo gs.size q=μ->House P S In h T gs (w.at d) q->gs[h]? = some a ->
      ∃ (N:Nat) (gs':Array Goroutine) (a':Goroutine) (d':Nat) (u:World) (sl':Option (Nat × Nat)) (T':Trace) (q':Nat->Nat),
        runNT P N (crowd gs (w.at d) sl) T=(.next (crowd gs' u sl'),T')/\gs'.size=gs.size/\gs'[h]? = some a'/\Kept S (w.at d') u/\X a' u/\House P S In h T' gs' u q':=by
  intro μ
  induction μ using Nat.strongRecOn with
  | _ μ ihμ=>
    intro T gs q sl d hμ C ha
    obtain ⟨i,g,d',sl',hi,hg,hst⟩:=crowd_pick (P:=P) (w:=w.at d) (sl:=sl) (C.awake ha hrun) ⟨_,_,ha,hrun⟩
    have hat:(w.at d).at d'=w.at d':=rfl
    have Cd:House P S In h T gs (w.at d') q:=C.at d'
    have stepIt:∀ {gs':Array Goroutine} {u:World} {ops:Trace},runT P (crowd gs (w.at d') sl') i=(.next (crowd gs' u sl'),ops)->runNT P 1 (crowd gs (w.at d) sl) T=(.next (crowd gs' u sl'),T++ops):=fun {gs' u ops} hr=>by
      have:stepT P (crowd gs (w.at d) sl)=(.next (crowd gs' u sl'),ops):=by rw [hst,hat];exact hr
      rw [runNT_succ_next this];rfl
    by_cases e:i=h
    · subst e
      obtain ⟨a',u,es,h1,h2,h3,hX⟩:=hs d'
      obtain ⟨gs₁,ops,hr,hsz,hself,C'⟩:=Cd.own_go (sl:=sl') ha h1 h2 h3
      exact ⟨1,gs₁,a',d',u,sl',_,q,stepIt hr,hsz,hself,h2,hX,C'⟩
    · obtain ⟨gs₁,ops,q₁,d₃,hr,hsz,ha₁,C₁,hlt⟩:=Cd.by_step (sl:=sl') hi e hg ha hrun
      obtain ⟨N,gs',a',d₂,u,sl₂,T',q',k1,k2,k3⟩:=ihμ (sumTo gs₁.size q₁) (by rw [hsz];omega) (T++ops) gs₁ q₁ sl' d₃ rfl C₁ ha₁
      exact ⟨1+N,gs',a',d₂,u,sl₂,T',q',by rw [runNT_add,stepIt hr];exact k1,k2.trans hsz,k3⟩
end
section
variable {S:Prot}{P:Program}{F:Array Func}{In:Nat->Option Chair}{w v:World}{f:FuncId}{args:Array Value}{R:Value->World->Prop}
theorem called_back {C:Macros}{J:C.κ->World->(Nat->Option Chair)->Prop}{m:C.κ}(hm:C.low m = [])(htop:∀ m',C.low m' = []->m'=m){b:Frame}{cs:List Frame}(hcs:C.cs m=b :: cs)
    (hJ:∀ m w w' In,Kept S w w'->J m w In->J m w' In) (hJat:∀ m w In d,J m w In->J m (w.at d) In) (hMc:MacroRuns P S C J)
    (hF:Funcs S P F) (hC:Codes P F C.Sp) (hM:MacrosOk S P F C) (hsp:¬ C.Sp f) (hb:(F[f]?).any (fun fn=>!fn.body.isNone)=true) (hl:Like S w v)
    (hc:∀ t,Agree t v.tape v.drawn->Calls (withFuncs P F) f args (retape v t) fun e v'=>∃ y,e=.returned y/\R y v')
    {T:Trace} {gs:Array Goroutine} {q:Nat->Nat} {sl:Option (Nat × Nat)} (H:House P S In (C.hand m) T gs w q) (hj:J m w In) (ha:gs[C.hand m]? = some (G (Frame.enter P f args .normal) (b :: cs))) :
    ∃ (N:Nat) (gs':Array Goroutine) (y:Value) (v' w':World) (sl':Option (Nat × Nat)) (T':Trace) (q':Nat->Nat) (In':Nat->Option Chair),
      runNT P N (crowd gs w sl) T=(.next (crowd gs' w' sl'),T')/\gs'.size=gs.size/\gs'[C.hand m]? = some (G (b.finish y) cs)/\R y v'/\Like S w' v'/\House P S In' (C.hand m) T' gs' w' q'/\J m w' In':=by
  rw [← hcs] at ha
  obtain ⟨N,gs₁,m₁,fr,A,w₁,sl₁,T₁,q₁,In₁,h1,h2,h3,⟨rfl,h4,h5⟩,h6,h7⟩:=called hm hJ hJat hMc hF hC hM hsp hb hl hc (sl:=sl) H hj ha
  have hmm:=htop m₁ h4
  subst hmm
  rw [List.nil_append,hcs] at h3
  obtain ⟨K,gs',a',d',u,sl',T',q',k1,k2,k3,k4,⟨y,v',rfl,k5,k6⟩,k7⟩:=one (h:=C.hand m₁) (a:=G fr (b :: cs)) rfl (X:=fun a' u=>∃ y v',a'=G (b.finish y) cs/\R y v'/\Like S u v') (w:=w₁)
    (fun d=>by
      obtain ⟨y,v',w',es,e1,e2,e3,e4,e5⟩:=(h5.at d).step (C.hand m₁ == 0) b cs
      exact ⟨_,w',es,e5,e3,e4,y,v',rfl,e1,e2⟩) _ T₁ gs₁ q₁ sl₁ w₁.drawn rfl h6 h3
  exact ⟨N+K,gs',y,v',u,sl',T',q',In₁,by rw [runNT_add,h1];exact k1,k2.trans h2,k3,k5,k6,k7,hJ _ _ _ _ k4 (hJat _ _ _ d' h7)⟩
end
end
section
open Go.ConcN (sumTo upd sumTo_upd upd_ne upd_same)
structure Prot.Le (S S':Prot):Prop where
  keep:∀ a,S.keep a->S'.keep a
  gone:∀ a,S.gone a->S'.gone a
section
variable {h:Nat}
theorem Tr.hire {Still Near:Nat->Loc->Prop}{Gone Gone':Loc->Prop}{t:Trace}{c:Nat}{mine nearby:Loc->Prop}(H:Tr Still Near Gone (Knows t h) t)(hh:Deaf t h=0)(hc:Deaf t c=0)(fh fc:FuncId)(ph pc:String)
    (hm:∀ l,mine l->l.isMemory=true/\¬ Gone l) (hn:∀ l,nearby l->l.isMemory=true/\∀ g,¬ Still g l) (hG:∀ l,Gone l->Gone' l) :
    Tr (fun g l=>Still g l∨(g=c/\mine l)) (fun g l=>Near g l∨(g=c/\nearby l)) Gone' (Knows (t ++ #[{ g:=h,fn:=fh,pos:=ph,act:=.go c },{ g:=c,fn:=fc,pos:=pc,act:=.start }]) h) (t ++ #[{ g:=h,fn:=fh,pos:=ph,act:=.go c },{ g:=c,fn:=fc,pos:=pc,act:=.start }]):=by
  generalize hu:(#[{ g:=h,fn:=fh,pos:=ph,act:=.go c },{ g:=c,fn:=fc,pos:=pc,act:=.start }]:Trace)=u
  have hnt:∀ op ∈ u,op.act.touch? = Option.none:=by
    intro op hop
    subst hu
    simp only [List.mem_toArray,List.mem_cons,List.not_mem_nil,or_false] at hop
    rcases hop with rfl|rfl <;> rfl
  have hq:∀ g,∀ op ∈ u,∀ d,deafStep g d op=d:=by
    intro g op hop d
    subst hu
    simp only [List.mem_toArray,List.mem_cons,List.not_mem_nil,or_false] at hop
    rcases hop with rfl|rfl <;> rfl
  have e0:(t++u)[t.size]? = some { g:=h,fn:=fh,pos:=ph,act:=.go c }:=by subst hu;simp
  have e1:(t++u)[t.size+1]? = some { g:=c,fn:=fc,pos:=pc,act:=.start }:=by subst hu;simp
  have edge:HappensBefore (t++u) t.size (t.size+1):=
    Relation.TransGen.single (.inr ⟨.spawn (act?_of e0) (act?_of e1) (g?_of e1),⟨h,g?_of e0,by rw [deaf_old (Nat.le_refl _)];exact hh⟩,⟨c,g?_of e1,by rw [deaf_quiet (hq c) 1 (by subst hu;simp)];exact hc⟩⟩)
  have told:∀ i,Knows t h i->Knows (t++u) c i:=fun i hk=>by
    have:HappensBefore (t++u) i t.size:=hk.hb_new (Nat.le_refl _) e0 rfl
    exact ⟨t.size+1,_,e1,rfl,.inr (this.trans edge)⟩
  refine ⟨fun said=>noRace_appendMute (H.clean said) hnt,fun i a ha hme=>?_,fun i a ha g hS=>?_⟩
  · obtain ⟨x,hx,hxa⟩:=touch_of ha
    rcases getElem?_append_cases hx with ⟨_,hx'⟩|⟨_,hxu⟩
    · rcases H.old (u:=u) (fun i=>Knows.app u) hx' hxa hme with k|⟨k,g,k1,k2⟩|⟨k1,k2⟩
      · exact .inl k
      · exact .inr (.inl ⟨k,g,.inl k1,k2⟩)
      · exact .inr (.inr ⟨hG _ k1,k2⟩)
    · rw [hnt x hxu] at hxa;cases hxa
  · obtain ⟨x,hx,hxa⟩:=touch_of ha
    rcases getElem?_append_cases hx with ⟨_,hx'⟩|⟨_,hxu⟩
    · have hold:=touch_old hx' hxa
      rcases hS with ⟨hw,hS|⟨rfl,hS⟩⟩|⟨hk,hS|⟨rfl,hS⟩⟩
      · exact (H.wrote i a hold g (.inl ⟨hw,hS⟩)).app u
      · rcases H.known i a hold (hm _ hS).1 with hk|⟨hr,_⟩|⟨hg,_⟩
        · exact told i hk
        · rw [hr] at hw;cases hw
        · exact absurd hg (hm _ hS).2
      · exact (H.wrote i a hold g (.inr ⟨hk,hS⟩)).app u
      · rcases H.known i a hold (hn _ hS).1 with hk'|⟨_,g',hg',_⟩|⟨_,ha',_⟩
        · exact told i hk'
        · exact absurd hg' ((hn _ hS).2 g')
        · rw [hk] at ha';cases ha'
    · rw [hnt x hxu] at hxa;cases hxa
theorem Tr.weaken {Still Near Still' Near':Nat->Loc->Prop}{Gone:Loc->Prop}{K:Nat->Prop}{t:Trace}(H:Tr Still Near Gone K t)(h1:∀ g l,Still' g l->Still g l)(h2:∀ g l,Still g l->Still' g l)(h3:∀ g l,Near' g l->Near g l):Tr Still' Near' Gone K t:=
  ⟨H.clean,fun i a ha hm=>(H.known i a ha hm).imp id (.imp (fun ⟨hr,g,hg,hi⟩=>⟨hr,g,h2 g _ hg,hi⟩) id),fun i a ha g hS=>H.wrote i a ha g (hS.imp (fun x=>⟨x.1,h1 g _ x.2⟩) (fun x=>⟨x.1,h3 g _ x.2⟩))⟩
end
section
variable {P:Program}{S:Prot}{In:Nat->Option Chair}{h:Nat}{gs:Array Goroutine}{w:World}
theorem hire {S':Prot}{a a' child:Goroutine}{es:Array Event}{c:Chair}{n:Nat}(hrun:a.status=.running)
    (hst:∀ d,stepG P (h == 0) a (w.at d)=.spawn a' child (w.at d) es) (hes:∀ e ∈ es,EvGood S e) (hwf:c.seat.Wf) (hch:∀ x,c.seat.has x->∃ (cap:Nat) (k:Nat × Nat),w.heap[x]? = some (.chan cap #[] false k.1 k.2 false)) (hK:c.K w)
    (hsits:Seated P false c.K c.loc c.B c.seat n child) (hS:S.Le S') (hS':∀ x,c.still x->S'.keep x) (hN':∀ x,c.near x->S'.gone x) (hap:∀ x,S'.gone x->¬ S'.keep x) :
    ∀ (T:Trace) (gs₀:Array Goroutine) (q:Nat->Nat) (sl:Option (Nat × Nat)) (d:Nat),House P S In h T gs₀ (w.at d) q->gs₀[h]? = some a ->
      ∃ (N:Nat) (gs':Array Goroutine) (d':Nat) (sl':Option (Nat × Nat)) (T':Trace) (q':Nat->Nat),
        runNT P N (crowd gs₀ (w.at d) sl) T=(.next (crowd gs' (w.at d') sl'),T')/\gs'.size=gs₀.size+1/\gs'[h]? = some a'/\House P S' (upd In gs₀.size (some c)) h T' gs' (w.at d') q':=by
  suffices key:∀ (μ:Nat) (T:Trace) (gs₀:Array Goroutine) (q:Nat->Nat) (sl:Option (Nat × Nat)) (d:Nat),sumTo gs₀.size q=μ->House P S In h T gs₀ (w.at d) q->gs₀[h]? = some a ->
      ∃ (N:Nat) (gs':Array Goroutine) (d':Nat) (sl':Option (Nat × Nat)) (T':Trace) (q':Nat->Nat),
        runNT P N (crowd gs₀ (w.at d) sl) T=(.next (crowd gs' (w.at d') sl'),T')/\gs'.size=gs₀.size+1/\gs'[h]? = some a'/\House P S' (upd In gs₀.size (some c)) h T' gs' (w.at d') q' from
    fun T gs₀ q sl d C ha₀=>key _ T gs₀ q sl d rfl C ha₀
  intro μ
  induction μ using Nat.strongRecOn with
  | _ μ ihμ=>
    intro T gs₀ q sl d hμ C ha₀
    obtain ⟨i,g,d',sl',hi,hg,hpick⟩:=crowd_pick (P:=P) (w:=w.at d) (sl:=sl) (C.awake ha₀ hrun) ⟨h,_,ha₀,hrun⟩
    have hat:(w.at d).at d'=w.at d':=rfl
    have Cd:House P S In h T gs₀ (w.at d') q:=C.at d'
    have hlth:h<gs₀.size:=(Array.getElem?_eq_some_iff.1 ha₀).1
    by_cases e:i=h
    · subst e
      rw [ha₀] at hi
      obtain rfl:=Option.some.inj hi
      have hr:=runT_crowd_spawn (sl:=sl') ha₀ (hst d')
      obtain ⟨g1,g2,g3⟩:=good_ops (fn:=a.frame.fn) (pos:=a.frame.place) Cd hes
      have C₁:House P S In i (T++MemOp.ofEvents i a.frame.fn a.frame.place es) gs₀ (w.at d') q:=Cd.work (Kept.refl _ _) rfl (fun _ _=>rfl) g1 g2 g3
      have hq:∀ g,∀ op ∈ (#[{ g:=i,fn:=a.frame.fn,pos:=a.frame.place,act:=.go gs₀.size },{ g:=gs₀.size,fn:=child.frame.fn,pos:=a.frame.place,act:=.start }]:Trace),∀ d,deafStep g d op=d:=by
        intro g op hop d
        simp only [List.mem_toArray,List.mem_cons,List.not_mem_nil,or_false] at hop
        rcases hop with rfl|rfl <;> rfl
      have hout:In gs₀.size=none:=by
        cases e:In gs₀.size with
        | none=>rfl
        | some c'=>exact absurd (C.bound _ _ e) (Nat.lt_irrefl _)
      have hdeaf:∀ j,Deaf (T++MemOp.ofEvents i a.frame.fn a.frame.place es ++ #[{ g:=i,fn:=a.frame.fn,pos:=a.frame.place,act:=.go gs₀.size },{ g:=gs₀.size,fn:=child.frame.fn,pos:=a.frame.place,act:=.start }]) j=Deaf (T++MemOp.ofEvents i a.frame.fn a.frame.place es) j:=fun j=>Deaf_quiet (hq j)
      have hsz':((gs₀.setIfInBounds i a').push child).size=gs₀.size+1:=by simp
      have hne:i≠gs₀.size:=Nat.ne_of_lt hlth
      refine ⟨1,(gs₀.setIfInBounds i a').push child,d',sl',T++MemOp.ofEvents i a.frame.fn a.frame.place es ++ #[{ g:=i,fn:=a.frame.fn,pos:=a.frame.place,act:=.go gs₀.size },{ g:=gs₀.size,fn:=child.frame.fn,pos:=a.frame.place,act:=.start }],upd q gs₀.size n,?_,by rw [hsz'],?_,?_⟩
      rotate_left 2
      · refine ⟨fun j y hj hy=>?_,fun j c' e=>?_,fun j c' x e hx=>?_,fun j c' e=>?_,fun j c' x e hx=>?_,fun j c' x e hx=>?_,hap,by rw [upd_ne In _ hne];exact C.none,?tr,(hdeaf i).trans C₁.hears,fun j c' e=>?_,fun j hj=>?_,fun j c' e=>?_⟩
        case tr=>
          refine Tr.weaken (C₁.tr.hire (Gone':=goneOf S') C₁.hears (C₁.new gs₀.size (Nat.le_refl _)) a.frame.fn child.frame.fn a.frame.place a.frame.place (mine:=c.loc) (nearby:=fun l=>∃ x,l=.cell x/\c.near x)
            (fun l ⟨x,hx,hst⟩=>⟨by rw [hx];rfl,fun ⟨y,hy,hgy⟩=>by rw [hx] at hy;cases hy;exact hap _ (hS.gone _ hgy) (hS' _ hst)⟩) (fun l ⟨x,hx,hst⟩=>⟨by rw [hx];rfl,fun g ⟨c',hc',y,hy,hsy⟩=>by rw [hx] at hy;cases hy;exact hap _ (hN' _ hst) (hS.keep _ (C.prot g c' _ hc' hsy))⟩)
            (fun l ⟨x,hx,hg⟩=>⟨x,hx,hS.gone _ hg⟩)) (fun g l hgl=>?_) (fun g l hgl=>?_) (fun g l hgl=>?_)
          · obtain ⟨c',hc',hl⟩:=hgl
            by_cases eg:g=gs₀.size
            · subst eg;rw [upd_same] at hc';cases hc';exact .inr ⟨rfl,hl⟩
            · rw [upd_ne In _ eg] at hc';exact .inl ⟨c',hc',hl⟩
          · rcases hgl with ⟨c',hc',hl⟩|⟨rfl,hl⟩
            · have eg:g≠gs₀.size:=fun e=>by rw [e,hout] at hc';cases hc'
              exact ⟨c',by rw [upd_ne In _ eg];exact hc',hl⟩
            · exact ⟨c,upd_same ..,hl⟩
          · obtain ⟨c',x,hc',hl,hn⟩:=hgl
            by_cases eg:g=gs₀.size
            · subst eg;rw [upd_same] at hc';cases hc';exact .inr ⟨rfl,x,hl,hn⟩
            · rw [upd_ne In _ eg] at hc';exact .inl ⟨c',x,hc',hl,hn⟩
        · rw [hdeaf]
          by_cases ej:j=gs₀.size
          · subst ej
            rw [Array.getElem?_push] at hy
            simp only [Array.size_setIfInBounds,if_true,Option.some.injEq] at hy
            subst hy
            rw [upd_same,upd_same]
            have:(gs₀.size == 0)=false:=beq_eq_false_iff_ne.2 (by omega)
            show Seated P (gs₀.size == 0) c.K c.loc c.B c.seat n child
            rw [this];exact hsits
          · rw [Array.getElem?_push] at hy
            simp only [Array.size_setIfInBounds,ej,if_false] at hy
            rw [Array.getElem?_setIfInBounds_ne (fun z=>hj z.symm)] at hy
            rw [upd_ne q _ ej,upd_ne In _ ej]
            exact C₁.waits j y hj hy
        · by_cases ej:j=gs₀.size
          · subst ej;rw [upd_same] at e;cases e;exact hwf
          · rw [upd_ne In _ ej] at e;exact C.wf j c' e
        · by_cases ej:j=gs₀.size
          · subst ej;rw [upd_same] at e;cases e;exact hch x hx
          · rw [upd_ne In _ ej] at e;exact C.chans j c' x e hx
        · by_cases ej:j=gs₀.size
          · subst ej;rw [upd_same] at e;cases e;exact hK.at d'
          · rw [upd_ne In _ ej] at e;exact (C₁.keep j c' e)
        · by_cases ej:j=gs₀.size
          · subst ej;rw [upd_same] at e;cases e;exact hS' x hx
          · rw [upd_ne In _ ej] at e;exact hS.keep x (C.prot j c' x e hx)
        · by_cases ej:j=gs₀.size
          · subst ej;rw [upd_same] at e;cases e;exact hN' x hx
          · rw [upd_ne In _ ej] at e;exact hS.gone x (C.nearGone j c' x e hx)
        · rw [hdeaf]
          by_cases ej:j=gs₀.size
          · subst ej;exact C₁.new _ (Nat.le_refl _)
          · rw [upd_ne In _ ej] at e;exact C₁.hear j c' e
        · rw [hdeaf];exact C₁.new j (by rw [hsz'] at hj;omega)
        · rw [hsz']
          by_cases ej:j=gs₀.size
          · omega
          · rw [upd_ne In _ ej] at e;have:=C.bound j c' e;omega
      · have hgo:=hpick
        rw [hat] at hgo
        rw [runNT_succ_next (hgo.trans hr)]
        simp only [runNT,Prod.mk.injEq,true_and]
        apply Array.ext'
        simp
      · rw [Array.getElem?_push]
        simp only [Array.size_setIfInBounds,hne,if_false]
        exact Array.getElem?_setIfInBounds_self_of_lt hlth
    · obtain ⟨gs₁,ops,q₁,d₃,hr,hsz₁,ha₁,C₁,hlt⟩:=Cd.by_step (sl:=sl') hi e hg ha₀ hrun
      obtain ⟨N,gs',d₂,sl₂,T',q',k1,k2,k3,k4⟩:=ihμ (sumTo gs₁.size q₁) (by rw [hsz₁];omega) (T++ops) gs₁ q₁ sl' d₃ rfl C₁ ha₁
      rw [hsz₁] at k2 k4
      refine ⟨N+1,gs',d₂,sl₂,T',q',?_,k2,k3,k4⟩
      have:stepT P (crowd gs₀ (w.at d) sl)=(.next (crowd gs₁ (w.at d₃) sl'),ops):=by rw [hpick,hat];exact hr
      rw [runNT_succ_next this];exact k1
end
end
section
section
variable {Still Near:Nat->Loc->Prop}{Gone:Loc->Prop}{t u:Trace}{h g:Nat}{a:Addr}{p:Nat}
theorem Tr.aside (H:Tr Still Near Gone (Knows t h) t)(hu:∀ op ∈ u,op.g=g)(hb:∀ op ∈ u,∀ b,op.act.touch? = some b->Gone b.loc/\b.kind=.atomic/\Near g b.loc)
    (hh:∀ (i:Nat) (op:MemOp),(t++u)[i]? = some op->t.size<=i->op.act.touch? ≠ none->¬ (t++u).heard i) (hG:∀ g l,Gone l->¬ Still g l):Tr Still Near Gone (Knows (t++u) h) (t++u):=by
  refine ⟨fun said=>noRace_append (H.clean said) hu fun i a ha op hop b hb' hc=>?_,fun i a ha hm=>?_,fun i a ha g' hS=>?_⟩
  · obtain ⟨_,h2,h3⟩:=hb op hop b hb'
    have hp:a.kind=.plain:=by
      rcases hc.2.2.2 with x|x|⟨_,_,x⟩
      · exact x
      · rw [h2] at x;cases x
      · rw [h2] at x;cases x
    exact H.wrote i a ha g (.inr ⟨hp,by rw [hc.1];exact h3⟩)
  · obtain ⟨x,hx,hxa⟩:=touch_of ha
    rcases getElem?_append_cases hx with ⟨_,hx'⟩|⟨hge,hxu⟩
    · exact H.old (fun i=>Knows.app u) hx' hxa hm
    · exact .inr (.inr ⟨(hb x hxu a hxa).1,(hb x hxu a hxa).2.1,hh i x hx hge (by rw [hxa];simp)⟩)
  · obtain ⟨x,hx,hxa⟩:=touch_of ha
    rcases getElem?_append_cases hx with ⟨_,hx'⟩|⟨_,hxu⟩
    · exact (H.wrote i a (touch_old hx' hxa) g' hS).app u
    · rcases hS with ⟨_,hS⟩|⟨hk,_⟩
      · exact absurd hS (hG g' _ (hb x hxu a hxa).1)
      · rw [(hb x hxu a hxa).2.1] at hk;cases hk
theorem Tr.mine (H:Tr Still Near Gone (Knows t h) t)(hu:∀ op ∈ u,op.g=h)(hb:∀ op ∈ u,∀ b,op.act.touch? = some b->Gone b.loc/\b.kind≠.plain)(hG:∀ g l,Gone l->¬ Still g l):Tr Still Near Gone (Knows (t++u) h) (t++u):=by
  refine ⟨fun said=>noRace_append (H.clean said) hu fun i a ha op hop b hb' hc=>?_,fun i a ha hm=>?_,fun i a ha g' hS=>?_⟩
  · obtain ⟨h1,h2⟩:=hb op hop b hb'
    rcases H.known i a ha hc.2.1 with hk|⟨_,g,hS,_⟩|⟨_,hk,_⟩
    · exact hk
    · exact absurd hS (hG g _ (by rw [hc.1];exact h1))
    · rcases hc.2.2.2 with x|x|⟨_,x,_⟩
      · rw [hk] at x;cases x
      · exact absurd x h2
      · rw [hk] at x;cases x
  · obtain ⟨x,hx,hxa⟩:=touch_of ha
    rcases getElem?_append_cases hx with ⟨_,hx'⟩|⟨_,hxu⟩
    · exact H.old (fun i=>Knows.app u) hx' hxa hm
    · have:=knows_own hx
      rw [hu x hxu] at this
      exact .inl this
  · obtain ⟨x,hx,hxa⟩:=touch_of ha
    rcases getElem?_append_cases hx with ⟨_,hx'⟩|⟨_,hxu⟩
    · exact (H.wrote i a (touch_old hx' hxa) g' hS).app u
    · rcases hS with ⟨_,hS⟩|⟨hk,_⟩
      · exact absurd hS (hG g' _ (hb x hxu a hxa).1)
      · exact absurd hk (hb x hxu a hxa).2
structure Told (Gone:Loc->Prop) (a:Addr) (t:Trace) (g p:Nat):Prop where
  act:t.act? p=some (.mark (.releaseMerge a))
  who:t.g? p=some g
  heard:t.heard p
  after:∀ i x,touchAt t i=some x->t.g? i=some g->p<i->Gone x.loc/\x.kind=.atomic/\¬ t.heard i
  norel:∀ k,p<k->t.act? k≠some (.mark (.release a))
theorem Told.app (H:Told Gone a t g p)(hb:∀ (i:Nat) (op:MemOp),(t++u)[i]? = some op->t.size<=i->op.g=g->∀ x,op.act.touch? = some x->Gone x.loc/\x.kind=.atomic/\¬ (t++u).heard i)
    (hn:∀ op ∈ u,op.act≠.mark (.release a)):Told Gone a (t++u) g p:=by
  have hp:p<t.size:=lt_of_act? H.act
  refine ⟨by rw [act?_old hp];exact H.act,by rw [g?_old hp];exact H.who,(heard_old hp).2 H.heard,fun i x hx hg hi=>?_,fun k hk e=>?_⟩
  · obtain ⟨op,ho,hox⟩:=touch_of hx
    rcases getElem?_append_cases ho with ⟨hlt,ho'⟩|⟨hge,_⟩
    · have:=H.after i x (touch_old ho' hox) (by rw [← g?_old (u:=u) hlt];exact hg) hi
      exact ⟨this.1,this.2.1,fun hh=>this.2.2 ((heard_old hlt).1 hh)⟩
    · rw [g?_of ho] at hg
      exact hb i op ho hge (Option.some.inj hg) x hox
  · obtain ⟨op,ho,hoa⟩:=Option.map_eq_some_iff.1 e
    rcases getElem?_append_cases ho with ⟨_,ho'⟩|⟨_,hou⟩
    · exact H.norel k hk (by rw [act?_of ho',hoa])
    · exact hn op hou hoa
theorem Told.new (hd:Deaf t g=0)(fn:FuncId)(pos:String):Told Gone a (t++MemOp.ofEvents g fn pos #[⟨.mark (.releaseMerge a),false,true⟩]) g t.size:=by
  have e1:MemOp.ofEvents g fn pos #[⟨.mark (.releaseMerge a),false,true⟩] = #[{ g,fn,pos,act:=.mark (.releaseMerge a) }]:=by rw [ofEvents_eq];simp [MemAct.ofEvent]
  have hy:(t ++ #[({ g,fn,pos,act:=.mark (.releaseMerge a) }:MemOp)])[t.size]? = some { g,fn,pos,act:=.mark (.releaseMerge a) }:=by simp
  have late:∀ i op,(t ++ #[({ g,fn,pos,act:=.mark (.releaseMerge a) }:MemOp)])[i]? = some op->¬ t.size<i:=fun i op ho=>by
    have:=lt_size_of_getElem? ho
    simp at this
    omega
  rw [e1]
  refine ⟨by rw [act?_of hy],by rw [g?_of hy],⟨g,by rw [g?_of hy],by rw [deaf_old (Nat.le_refl _)];exact hd⟩,fun i x hx _ hi=>?_,fun k hk e=>?_⟩
  · obtain ⟨op,ho,_⟩:=touch_of hx
    exact absurd hi (late i op ho)
  · obtain ⟨op,ho,_⟩:=Option.map_eq_some_iff.1 e
    exact absurd hk (late k op ho)
theorem Told.hear (H:Told Gone a t g p)(hd:Deaf t h=0)(fn:FuncId)(pos:String):Knows (t++MemOp.ofEvents h fn pos #[⟨.mark (.acquire a),false,true⟩]) h p:=by
  have e1:MemOp.ofEvents h fn pos #[⟨.mark (.acquire a),false,true⟩] = #[{ g:=h,fn,pos,act:=.mark (.acquire a) }]:=by rw [ofEvents_eq];simp [MemAct.ofEvent]
  have hy:(t ++ #[({ g:=h,fn,pos,act:=.mark (.acquire a) }:MemOp)])[t.size]? = some { g:=h,fn,pos,act:=.mark (.acquire a) }:=by simp
  have hp:p<t.size:=lt_of_act? H.act
  rw [e1]
  refine ⟨t.size,_,hy,rfl,.inr (.single (.inr ⟨.marked hp (.inr (by rw [act?_old hp];exact H.act)) (act?_of hy) fun k hk hk'=>?_,(heard_old hp).2 H.heard,⟨h,by rw [g?_of hy],by rw [deaf_old (Nat.le_refl _)];exact hd⟩⟩))⟩
  rw [act?_old hk']
  exact H.norel k hk
theorem Tr.joined {Q:Nat->Prop}(H:Tr Still Near Gone (Knows t h) t)(hQ:∀ g,Q g->∃ p,Told Gone a t g p/\Knows t h p):Tr (fun g l=>¬ Q g/\Still g l) (fun g l=>¬ Q g/\Near g l) Gone (Knows t h) t:=by
  refine ⟨H.clean,fun i x hx hm=>?_,fun i x hx g hS=>H.wrote i x hx g (hS.imp (fun y=>⟨y.1,y.2.2⟩) (fun y=>⟨y.1,y.2.2⟩))⟩
  rcases H.known i x hx hm with k|⟨k,g,k1,k2⟩|k
  · exact .inl k
  · by_cases hq:Q g
    · obtain ⟨p,hT,hk⟩:=hQ g hq
      by_cases hi:p<i
      · exact .inr (.inr (hT.after i x hx k2 hi))
      · refine .inl (Knows.of_before ?_ hk)
        by_cases e:i=p
        · exact .inl e
        · exact .inr (.single (.inl ⟨by omega,g,k2,hT.who⟩))
    · exact .inr (.inl ⟨k,g,⟨hq,k1⟩,k2⟩)
  · exact .inr (.inr k)
end
end
section
theorem WayD.pad {P:Program}{main:Bool}{K:World->Prop}{E:Event->Prop}{Stop:Nat->Goroutine->Prop}{k:Nat}:∀ {n d:Nat} {g:Goroutine},WayD P main K E Stop n d g->WayD P main K E Stop (n+k) d g
  | 0,_,_,h=>WayD.stop h
  | n+1,d,g,h=>by
    rw [show n+1+k=(n+k)+1 by omega]
    rcases h with h|⟨hs,h⟩
    · exact .inl h
    · exact .inr ⟨hs,fun w hw=>by obtain ⟨g',x,es,h1,h2,h3⟩:=h w hw;exact ⟨g',x,es,h1,h2,WayD.pad h3⟩⟩
def E0 (own:Addr->Prop) (e:Event):Prop:=e.mute=true∨∃ a,own a/\e=⟨.cell a,false,false⟩
theorem WayD.events {P:Program}{main:Bool}{K:World->Prop}{E E':Event->Prop}{Stop:Nat->Goroutine->Prop}(hE:∀ e,E e->E' e):∀ {n d:Nat} {g:Goroutine},WayD P main K E Stop n d g->WayD P main K E' Stop n d g
  | 0,_,_,h=>h
  | n+1,d,g,h=>h.imp id fun ⟨hs,h⟩=>⟨hs,fun w hw=>by obtain ⟨g',x,es,h1,h2,h3⟩:=h w hw;exact ⟨g',x,es,h1,fun e he=>hE e (h2 e he),WayD.events hE h3⟩⟩
section
variable (P:Program)(K:World->Prop)(st sm:Addr)
def Rest (r:Int):Prop:=r=0∨r=4294967296∨r=8589934592∨r=12884901888∨r=4294967297∨r=8589934593∨r=12884901889
def CountOf (n:Int):Prop:=n=4294967296∨n=8589934592∨n=12884901888∨n=17179869184
def SRel (d:Nat) (g:Goroutine):Prop:=
  d=1/\g.status=.running/\mayWake P g=true/\∀ n w,w.cell? sm=some (.int .u32 n)->w.frozen? sm=false->∃ g',stepG P false g w=.go g' (w.setCell sm (.int .u32 (IntKind.u32.wrap (n+1)))) (semEvents sm)/\QuitsD P 24 1 g'
def SStore (d:Nat) (g:Goroutine):Prop:=
  d=1/\g.status=.running/\∀ u w,w.cell? st=some u->w.frozen? st=false->∃ g',stepG P false g w=.go g' (w.setCell st (.int .u64 0)) #[⟨.cell st,true,true⟩]/\WayD P false K (fun e=>e.mute=true) (SRel P sm) 27 1 g'
def SLoad (d:Nat) (g:Goroutine):Prop:=
  d=1/\g.status=.running/\∀ w,w.cell? st=some (.int .u64 1)->∃ g',stepG P false g w=.go g' w #[⟨.cell st,false,true⟩]/\WayD P false K (fun e=>e.mute=true) (SStore P K st sm) 20 1 g'
def SAdd (d:Nat) (g:Goroutine):Prop:=
  d=1/\g.status=.running/\∀ n w,w.cell? st=some (.int .u64 n)->w.frozen? st=false->∃ g',stepG P false g w=.go g' (w.setCell st (.int .u64 (IntKind.u64.wrap (n+18446744069414584320)))) #[⟨.cell st,false,true⟩,⟨.cell st,true,true⟩] /\
    (IntKind.u64.wrap (n+18446744069414584320)=1->WayD P false K (fun e=>e.mute=true) (SLoad P K st sm) 103 1 g')/\(Rest (IntKind.u64.wrap (n+18446744069414584320))->QuitsD P 94 1 g')
def STell (d:Nat) (g:Goroutine):Prop:=
  d=0/\g.status=.running/\∀ w,∃ g',stepG P false g w=.go g' w #[⟨.mark (.releaseMerge st),false,true⟩]/\WayD P false K (fun e=>e.mute=true) (SAdd P K st sm) 38 0 g'
variable (b:Frame)(cs:List Frame)
def MBack (d:Nat) (g:Goroutine):Prop:=d=0/\g.status=.running/\∀ w,stepG P true g w=.go (G (b.finish (.tuple #[])) cs) w #[]
def MAcq (d:Nat) (g:Goroutine):Prop:=
  d=0/\g.status=.running/\∀ w,∃ g',stepG P true g w=.go g' w #[⟨.mark (.acquire st),false,true⟩]/\WayD P true K (fun e=>e.mute=true) (MBack P b cs) 19 0 g'
def MLast (d:Nat) (g:Goroutine):Prop:=
  d=1/\g.status=.running/\∀ w,w.cell? st=some (.int .u64 0)->∃ g',stepG P true g w=.go g' w #[⟨.cell st,false,true⟩]/\WayD P true K (fun e=>e.mute=true) (MAcq P K st b cs) 16 1 g'
def MSem (d:Nat) (g:Goroutine):Prop:=
  d=1/\g.status=.running/\g.offers=none/\(∀ w,w.cell? sm=some (.int .u32 0)->stepG P true g w=.go { g with status:=.blocked } w #[]) /\
    ∀ w,w.cell? sm=some (.int .u32 1)->w.frozen? sm=false->∃ g',stepG P true g w=.go g' (w.setCell sm (.int .u32 0)) (semEvents sm)/\WayD P true K (fun e=>e.mute=true) (MLast P K st b cs) 16 1 g'
def MSay (d:Nat) (g:Goroutine):Prop:=
  d=1/\g.status=.running/\∀ w,∃ g',stepG P true g w=.go g' w #[⟨.mark (.write sm),false,true⟩]/\WayD P true K (fun e=>e.mute=true) (MSem P K st sm b cs) 23 1 g'
def MCas (Head:Goroutine->Prop) (n:Int) (d:Nat) (g:Goroutine):Prop:=
  d=1/\g.status=.running /\
    (∀ w,w.cell? st=some (.int .u64 n)->w.frozen? st=false->∃ g',stepG P true g w=.go g' (w.setCell st (.int .u64 (n+1))) #[⟨.cell st,false,true⟩,⟨.cell st,true,true⟩]/\WayD P true K (fun e=>e.mute=true) (MSay P K st sm b cs) 20 1 g') /\
    ∀ v w,w.cell? st=some (.int .u64 v)->w.frozen? st=false->¬ v=n->∃ g',stepG P true g w=.go g' w #[⟨.cell st,false,true⟩]/\WayD P true K (fun e=>e.mute=true) (fun d g=>d=1/\Head g) 9 1 g'
def MLoad (Head:Goroutine->Prop) (d:Nat) (g:Goroutine):Prop:=
  d=1/\g.status=.running/\∀ n w,w.cell? st=some (.int .u64 n)->∃ g',stepG P true g w=.go g' w #[⟨.cell st,false,true⟩]/\(n=0->WayD P true K (fun e=>e.mute=true) (MAcq P K st b cs) 36 1 g') /\
    (CountOf n->WayD P true K (fun e=>e.mute=true) (MCas P K st sm b cs Head n) 48 1 g')
structure MLoop (Head:Goroutine->Prop):Prop where
  head:∀ g,Head g->WayD P true K (fun e=>e.mute=true) (MLoad P K st sm b cs Head) 16 1 g
end
end
end Go.Tame
