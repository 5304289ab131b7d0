/- Several texts in one: TameStep, TameReach, TameHouse, TameSeg, TameFree, TameShard. -/
import Derived.Test.YtblcigmggdiccaaGreatDoorPart01
import Derived.Conc.Listed
import Derived.Conc.LoneCalls
import Derived.Conc.Token
import Derived.Conc.QuitsD
import Derived.DuoClaim
import Derived.Conc.AtomicLaws2
import Derived.Conc.MarkLaws
import Derived.KernelRfl
import Derived.Test.YtblcigmggdiccaaGreatDoorChecked
import Derived.Conc.TokenWalk
set_option linter.unusedSectionVars false
set_option linter.unusedSimpArgs false
set_option linter.unusedVariables false
namespace Go.Tame
open Go.Conc (G)
section
def okCode (P:Program):Code->Bool
  | .skip | .ret | .exit _=>true
  | .region _ ops _=>ops.all fun o=>okOp P o.op
  | .seq a b | .cond _ a b=>okCode P a && okCode P b
  | .block _ c | .loop c=>okCode P c
  | _=>false
def okItem (P:Program):Item->Bool
  | .code c | .inLoop c=>okCode P c
  | .inBlock _=>true
  | .inRegion ops _=>ops.all fun o=>okOp P o.op
  | _=>false
structure FrameOk (P:Program) (F:Array Func) (fr:Frame):Prop where
  items:∀ it ∈ fr.todo,okItem P it=true
  defers:∀ d ∈ fr.defers,okTarget d.target=true
  round:fr.roundOf=none
  kind:fr.kind=.normal∨fr.kind=.deferred
  fn:∃ fn,F[fr.fn]? = some fn/\P.funcs[fr.fn]? = some fn
def Codes (P:Program) (F:Array Func) (Sp:FuncId->Prop):Prop:=∀ (f:FuncId) (fn:Func) (c:Code),¬ Sp f->F[f]? = some fn->fn.body=some c->P.funcs[f]? = some fn/\okCode P c=true
def sent (F:Array Func):Frame:={ fn:=F.size,tmps:=#[],todo:=[.code (.refuse "no way back")],defers:=[{ target:=.builtin .make #[] 0 #[],args:=#[] }],mode:=.run,kind:=.normal }
def Over (F:Array Func) (s:GStep):Prop:=(∃ o w,s.bare=.ended o w)∨∃ fr w es,s=.go (G fr []) w es/\((∃ x,fr=(sent F).finish x)∨(∃ ch,fr=(sent F).raise ch)∨fr=sent F)
def backIn (caller:Frame):Frame:=
  match caller.mode with
  | .panicking ({ recovered:=true,.. } :: older)=>
    match older.dropWhile (!·.goexit) with
    | []=>{ caller with mode:=.returning }
    | rest=>{ caller with mode:=.panicking rest }
  | _=>caller
def ret (kind:CallKind) (a:Frame) (y:Value):Frame:=if kind=.normal then a.finish y else backIn a
def Out (fr:Frame) (out:Frame->Frame):Prop:=(fr.mode=.returning/\∃ y,out=fun a=>ret fr.kind a y)∨∃ ch,out=fun a=>a.raise ch
def Follow (S:Prot) (P:Program) (F:Array Func) (Sp:FuncId->Prop) (fr:Frame) (A:List Frame) (w v:World):Prop:=
  ∃ t,Agree t v.tape v.drawn /\
   ((∃ fr' A' v',v.drawn<=v'.drawn/\(∀ t',Agree t' t v'.drawn->∀ cs₀,∃ es,stepG (withFuncs P F) true (G fr (A++cs₀)) (retape v t')=.go (G fr' (A'++cs₀)) (retape v' t') es)/\FrameOk P F fr'/\(∀ a ∈ A',FrameOk P F a) /\
      ∀ main cs,∃ w' es,stepG P main (G fr (A++cs)) w=.go (G fr' (A'++cs)) w' es/\Like S w' v'/\Kept S w w'/\∀ e ∈ es,EvGood S e) ∨
    (∃ n,v.drawn<=n/\∀ t',Agree t' t n->∀ cs₀,∃ o x,(stepG (withFuncs P F) true (G fr (A++cs₀)) (retape v t')).bare=.ended o x) ∨
    (∃ cases v',v.drawn<=v'.drawn/\(cases.size == 1 && cases.all (·.send.isNone))=true/\(∀ t',Agree t' t v'.drawn->∀ cs₀,∃ es,stepG (withFuncs P F) true (G fr (A++cs₀)) (retape v t')=.comm (G fr (A++cs₀)) cases false .select (retape v' t') es) /\
      ∀ main cs,∃ w' es,stepG P main (G fr (A++cs)) w=.comm (G fr (A++cs)) cases false .select w' es/\Like S w' v'/\Kept S w w'/\∀ e ∈ es,EvGood S e) ∨
    (∃ f args kind a v',Sp f/\(kind=.normal∨kind=.deferred)/\FrameOk P F a/\v.drawn<=v'.drawn /\
      (∀ t',Agree t' t v'.drawn->∀ cs₀,∃ es,stepG (withFuncs P F) true (G fr (A++cs₀)) (retape v t')=.go (G (Frame.enter (withFuncs P F) f args kind) (a :: (A++cs₀))) (retape v' t') es) /\
      ∀ main cs,∃ w' es,stepG P main (G fr (A++cs)) w=.go (G (Frame.enter P f args kind) (a :: (A++cs))) w' es/\Like S w' v'/\Kept S w w'/\∀ e ∈ es,EvGood S e) ∨
    (A = []/\∃ out v',Out fr out/\v.drawn<=v'.drawn/\(∀ t',Agree t' t v'.drawn->∀ b cs₀,∃ es,stepG (withFuncs P F) true (G fr (b :: cs₀)) (retape v t')=.go (G (out b) cs₀) (retape v' t') es) /\
      ∀ main b cs,∃ w' es,stepG P main (G fr (b :: cs)) w=.go (G (out b) cs) w' es/\Like S w' v'/\Kept S w w'/\∀ e ∈ es,EvGood S e))
section
variable {S:Prot}{P:Program}{F:Array Func}{Sp:FuncId->Prop}{fr:Frame}{A:List Frame}{w v:World}
theorem items2 {a b:Item}{k:List Item}(ha:okItem P a=true)(hb:okItem P b=true)(hk:∀ it ∈ k,okItem P it=true):∀ it ∈ a :: b :: k,okItem P it=true:=by
  intro y hy
  simp only [List.mem_cons] at hy
  rcases hy with rfl|rfl|hy
  · exact ha
  · exact hb
  · exact hk y hy
theorem items1 {a:Item}{k:List Item}(ha:okItem P a=true)(hk:∀ it ∈ k,okItem P it=true):∀ it ∈ a :: k,okItem P it=true:=by
  intro y hy
  simp only [List.mem_cons] at hy
  rcases hy with rfl|hy
  · exact ha
  · exact hk y hy
theorem follow_quiet {fr':Frame}(h:Like S w v)(hs:∀ (Q:Program) (main:Bool) (cs:List Frame) (x:World),stepG Q main (G fr cs) x=.go (G fr' cs) x #[])(hok:FrameOk P F fr')(hA:∀ a ∈ A,FrameOk P F a):Follow S P F Sp fr A w v:=
  ⟨v.tape,Agree.refl _ _,.inl ⟨fr',A,v,Nat.le_refl _,fun _ _ _=>⟨#[],hs _ _ _ _⟩,hok,hA,fun main cs=>⟨w,#[],hs _ _ _ _,h,Kept.refl _ _,by simp⟩⟩⟩
theorem follow_ended (hs:∀ (main:Bool) (cs:List Frame) (x:World),∃ o w',(stepG (withFuncs P F) main (G fr cs) x).bare=.ended o w'):Follow S P F Sp fr A w v:=
  ⟨v.tape,Agree.refl _ _,.inr (.inl ⟨v.drawn,Nat.le_refl _,fun _ _ _=>hs _ _ _⟩)⟩
theorem exitTo_sub {id:Nat}:∀ {k k':List Item},exitTo id k=some k'->∀ it ∈ k',it ∈ k
  | [],_,h=>by simp [exitTo] at h
  | x :: k,k',h=>by
    intro it hit
    cases x <;> simp only [exitTo] at h
    case inBlock id'=>
      split at h
      · cases h;exact List.mem_cons_of_mem _ hit
      · exact List.mem_cons_of_mem _ (exitTo_sub h it hit)
    all_goals exact List.mem_cons_of_mem _ (exitTo_sub h it hit)
section apply
variable {Q:Program}{s:Sem Next}{x x':World}{cs:List Frame}
theorem apply_ok {n:Next}(hk:fr.kind≠.early)(hr:s.run Q x=.ok n x'):∃ es,(∀ e ∈ es,e ∈ s.events Q x #[]) /\
    (∀ y,n=.value y->stepG.apply Q true fr cs none s x=.go (G (fr.finish y) cs) x' es) /\
    (n=.skip->stepG.apply Q true fr cs none s x=.go (G (fr.finish undef) cs) x' es) /\
    (∀ f args,n=.enter f args->(∀ d a b c k,fr.todo≠.call d a b c :: k)->stepG.apply Q true fr cs none s x=.go (G (Frame.enter Q f args .normal) (fr :: cs)) x' es) /\
    (∀ d,n=.defer d->stepG.apply Q true fr cs none s x=.go (G (({ fr with defers:=d :: fr.defers }:Frame).finish undef) cs) x' es) /\
    (∀ c sh,n=.comm c false sh->stepG.apply Q true fr cs none s x=.comm (G fr cs) c false sh x' es):=by
  have hk':(fr.kind == CallKind.early)=false:=by simpa using hk
  refine ⟨seen Q fr.fn (s.events Q x #[]),fun e he=>Go.Conc.mem_seen he,?_,?_,?_,?_,?_⟩
  · rintro y rfl;simp [stepG.apply,hr,G,hk',GStep.after]
  · rintro rfl;simp [stepG.apply,hr,G,hk',GStep.after]
  · rintro f args rfl ht
    simp [stepG.apply,hr,G,hk',GStep.after]
    split
    · rename_i h;exact absurd h (ht _ _ _ _ _)
    · rfl
  · rintro d rfl;simp [stepG.apply,hr,G,hk',GStep.after]
  · rintro c sh rfl;simp [stepG.apply,hr,G,hk',GStep.after]
theorem apply_panic {y:Value}(hk:fr.kind≠.early)(hr:s.run Q x=.halt (.panic y) x'):∃ es,(∀ e ∈ es,e ∈ s.events Q x #[])/\stepG.apply Q true fr cs none s x=.go (G (fr.raise [{ v:=y,recovered:=false }]) cs) x' es:=by
  have hk':(fr.kind == CallKind.early)=false:=by simpa using hk
  exact ⟨seen Q fr.fn (s.events Q x #[]),fun e he=>Go.Conc.mem_seen he,by simp [stepG.apply,hr,G,hk',GStep.after]⟩
theorem apply_dead {y:Halt}(hd:Dead y)(hr:s.run Q x=.halt y x'):∃ o w',(stepG.apply Q true fr cs none s x).bare=.ended o w':=by
  cases y with
  | stuck m=>simp [stepG.apply,hr]
  | unsupported u=>cases u <;> first|exact hd.elim|simp [stepG.apply,hr]
  | _=>exact hd.elim
end apply
theorem FrameOk.finish (h:FrameOk P F fr)(y:Value):FrameOk P F (fr.finish y):=by
  obtain ⟨fn,tmps,todo,defers,mode,kind,roundOf⟩:=fr
  obtain ⟨hi,hd,hr,hk,hfn⟩:=h
  dsimp only at hi hd hr hk hfn
  cases todo with
  | nil=>exact ⟨hi,hd,hr,hk,hfn⟩
  | cons it k=>
    have hit:okItem P it=true:=hi it (List.mem_cons_self ..)
    have hik:∀ it ∈ k,okItem P it=true:=fun x hx=>hi x (List.mem_cons_of_mem _ hx)
    cases it with
    | inRegion ops todo=>
      cases todo with
      | nil=>exact ⟨hi,hd,hr,hk,hfn⟩
      | cons i rest=>exact ⟨items1 hit hik,hd,hr,hk,hfn⟩
    | code|inBlock|inLoop=>exact ⟨hi,hd,hr,hk,hfn⟩
    | inScope|inRangeFunc|endRangeFunc|beginRound|call|extern=>cases hit
theorem FrameOk.raise (h:FrameOk P F fr)(l:List PanicEntry):FrameOk P F (fr.raise l):=by
  obtain ⟨hi,hd,hr,hk,hfn⟩:=h
  unfold Frame.raise
  split <;> exact ⟨hi,hd,hr,hk,hfn⟩
theorem FrameOk.early (h:FrameOk P F fr):fr.kind≠.early:=by rcases h.kind with e|e <;> rw [e] <;> simp
theorem FrameOk.noCall (h:FrameOk P F fr):∀ d a b c k,fr.todo≠.call d a b c :: k:=fun d a b c k e=>by
  have:=h.items (.call d a b c) (by rw [e];exact List.mem_cons_self ..)
  cases this
theorem FrameOk.enter (hC:Codes P F Sp){f:FuncId}(args:Array Value){kind:CallKind}(hsp:¬ Sp f)(hk:kind=.normal∨kind=.deferred)(hf:(F[f]?).any (fun fn=>!fn.body.isNone)=true) :
    FrameOk P F (Frame.enter P f args kind)/\Frame.enter (withFuncs P F) f args kind=Frame.enter P f args kind:=by
  cases hF:F[f]? with
  | none=>rw [hF] at hf;cases hf
  | some fn=>
    rw [hF] at hf
    cases hb:fn.body with
    | none=>simp [hb] at hf
    | some c=>
      obtain ⟨hp,hc⟩:=hC f fn c hsp hF hb
      have hw:(withFuncs P F).funcs[f]? = some fn:=hF
      refine ⟨⟨?_,by simp [Frame.enter],rfl,hk,fn,hF,hp⟩,by simp [Frame.enter,hw,hp]⟩
      intro it hit
      simp only [Frame.enter,hp,Option.bind_some,hb,Option.getD_some,List.mem_cons,List.not_mem_nil,or_false] at hit
      subst hit
      exact hc
theorem follow_oper (hF:Funcs S P F)(hC:Codes P F Sp)(hfr:FrameOk P F fr)(hA:∀ a ∈ A,FrameOk P F a)(h:Like S w v){o:Oper}(hok:okOp P o.op=true)
    (hs:∀ (Q:Program) (main:Bool) (cs:List Frame) (x:World),stepG Q main (G fr cs) x=stepG.apply Q true fr cs none (execOp fr.eval o) x):Follow S P F Sp fr A w v:=by
  obtain ⟨t,r,h1,h2,h3,h4⟩:=t_execOp (L:=[]) hF fr.eval o hok w v h (by simp)
  have hk:=hfr.early
  match r,h2,h3,h4 with
  | .ok n v',h2,h3,⟨w',hw,hl,hkp,hev⟩=>
    have hn:=next_execOp hF fr.eval hok (h.retape t).noLoop (h3 t (Agree.refl _ _))
    have goOn:∀ (fr':Frame) (B:List Frame),FrameOk P F fr'->(∀ a ∈ B,FrameOk P F a) ->
        (∀ (Q:Program) (x x':World) (cs:List Frame),(Q=P∨Q=withFuncs P F)->(execOp fr.eval o).run Q x=.ok n x'->∃ es,(∀ e ∈ es,e ∈ (execOp fr.eval o).events Q x #[])/\stepG.apply Q true fr (A++cs) none (execOp fr.eval o) x=.go (G fr' (B++cs)) x' es)->Follow S P F Sp fr A w v:=
      fun fr' B hfr' hB hstep=>⟨t,h1,.inl ⟨fr',B,v',h2,fun t' ht' cs₀=>by
          obtain ⟨es,_,he⟩:=hstep (withFuncs P F) (retape v t') (retape v' t') cs₀ (.inr rfl) (h3 t' ht')
          exact ⟨es,by rw [hs];exact he⟩,hfr',hB,fun main cs=>by
          obtain ⟨es,hes,he⟩:=hstep P w w' cs (.inl rfl) hw
          exact ⟨w',es,by rw [hs];exact he,hl,hkp,fun e hee=>hev e (hes e hee)⟩⟩⟩
    cases n with
    | value y=>
      exact goOn _ A (hfr.finish y) hA fun Q x x' cs _ hr=>by
        obtain ⟨es,h1,h2,_⟩:=apply_ok (cs:=A++cs) hk hr
        exact ⟨es,h1,h2 y rfl⟩
    | skip=>
      exact goOn _ A (hfr.finish undef) hA fun Q x x' cs _ hr=>by
        obtain ⟨es,h1,_,h2,_⟩:=apply_ok (cs:=A++cs) hk hr
        exact ⟨es,h1,h2 rfl⟩
    | enter f args=>
      by_cases hsp:Sp f
      · refine ⟨t,h1,.inr (.inr (.inr (.inl ⟨f,args,.normal,fr,v',hsp,.inl rfl,hfr,h2,fun t' ht' cs₀=>?_,fun main cs=>?_⟩)))⟩
        · obtain ⟨es,_,_,_,he,_⟩:=apply_ok (cs:=A++cs₀) hk (h3 t' ht')
          exact ⟨es,by rw [hs];exact he f args rfl hfr.noCall⟩
        · obtain ⟨es,hes,_,_,he,_⟩:=apply_ok (cs:=A++cs) hk hw
          exact ⟨w',es,by rw [hs];exact he f args rfl hfr.noCall,hl,hkp,fun e hee=>hev e (hes e hee)⟩
      obtain ⟨g1,g2⟩:=FrameOk.enter hC args hsp (.inl rfl) hn
      refine goOn (Frame.enter P f args .normal) (fr :: A) g1 (by intro a ha;simp only [List.mem_cons] at ha;rcases ha with rfl|ha;exact hfr;exact hA a ha) fun Q x x' cs hQ hr=>?_
      obtain ⟨es,h1,_,_,h2,_⟩:=apply_ok (cs:=A++cs) hk hr
      refine ⟨es,h1,?_⟩
      rw [h2 f args rfl hfr.noCall]
      rcases hQ with rfl|rfl
      · rfl
      · rw [g2];rfl
    | defer d=>
      have hd':FrameOk P F { fr with defers:=d :: fr.defers }:=⟨hfr.items,by intro a ha;simp only [List.mem_cons] at ha;rcases ha with rfl|ha;exact hn;exact hfr.defers a ha,hfr.round,hfr.kind,hfr.fn⟩
      exact goOn _ A (hd'.finish undef) hA fun Q x x' cs _ hr=>by
        obtain ⟨es,h1,_,_,_,h2,_⟩:=apply_ok (cs:=A++cs) hk hr
        exact ⟨es,h1,h2 d rfl⟩
    | comm c b sh=>
      cases b with
      | true=>cases hn
      | false=>
        cases sh <;> first|(cases hn;done)|skip
        refine ⟨t,h1,.inr (.inr (.inl ⟨c,v',h2,hn,fun t' ht' cs₀=>?_,fun main cs=>?_⟩))⟩
        · obtain ⟨es,_,_,_,_,_,he⟩:=apply_ok (cs:=A++cs₀) hk (h3 t' ht')
          exact ⟨es,by rw [hs];exact he c _ rfl⟩
        · obtain ⟨es,hes,_,_,_,_,he⟩:=apply_ok (cs:=A++cs) hk hw
          exact ⟨w',es,by rw [hs];exact he c _ rfl,hl,hkp,fun e hee=>hev e (hes e hee)⟩
    | _=>cases hn
  | .halt (.panic y) v',h2,h3,⟨w',hw,hl,hkp,hev⟩=>
    refine ⟨t,h1,.inl ⟨_,A,v',h2,fun t' ht' cs₀=>?_,hfr.raise [{ v:=y,recovered:=false }],hA,fun main cs=>?_⟩⟩
    · obtain ⟨es,_,he⟩:=apply_panic (cs:=A++cs₀) hk (h3 t' ht')
      exact ⟨es,by rw [hs];exact he⟩
    · obtain ⟨es,hes,he⟩:=apply_panic (cs:=A++cs) hk hw
      exact ⟨w',es,by rw [hs];exact he,hl,hkp,fun e hee=>hev e (hes e hee)⟩
  | .halt (.stuck m) v',h2,h3,h4=>exact ⟨t,h1,.inr (.inl ⟨_,h2,fun t' ht' cs₀=>(by rw [hs];exact apply_dead (y:=.stuck m) trivial (h3 t' ht'))⟩)⟩
  | .halt (.unsupported u) v',h2,h3,h4=>exact ⟨t,h1,.inr (.inl ⟨_,h2,fun t' ht' cs₀=>(by rw [hs];exact apply_dead h4 (h3 t' ht'))⟩)⟩
  | .halt .blocked _,_,_,d | .halt .waiting _,_,_,d | .halt .goexit _,_,_,d | .halt (.exit _) _,_,_,d | .halt (.fatal _) _,_,_,d | .halt (.throw _) _,_,_,d=>exact d.elim
theorem follow_run (hF:Funcs S P F)(hC:Codes P F Sp)(hfr:FrameOk P F fr)(hA:∀ a ∈ A,FrameOk P F a)(h:Like S w v)(hm:fr.mode=.run):Follow S P F Sp fr A w v:=by
  obtain ⟨fn,tmps,todo,defers,mode,kind,roundOf⟩:=fr
  obtain ⟨hi,hd,hr,hk,hfn⟩:=hfr
  dsimp only at hi hd hr hk hfn hm
  subst hr
  subst hm
  have mk:∀ todo',(∀ it ∈ todo',okItem P it=true)->FrameOk P F { fn,tmps,todo:=todo',defers,mode:=.run,kind,roundOf:=none }:=fun t ht=>⟨ht,hd,rfl,hk,hfn⟩
  cases todo with
  | nil=>exact follow_quiet h (fr':={ fn,tmps,todo:=[],defers,mode:=.returning,kind,roundOf:=none }) (fun Q main cs x=>by simp [stepG,stepG.exec,G]) ⟨hi,hd,rfl,hk,hfn⟩ hA
  | cons it k=>
    have hik:∀ it ∈ k,okItem P it=true:=fun x hx=>hi x (List.mem_cons_of_mem _ hx)
    have hit:okItem P it=true:=hi it (List.mem_cons_self ..)
    cases it with
    | inBlock id=>exact follow_quiet h (fr':={ fn,tmps,todo:=k,defers,mode:=.run,kind,roundOf:=none }) (fun Q main cs x=>by simp [stepG,stepG.exec,G]) (mk k hik) hA
    | inLoop c=>refine follow_quiet h (fr':={ fn,tmps,todo:=.code c :: .inLoop c :: k,defers,mode:=.run,kind,roundOf:=none }) (fun Q main cs x=>?_) (mk _ ?_) hA <;> first|(simp [stepG,stepG.exec,G];done)|exact items2 hit hit hik
    | inRegion ops todo=>
      cases todo with
      | nil=>exact follow_quiet h (fr':={ fn,tmps,todo:=k,defers,mode:=.run,kind,roundOf:=none }) (fun Q main cs x=>by simp [stepG,stepG.exec,G]) (mk k hik) hA
      | cons i rest=>
        by_cases hw:((ops[i]?).map (Region.wanted · (yielded ops tmps))).getD false=true
        · cases ho:ops[i]? with
          | none=>rw [ho] at hw;cases hw
          | some o=>
            have hok:okOp P o.op=true:=by
              have:=hit
              simp only [okItem,Array.all_eq_true] at this
              obtain ⟨hlt,rfl⟩:=Array.getElem?_eq_some_iff.1 ho
              exact this i hlt
            refine follow_oper hF hC ⟨hi,hd,rfl,hk,hfn⟩ hA h (o:=o) hok (fun Q main cs x=>?_)
            have hw':Region.wanted o (yielded ops tmps)=true:=by simpa [ho] using hw
            simp [stepG,stepG.exec,stepG.oper,G,hw',Frame.oper?,ho]
        · refine follow_quiet h (fr':=({ fn,tmps,todo:=.inRegion ops (i :: rest) :: k,defers,mode:=.run,kind,roundOf:=none }:Frame).finish undef) (fun Q main cs x=>by simp [stepG,stepG.exec,G,hw]) ?_ hA
          refine ⟨?_,hd,rfl,hk,hfn⟩
          intro y hy
          simp only [Frame.finish,List.mem_cons] at hy
          rcases hy with rfl|hy
          · exact hit
          · exact hik y hy
    | code c=>
      cases c with
      | skip=>exact follow_quiet h (fr':={ fn,tmps,todo:=k,defers,mode:=.run,kind,roundOf:=none }) (fun Q main cs x=>by simp [stepG,stepG.exec,G]) (mk k hik) hA
      | ret=>exact follow_quiet h (fr':={ fn,tmps,todo:=.code .ret :: k,defers,mode:=.returning,kind,roundOf:=none }) (fun Q main cs x=>by simp [stepG,stepG.exec,G]) ⟨hi,hd,rfl,hk,hfn⟩ hA
      | seq a b=>
        simp only [okItem,okCode,Bool.and_eq_true] at hit
        refine follow_quiet h (fr':={ fn,tmps,todo:=.code a :: .code b :: k,defers,mode:=.run,kind,roundOf:=none }) (fun Q main cs x=>?_) (mk _ ?_) hA <;> first|(simp [stepG,stepG.exec,G];done)|exact items2 hit.1 hit.2 hik
      | cond c a b=>
        simp only [okItem,okCode,Bool.and_eq_true] at hit
        by_cases hb:∃ q:Bool,Frame.eval { fn,tmps,todo:=.code (.cond c a b) :: k,defers,mode:=.run,kind,roundOf:=none } c=.bool q
        · obtain ⟨t,ht⟩:=hb
          refine follow_quiet h (fr':={ fn,tmps,todo:=.code (if t then a else b) :: k,defers,mode:=.run,kind,roundOf:=none }) (fun Q main cs x=>?_) (mk _ ?_) hA
          · simp [stepG,stepG.exec,G,ht]
          · cases t with
            | true=>exact items1 hit.1 hik
            | false=>exact items1 hit.2 hik
        · refine follow_ended (fun main cs x=>?_)
          cases he:Frame.eval { fn,tmps,todo:=.code (.cond c a b) :: k,defers,mode:=.run,kind,roundOf:=none } c with
          | bool q=>exact absurd ⟨q,he⟩ hb
          | _=>simp [stepG,stepG.exec,G,he]
      | block id c=>
        refine follow_quiet h (fr':={ fn,tmps,todo:=.code c :: .inBlock id :: k,defers,mode:=.run,kind,roundOf:=none }) (fun Q main cs x=>?_) (mk _ ?_) hA <;> first|(simp [stepG,stepG.exec,G];done)|exact items2 hit rfl hik
      | loop c=>
        refine follow_quiet h (fr':={ fn,tmps,todo:=.code c :: .inLoop c :: k,defers,mode:=.run,kind,roundOf:=none }) (fun Q main cs x=>?_) (mk _ ?_) hA <;> first|(simp [stepG,stepG.exec,G];done)|exact items2 hit hit hik
      | exit id=>
        cases he:exitTo id k with
        | none=>exact follow_ended (fun main cs x=>by simp [stepG,stepG.exec,G,he])
        | some k'=>exact follow_quiet h (fr':={ fn,tmps,todo:=k',defers,mode:=.run,kind,roundOf:=none }) (fun Q main cs x=>by simp [stepG,stepG.exec,G,he]) (mk k' fun y hy=>hik y (exitTo_sub he y hy)) hA
      | region id ops draw=>
        cases draw with
        | false=>exact follow_quiet h (fr':={ fn,tmps,todo:=.inRegion ops (List.range ops.size) :: k,defers,mode:=.run,kind,roundOf:=none }) (fun Q main cs x=>by simp [stepG,stepG.exec,G]) (mk _ (items1 hit hik)) hA
        | true=>
          refine ⟨fun j=>if j=v.drawn then w.tape w.drawn else v.tape j,fun j hj=>by simp only [Nat.ne_of_lt hj,if_false],.inl ⟨{ fn,tmps,todo:=.inRegion ops (Region.schedule (P.follows .mixedOrders) ops (w.tape w.drawn (.order fn id))) :: k,defers,mode:=.run,kind,roundOf:=none },A,{ v with drawn:=v.drawn+1 },Nat.le_succ _,fun t' ht' cs₀=>?_,mk _ (items1 hit hik),hA,fun main cs=>⟨{ w with drawn:=w.drawn+1 },#[],?_,h.draw _ _,kept_draw w,by simp⟩⟩⟩
          · have:=ht' v.drawn (Nat.lt_succ_self _)
            simp only [if_true] at this
            refine ⟨#[],?_⟩
            simp [stepG,stepG.exec,G,choose,Sem.run,Question.forced,Question.cut,retape,this]
            rfl
          · simp [stepG,stepG.exec,G,choose,Sem.run,Question.forced,Question.cut]
      | rangeFunc=>cases hit
      | scope=>cases hit
      | label=>cases hit
      | goto=>cases hit
      | refuse=>cases hit
    | inScope=>cases hit
    | inRangeFunc=>cases hit
    | endRangeFunc=>cases hit
    | beginRound=>cases hit
    | call=>cases hit
    | extern=>cases hit
theorem t_results {fn:Func}{tmps:Array Value}{L:List Nat}:T1 S P F L (results fn tmps):=by
  unfold results
  refine t_bind (t_mapArray _ _ fun r=>?_) fun _=>t_pure _
  split
  · exact t_pure _
  · exact t_bind (t_asAddr _) fun _=>t_loadVar _ _
theorem deferred_value {Q:Program}{d:Deferred}{cs:List Frame}{x x':World}{y:Value}(hn:¬ (d.target=.nil/\∃ ch,fr.mode=.panicking ch))(hr:(invoke d.target d.args).run Q x=.ok (.value y) x') :
    callDeferred Q fr cs none d x=.go (G fr cs) x' (seen Q fr.fn ((invoke d.target d.args).events Q x #[])):=by
  unfold callDeferred
  cases ht:d.target <;> cases hm:fr.mode <;> first
    | exact (hn ⟨ht,_,hm⟩).elim
    | (rw [ht] at hr;simp [hr,G,GStep.after])
theorem deferred_enter {Q:Program}{d:Deferred}{cs:List Frame}{x x':World}{f:FuncId}{args:Array Value}(hn:¬ (d.target=.nil/\∃ ch,fr.mode=.panicking ch))(hr:(invoke d.target d.args).run Q x=.ok (.enter f args) x') :
    callDeferred Q fr cs none d x=.go (G (Frame.enter Q f args .deferred) (fr :: cs)) x' (seen Q fr.fn ((invoke d.target d.args).events Q x #[])):=by
  unfold callDeferred
  cases ht:d.target <;> cases hm:fr.mode <;> first
    | exact (hn ⟨ht,_,hm⟩).elim
    | (rw [ht] at hr;simp [hr,G,GStep.after])
theorem deferred_panic {Q:Program}{d:Deferred}{cs:List Frame}{x x':World}{y:Value}(hn:¬ (d.target=.nil/\∃ ch,fr.mode=.panicking ch))(hr:(invoke d.target d.args).run Q x=.halt (.panic y) x') :
    callDeferred Q fr cs none d x=.go (G (fr.raise [{ v:=y,recovered:=false }]) cs) x' (seen Q fr.fn ((invoke d.target d.args).events Q x #[])):=by
  unfold callDeferred
  cases ht:d.target <;> cases hm:fr.mode <;> first
    | exact (hn ⟨ht,_,hm⟩).elim
    | (rw [ht] at hr;simp [hr,G,GStep.after])
theorem deferred_dead {Q:Program}{d:Deferred}{cs:List Frame}{x x':World}{y:Halt}(hn:¬ (d.target=.nil/\∃ ch,fr.mode=.panicking ch))(hr:(invoke d.target d.args).run Q x=.halt y x')(hd:Dead y) :
    ∃ o w',(callDeferred Q fr cs none d x).bare=.ended o w':=by
  unfold callDeferred
  cases ht:d.target <;> cases hm:fr.mode <;> first
    | exact (hn ⟨ht,_,hm⟩).elim
    | (rw [ht] at hr
       cases y with
       | stuck m=>simp [hr]
       | unsupported u=>simp [hr]
       | _=>exact hd.elim)
theorem follow_deferred (hF:Funcs S P F)(hC:Codes P F Sp)(hfr:FrameOk P F fr)(hA:∀ a ∈ A,FrameOk P F a)(h:Like S w v){d:Deferred}(hd:okTarget d.target=true){fr₀:Frame}
    (hs:∀ (Q:Program) (main:Bool) (cs:List Frame) (x:World),stepG Q main (G fr₀ cs) x=callDeferred Q fr cs none d x):Follow S P F Sp fr₀ A w v:=by
  by_cases hn:d.target=.nil/\∃ ch,fr.mode=.panicking ch
  · obtain ⟨hn1,ch,hn2⟩:=hn
    refine follow_ended fun main cs x=>?_
    rw [hs]
    unfold callDeferred
    rw [hn1,hn2]
    exact ⟨_,_,rfl⟩
  · obtain ⟨t,r,h1,h2,h3,h4⟩:=t_invoke (L:=[]) hF d.target hd d.args w v h (by simp)
    match r,h2,h3,h4 with
    | .ok n v',h2,h3,⟨w',hw,hl,hkp,hev⟩=>
      have hn':=next_invoke hF hd (h.retape t).noLoop (h3 t (Agree.refl _ _))
      have goOn:∀ (fr':Frame) (B:List Frame),FrameOk P F fr'->(∀ a ∈ B,FrameOk P F a) ->
          (∀ (Q:Program) (x x':World) (cs:List Frame),(Q=P∨Q=withFuncs P F)->(invoke d.target d.args).run Q x=.ok n x'->callDeferred Q fr (A++cs) none d x=.go (G fr' (B++cs)) x' (seen Q fr.fn ((invoke d.target d.args).events Q x #[])))->Follow S P F Sp fr₀ A w v:=
        fun fr' B hfr' hB hstep=>⟨t,h1,.inl ⟨fr',B,v',h2,fun t' ht' cs₀=>⟨_,by rw [hs];exact hstep (withFuncs P F) (retape v t') (retape v' t') cs₀ (.inr rfl) (h3 t' ht')⟩,hfr',hB,fun main cs=>
            ⟨w',_,by rw [hs];exact hstep P w w' cs (.inl rfl) hw,hl,hkp,fun e hee=>hev e (Go.Conc.mem_seen hee)⟩⟩⟩
      cases n with
      | value y=>exact goOn fr A hfr hA fun Q x x' cs _ hr=>deferred_value hn hr
      | enter f args=>
        by_cases hsp:Sp f
        · refine ⟨t,h1,.inr (.inr (.inr (.inl ⟨f,args,.deferred,fr,v',hsp,.inr rfl,hfr,h2,fun t' ht' cs₀=>⟨_,by rw [hs];exact deferred_enter hn (h3 t' ht')⟩,fun main cs=>⟨w',_,by rw [hs];exact deferred_enter hn hw,hl,hkp,fun e hee=>hev e (Go.Conc.mem_seen hee)⟩⟩)))⟩
        obtain ⟨g1,g2⟩:=FrameOk.enter (kind:=.deferred) hC args hsp (.inr rfl) hn'
        refine goOn (Frame.enter P f args .deferred) (fr :: A) g1 (by intro a ha;simp only [List.mem_cons] at ha;rcases ha with rfl|ha;exact hfr;exact hA a ha) fun Q x x' cs hQ hr=>?_
        rw [deferred_enter hn hr]
        rcases hQ with rfl|rfl
        · rfl
        · rw [g2];rfl
      | _=>cases hn'
    | .halt (.panic y) v',h2,h3,⟨w',hw,hl,hkp,hev⟩=>
      exact ⟨t,h1,.inl ⟨fr.raise [{ v:=y,recovered:=false }],A,v',h2,fun t' ht' cs₀=>⟨_,by rw [hs];exact deferred_panic hn (h3 t' ht')⟩,hfr.raise _,hA,fun main cs=>⟨w',_,by rw [hs];exact deferred_panic hn hw,hl,hkp,fun e hee=>hev e (Go.Conc.mem_seen hee)⟩⟩⟩
    | .halt (.stuck m) v',h2,h3,h4=>exact ⟨t,h1,.inr (.inl ⟨_,h2,fun t' ht' cs₀=>(by rw [hs];exact deferred_dead (y:=.stuck m) hn (h3 t' ht') trivial)⟩)⟩
    | .halt (.unsupported u) v',h2,h3,h4=>exact ⟨t,h1,.inr (.inl ⟨_,h2,fun t' ht' cs₀=>(by rw [hs];exact deferred_dead (y:=.unsupported u) hn (h3 t' ht') h4)⟩)⟩
    | .halt .blocked _,_,_,d | .halt .waiting _,_,_,d | .halt .goexit _,_,_,d | .halt (.exit _) _,_,_,d | .halt (.fatal _) _,_,_,d | .halt (.throw _) _,_,_,d=>exact d.elim
theorem FrameOk.backIn (h:FrameOk P F fr):FrameOk P F (backIn fr):=by
  obtain ⟨hi,hd,hr,hk,hfn⟩:=h
  unfold Tame.backIn
  split
  · split <;> exact ⟨hi,hd,hr,hk,hfn⟩
  · exact ⟨hi,hd,hr,hk,hfn⟩
theorem doReturn_cons {Q:Program}{main:Bool}{a:Frame}{cs:List Frame}{y:Value}{x:World}(hk:fr.kind=.normal∨fr.kind=.deferred) :
    doReturn Q main fr (a :: cs) none y x=.go (G (if fr.kind=.normal then a.finish y else backIn a) cs) x:=by
  unfold doReturn
  rcases hk with e|e
  · rw [e];rfl
  · rw [e];rfl
theorem follow_unwind (hF:Funcs S P F)(hC:Codes P F Sp)(hfr:FrameOk P F fr)(hA:∀ a ∈ A,FrameOk P F a)(h:Like S w v)(hm:fr.mode≠.run):Follow S P F Sp fr A w v:=by
  have hst:∀ (Q:Program) (main:Bool) (cs:List Frame) (x:World),stepG Q main (G fr cs) x=unwind Q main fr cs none x:=fun Q main cs x=>by
    cases e:fr.mode <;> first|exact (hm e).elim|simp [stepG,G,e]
  cases hd:fr.defers with
  | cons d ds=>
    have hdt:okTarget d.target=true:=hfr.defers d (by rw [hd];exact List.mem_cons_self ..)
    have hfr':FrameOk P F { fr with defers:=ds }:=⟨hfr.items,fun a ha=>hfr.defers a (by rw [hd];exact List.mem_cons_of_mem _ ha),hfr.round,hfr.kind,hfr.fn⟩
    refine follow_deferred hF hC hfr' hA h hdt fun Q main cs x=>?_
    rw [hst]
    unfold unwind
    rw [hd]
    obtain ⟨tg,args⟩:=d
    cases tg <;> first|rfl|cases hdt
  | nil=>
    obtain ⟨fn,hfn1,hfn2⟩:=hfr.fn
    cases hmode:fr.mode with
    | run=>exact (hm hmode).elim
    | panicking chain=>
      have hcat:∀ Q:Program,Q.funcs[fr.fn]? = some fn->fr.catches Q=false:=fun Q hq=>by unfold Frame.catches;rw [hq]
      have hstep:∀ (Q:Program) (main:Bool) (a:Frame) (cs:List Frame) (x:World),Q.funcs[fr.fn]? = some fn->stepG Q main (G fr (a :: cs)) x=.go (G (a.raise chain) cs) x:=fun Q main a cs x hq=>by
        rw [hst];unfold unwind;rw [hd];simp only [hmode,hcat Q hq];rfl
      cases A with
      | nil=>exact ⟨v.tape,Agree.refl _ _,.inr (.inr (.inr (.inr ⟨rfl,fun a=>a.raise chain,v,.inr ⟨chain,rfl⟩,Nat.le_refl _,fun t' _ b cs₀=>⟨#[],hstep (withFuncs P F) true b cs₀ _ hfn1⟩,fun main b cs=>⟨w,#[],hstep P main b cs w hfn2,h,Kept.refl _ _,by simp⟩⟩)))⟩
      | cons a A=>exact ⟨v.tape,Agree.refl _ _,.inl ⟨a.raise chain,A,v,Nat.le_refl _,fun t' _ cs₀=>⟨#[],hstep (withFuncs P F) true a (A++cs₀) _ hfn1⟩,(hA a (List.mem_cons_self ..)).raise chain,fun b hb=>hA b (List.mem_cons_of_mem _ hb),fun main cs=>⟨w,#[],hstep P main a (A++cs) w hfn2,h,Kept.refl _ _,by simp⟩⟩⟩
    | returning=>
      obtain ⟨t,r,h1,h2,h3,h4⟩:=t_results (S:=S) (P:=P) (F:=F) (fn:=fn) (tmps:=fr.tmps) (L:=[]) w v h (by simp)
      have hstep:∀ (Q:Program) (main:Bool) (cs:List Frame) (x:World),Q.funcs[fr.fn]? = some fn->stepG Q main (G fr cs) x=GStep.after (seen Q fr.fn ((results fn fr.tmps).events Q x #[])) (match (results fn fr.tmps).run Q x with
          | .ok y x'=>doReturn Q main fr cs none y x'
          | .halt (.stuck s) x'=>.ended (.stuck s (fr.pos Q)) x'
          | .halt _ x'=>.ended (.stuck "return: the result variables cannot be read" (fr.pos Q)) x'):=fun Q main cs x hq=>by
        rw [hst];unfold unwind;rw [hd];simp only [hmode,hq,Sem.runT_eq]
        rfl
      match r,h2,h3,h4 with
      | .ok y v',h2,h3,⟨w',hw,hl,hkp,hev⟩=>
        cases A with
        | nil=>
          refine ⟨t,h1,.inr (.inr (.inr (.inr ⟨rfl,fun a=>ret fr.kind a y,v',.inl ⟨hmode,y,rfl⟩,h2,fun t' ht' b cs₀=>⟨seen (withFuncs P F) fr.fn ((results fn fr.tmps).events (withFuncs P F) (retape v t') #[]) ++ #[],?_⟩,fun main b cs=>⟨w',seen P fr.fn ((results fn fr.tmps).events P w #[]) ++ #[],?_,hl,hkp,fun e he=>hev e (Go.Conc.mem_seen (by simpa using he))⟩⟩)))⟩
          · rw [hstep (withFuncs P F) true _ _ hfn1,h3 t' ht']
            simp only [re]
            rw [doReturn_cons hfr.kind]
            rfl
          · rw [hstep P main _ _ hfn2,hw]
            simp only []
            rw [doReturn_cons hfr.kind]
            rfl
        | cons a A=>
          refine ⟨t,h1,.inl ⟨if fr.kind=.normal then a.finish y else backIn a,A,v',h2,fun t' ht' cs₀=>⟨seen (withFuncs P F) fr.fn ((results fn fr.tmps).events (withFuncs P F) (retape v t') #[]) ++ #[],?_⟩,?_,fun b hb=>hA b (List.mem_cons_of_mem _ hb),fun main cs=>⟨w',seen P fr.fn ((results fn fr.tmps).events P w #[]) ++ #[],?_,hl,hkp,fun e he=>hev e (Go.Conc.mem_seen (by simpa using he))⟩⟩⟩
          · rw [hstep (withFuncs P F) true _ _ hfn1,h3 t' ht']
            simp only [re,List.cons_append]
            rw [doReturn_cons hfr.kind]
            rfl
          · split
            · exact (hA a (List.mem_cons_self ..)).finish y
            · exact (hA a (List.mem_cons_self ..)).backIn
          · rw [hstep P main _ _ hfn2,hw]
            simp only [List.cons_append]
            rw [doReturn_cons hfr.kind]
            rfl
      | .halt y v',h2,h3,h4=>
        refine ⟨t,h1,.inr (.inl ⟨v'.drawn,h2,fun t' ht' cs₀=>?_⟩)⟩
        rw [hstep (withFuncs P F) true _ _ hfn1,h3 t' ht']
        cases y <;> exact ⟨_,_,rfl⟩
theorem follow (hF:Funcs S P F)(hC:Codes P F Sp)(hfr:FrameOk P F fr)(hA:∀ a ∈ A,FrameOk P F a)(h:Like S w v):Follow S P F Sp fr A w v:=by
  by_cases hm:fr.mode=.run
  · exact follow_run hF hC hfr hA h hm
  · exact follow_unwind hF hC hfr hA h hm
end
end
end Go.Tame
namespace Go.Tame
open Go.Conc (G solo)
section
def SelGoes (cc:CommCase) (w:World) (fr fr':Frame):Prop:=
  (∃ (c cap s r:Nat) (tm:Bool),cc.chan=.chan (some c)/\w.heap[c]? = some (.chan cap #[] true s r tm)/\fr'=fr.finish (commResult #[cc] .select 0 cc.zero false)) ∨
  ((cc.chan=.chan none∨∃ (c cap s r:Nat) (tm:Bool),cc.chan=.chan (some c)/\w.heap[c]? = some (.chan cap #[] false s r tm))/\fr'=fr.finish (commResult #[cc] .select (-1) undef false))
def Moves (S:Prot) (P:Program) (main:Bool) (cs:List Frame) (fr:Frame) (A:List Frame) (w:World) (fr':Frame) (A':List Frame) (w':World):Prop:=
  (∃ es,stepG P main (G fr (A++cs)) w=.go (G fr' (A'++cs)) w' es/\Kept S w w'/\∀ e ∈ es,EvGood S e) ∨
  (A'=A/\∃ cc es,stepG P main (G fr (A++cs)) w=.comm (G fr (A++cs)) #[cc] false .select w' es/\cc.send=none/\Kept S w w'/\(∀ e ∈ es,EvGood S e)/\SelGoes cc w' fr fr')
structure Macros where
  κ:Type
  hand:κ->Nat
  cs:κ->List Frame
  low:κ->List Frame
  Sp:FuncId->Prop
  Pre:κ->FuncId->Array Value->CallKind->Frame->List Frame->World->Prop
  M:κ->FuncId->Array Value->CallKind->Frame->List Frame->World->κ->Frame->List Frame->World->Prop
  BackPre:κ->CallKind->Value->World->Prop
  Back:κ->CallKind->Value->World->κ->Frame->List Frame->World->Prop
def Ahead (S:Prot) (P:Program) (C:Macros) (m:C.κ) (fr:Frame) (A:List Frame) (w:World) (X:C.κ->Frame->List Frame->World->Prop):Prop:=
  (∃ fr' A' w',Moves S P (C.hand m == 0) (C.cs m) fr A w fr' A' w'/\X m fr' A' w') ∨
  (∃ f args kind a u es,C.Sp f/\(kind=.normal∨kind=.deferred)/\stepG P (C.hand m == 0) (G fr (A++C.cs m)) w=.go (G (Frame.enter P f args kind) (a :: (A++C.cs m))) u es/\Kept S w u/\(∀ e ∈ es,EvGood S e) /\
    C.Pre m f args kind a A u/\∀ m' fr' A' u',C.M m f args kind a A u m' fr' A' u'->X m' fr' A' u') ∨
  (A = []/\C.low m ≠ []/\∃ b rest y u es,C.cs m=b :: rest/\stepG P (C.hand m == 0) (G fr (b :: rest)) w=.go (G (ret fr.kind b y) rest) u es/\Kept S w u/\(∀ e ∈ es,EvGood S e) /\
    C.BackPre m fr.kind y u/\∀ m' fr' A' u',C.Back m fr.kind y u m' fr' A' u'->X m' fr' A' u')
inductive Reach (S:Prot) (P:Program) (C:Macros) (Stop:C.κ->Frame->World->Prop):C.κ->Frame->List Frame->World->Prop
  | stop {m:C.κ} {fr:Frame} {w:World} (hm:C.low m = []) (h:Stop m fr w):Reach S P C Stop m fr [] w
  | step {m:C.κ} {fr:Frame} {A:List Frame} {w:World} (X:Nat->C.κ->Frame->List Frame->World->Prop) (h:∀ d,Ahead S P C m fr A (w.at d) (X d)) (k:∀ d m' fr' A' w',X d m' fr' A' w'->Reach S P C Stop m' fr' A' w'):Reach S P C Stop m fr A w
section
variable {S:Prot}{P:Program}{F:Array Func}{fr:Frame}{A:List Frame}{w v:World}
theorem Like.at {w v:World}(h:Like S w v)(d:Nat):Like S (w.at d) v:=⟨h.size,h.obj,h.still,h.gone,h.os,h.out⟩
theorem not_reach {C:Macros}{m:C.κ}{Stop:C.κ->Frame->World->Prop}(h:¬ Reach S P C Stop m fr A w):∃ d,∀ X,Ahead S P C m fr A (w.at d) X->∃ m' fr' A' w',X m' fr' A' w'/\¬ Reach S P C Stop m' fr' A' w':=by
  refine Classical.byContradiction fun hn=>h ?_
  have hall:∀ d,∃ X:C.κ->Frame->List Frame->World->Prop,Ahead S P C m fr A (w.at d) X/\∀ m' fr' A' w',X m' fr' A' w'->Reach S P C Stop m' fr' A' w':=fun d=>by
    refine Classical.byContradiction fun hd=>hn ⟨d,fun X hX=>Classical.byContradiction fun hx=>hd ⟨X,hX,fun m' fr' A' w' hm=>Classical.byContradiction fun hr=>hx ⟨m',fr',A',w',hm,hr⟩⟩⟩
  exact .step (fun d=>(hall d).choose) (fun d=>(hall d).choose_spec.1) (fun d=>(hall d).choose_spec.2)
theorem Like.empty {w v:World}(h:Like S w v){c cap s r:Nat}{buf:Array Value}{cl tm:Bool}(hc:v.heap[c]? = Option.some (Obj.chan cap buf cl s r tm)):buf=#[]:=by
  have hlt:c<v.heap.size:=(Array.getElem?_eq_some_iff.1 hc).1
  have hlw:c<w.heap.size:=by rw [← h.size];exact hlt
  have:=h.obj c _ _ (Array.getElem?_eq_getElem hlw) hc
  revert this
  generalize w.heap[c]'hlw=o
  intro this
  cases this with
  | chan=>rfl
  | same _ hp=>exact hp.elim
theorem lone_sel_goes {Q:Program}{cs:List Frame}{x x':World}{es:Array Event}{cc:CommCase}{fr':Frame}(h:stepG Q true (G fr cs) x=.comm (G fr cs) #[cc] false .select x' es)(hs:cc.send=none)
    (hg:SelGoes cc x' fr fr'):step Q (solo (G fr cs) x)=.next (solo (G fr' cs) x'):=by
  obtain ⟨ch,snd,z⟩:=cc
  dsimp only at hs
  subst hs
  have hp:∀ c,partners #[{ (default:Goroutine) with status:=.finished }] c true = []:=fun c=>Go.Conc.partners_alone (c:=c) true
  rw [step,Go.Conc.stepT_solo rfl]
  rcases hg with ⟨c,cap,s,r,tm,rfl,hc,rfl⟩|⟨rfl|⟨c,cap,s,r,tm,rfl,hc⟩,rfl⟩
  · simp [runT,solo,G,Array.swapAt!,Array.swapAt,h,GStep.es,communicate,ways,hc,hp,choose,Sem.run,Question.forced,bind,Sem.bind,pure,Goroutine.finishComm] at h ⊢
  · simp [runT,solo,G,Array.swapAt!,Array.swapAt,h,GStep.es,communicate,ways,Goroutine.finishComm] at h ⊢
  · simp [runT,solo,G,Array.swapAt!,Array.swapAt,h,GStep.es,communicate,ways,hc,hp,Goroutine.finishComm] at h ⊢
theorem lone_sel_ended {Q:Program}{cs:List Frame}{x x':World}{es:Array Event}{cc:CommCase}(h:stepG Q true (G fr cs) x=.comm (G fr cs) #[cc] false .select x' es)(hs:cc.send=none)
    (hemp:∀ (c cap s r:Nat) (buf:Array Value) (cl tm:Bool),x'.heap[c]? = some (.chan cap buf cl s r tm)->buf=#[]) (hn:¬ ∃ fr',SelGoes cc x' fr fr'):∃ o y,step Q (solo (G fr cs) x)=.ended o y:=by
  obtain ⟨ch,snd,z⟩:=cc
  dsimp only at hs
  subst hs
  rw [step,Go.Conc.stepT_solo rfl]
  cases ch with
  | chan o=>
    cases o with
    | none=>exact absurd ⟨_,.inr ⟨.inl rfl,rfl⟩⟩ hn
    | some c=>
      cases hc:x'.heap[c]? with
      | none=>simp [runT,solo,G,Array.swapAt!,Array.swapAt,h,GStep.es,communicate,hc] at h ⊢
      | some o=>
        cases o with
        | chan cap buf cl s r tm=>
          have:=hemp _ _ _ _ _ _ _ hc
          subst this
          cases cl with
          | true=>exact absurd ⟨_,.inl ⟨c,cap,s,r,tm,rfl,hc,rfl⟩⟩ hn
          | false=>exact absurd ⟨_,.inr ⟨.inr ⟨c,cap,s,r,tm,rfl,hc⟩,rfl⟩⟩ hn
        | _=>simp [runT,solo,G,Array.swapAt!,Array.swapAt,h,GStep.es,communicate,hc] at h ⊢
  | _=>simp [runT,solo,G,Array.swapAt!,Array.swapAt,h,GStep.es,communicate] at h ⊢
theorem Like.chanBack {w v:World}(h:Like S w v){c cap s r:Nat}{cl tm:Bool}(hc:v.heap[c]? = Option.some (Obj.chan cap #[] cl s r tm)):∃ s' r',w.heap[c]? = Option.some (Obj.chan cap #[] cl s' r' tm):=by
  have hlt:c<v.heap.size:=(Array.getElem?_eq_some_iff.1 hc).1
  have hlw:c<w.heap.size:=by rw [← h.size];exact hlt
  have:=h.obj c _ _ (Array.getElem?_eq_getElem hlw) hc
  revert this
  rw [Array.getElem?_eq_getElem hlw]
  generalize w.heap[c]'hlw=o
  intro this
  cases this with
  | chan=>exact ⟨_,_,rfl⟩
  | same _ hp=>exact hp.elim
theorem SelGoes.back {cc:CommCase}{fr':Frame}(hl:Like S w v)(h:SelGoes cc v fr fr'):SelGoes cc w fr fr':=by
  rcases h with ⟨c,cap,s,r,tm,h1,hc,h2⟩|⟨h1|⟨c,cap,s,r,tm,h1,hc⟩,h2⟩
  · obtain ⟨s',r',hw⟩:=hl.chanBack hc
    exact .inl ⟨c,cap,s',r',tm,h1,hw,h2⟩
  · exact .inr ⟨.inl h1,h2⟩
  · obtain ⟨s',r',hw⟩:=hl.chanBack hc
    exact .inr ⟨.inr ⟨c,cap,s',r',tm,h1,hw⟩,h2⟩
def Lost (P:Program) (F:Array Func) (m:Machine):Prop:=∀ (n:Nat) (fr':Frame) (A':List Frame) (v':World),0<n->runN (withFuncs P F) n m≠.next (solo (G fr' (A' ++ [sent F])) v')
theorem lost_ended {m:Machine}{o:Outcome}{y:World}(h:step (withFuncs P F) m=.ended o y):Lost P F m:=by
  intro n fr' A' v' hn e
  cases n with
  | zero=>omega
  | succ n=>simp [runN,h] at e
theorem step_solo_ended {Q:Program}{a:Goroutine}{x y:World}{o:Outcome}(hs:a.status=.running)(h:(stepG Q true a x).bare=.ended o y):step Q (solo a x)=.ended o y:=by
  generalize hg:stepG Q true a x=s at h
  cases s <;> simp at h
  obtain ⟨rfl,rfl⟩:=h
  rw [step,Go.Conc.stepT_solo hs]
  simp [runT,solo,Array.swapAt!,Array.swapAt,hg]
theorem sent_over {Q:Program}{fr:Frame}{x:World}(h:(∃ y,fr=(sent F).finish y)∨(∃ ch,fr=(sent F).raise ch)∨fr=sent F):∃ o y,(stepG Q true (G fr []) x).bare=.ended o y:=by
  rcases h with ⟨y,rfl⟩|⟨ch,rfl⟩|rfl
  · exact ⟨_,_,by simp [stepG,stepG.exec,G,sent,Frame.finish];exact ⟨rfl,rfl⟩⟩
  · simp [stepG,G,sent,Frame.raise,unwind,callDeferred,invoke,builtin]
  · exact ⟨_,_,by simp [stepG,stepG.exec,G,sent];exact ⟨rfl,rfl⟩⟩
theorem lost_over {B:List Frame}{x:World}(h:Over F (stepG (withFuncs P F) true (G fr B) x)):Lost P F (solo (G fr B) x):=by
  rcases h with ⟨o,y,h⟩|⟨fr',y,es,h,hs⟩
  · exact lost_ended (step_solo_ended rfl h)
  · intro n fr'' A' v' hn e
    cases n with
    | zero=>omega
    | succ n=>
      have hst:=Go.Conc.step_solo_go rfl h
      simp only [runN,hst] at e
      cases n with
      | zero=>
        simp only [runN,Stepped.next.injEq] at e
        have:=congrArg (fun m=>(m.gs.getD 0 default).callers) e
        simp [solo,G] at this
      | succ n=>
        obtain ⟨o,z,hz⟩:=sent_over (Q:=withFuncs P F) (x:=y) hs
        have:=step_solo_ended (a:=G fr' []) rfl hz
        simp [runN,this] at e
theorem lost_next {m m':Machine}(h:step (withFuncs P F) m=.next m')(hl:Lost P F m')(hn:∀ (fr':Frame) (A':List Frame) (v':World),m'≠solo (G fr' (A' ++ [sent F])) v'):Lost P F m:=by
  intro n fr' A' v' hp e
  cases n with
  | zero=>omega
  | succ n=>
    simp only [runN,h] at e
    cases n with
    | zero=>simp only [runN,Stepped.next.injEq] at e;exact hn _ _ _ e
    | succ n=>exact hl (n+1) fr' A' v' (by omega) e
def Dead1 (P:Program) (F:Array Func) (m:Machine):Prop:=∀ (n:Nat) (fr':Frame) (v':World),0<n->runN (withFuncs P F) n m≠.next (solo (G fr' [sent F]) v')
theorem Lost.dead {m:Machine}(h:Lost P F m):Dead1 P F m:=fun n fr' v' hn e=>h n fr' [] v' hn e
def Macros.all (C:Macros) (F:Array Func) (m:C.κ) (A:List Frame):List Frame:=A++(C.low m ++ [sent F])
structure MacrosOk (S:Prot) (P:Program) (F:Array Func) (C:Macros):Prop where
  no:∀ m f args kind a A w v,C.Sp f->(kind=.normal∨kind=.deferred)->Like S w v->¬ C.Pre m f args kind a A w->Dead1 P F (solo (G (Frame.enter (withFuncs P F) f args kind) (a :: C.all F m A)) v)
  go:∀ m f args kind a A w v m' fr' A' u,C.Sp f->(kind=.normal∨kind=.deferred)->FrameOk P F a->(∀ b ∈ A,FrameOk P F b)->Like S w v->C.Pre m f args kind a A w->C.M m f args kind a A w m' fr' A' u ->
    Dead1 P F (solo (G (Frame.enter (withFuncs P F) f args kind) (a :: C.all F m A)) v)∨(FrameOk P F fr'/\(∀ b ∈ A',FrameOk P F b)/\∃ t v' k,Agree t v.tape v.drawn/\v.drawn<=v'.drawn/\Like S u v' /\
    ∀ t',Agree t' t v'.drawn->runN (withFuncs P F) k (solo (G (Frame.enter (withFuncs P F) f args kind) (a :: C.all F m A)) (retape v t'))=.next (solo (G fr' (C.all F m' A')) (retape v' t')))
  over:∀ m,C.low m ≠ []->C.cs m ≠ []
  two:∀ m b B,C.low m=b :: B->B ≠ []
  stuck:∀ m b B ch v,C.low m=b :: B->Dead1 P F (solo (G (b.raise ch) (B ++ [sent F])) v)
  notBack:∀ m b B kind y w v,C.low m=b :: B->Like S w v->¬ C.BackPre m kind y w->Dead1 P F (solo (G (ret kind b y) (B ++ [sent F])) v)
  back:∀ m b B kind y w v m' fr' A' u,C.low m=b :: B->Like S w v->C.BackPre m kind y w->C.Back m kind y w m' fr' A' u ->
    FrameOk P F fr'/\(∀ b ∈ A',FrameOk P F b)/\∃ t v' k,Agree t v.tape v.drawn/\v.drawn<=v'.drawn/\Like S u v' /\
    ∀ t',Agree t' t v'.drawn->runN (withFuncs P F) k (solo (G (ret kind b y) (B ++ [sent F])) (retape v t'))=.next (solo (G fr' (C.all F m' A')) (retape v' t'))
structure Node (S:Prot) (P:Program) (F:Array Func) (C:Macros) (Stop:C.κ->Frame->World->Prop) where
  m:C.κ
  fr:Frame
  A:List Frame
  w:World
  v:World
  ok:FrameOk P F fr
  oks:∀ a ∈ A,FrameOk P F a
  like:Like S w v
  never:¬ Reach S P C Stop m fr A w
theorem FrameOk.ret {a:Frame}(h:FrameOk P F a)(kind:CallKind)(y:Value):FrameOk P F (ret kind a y):=by
  unfold Tame.ret
  split
  · exact h.finish y
  · exact h.backIn
theorem dead_next {m m':Machine}(h:step (withFuncs P F) m=.next m')(hl:Dead1 P F m')(hn:∀ (fr':Frame) (v':World),m'≠solo (G fr' [sent F]) v'):Dead1 P F m:=by
  intro n fr' v' hp e
  cases n with
  | zero=>omega
  | succ n=>
    simp only [runN,h] at e
    cases n with
    | zero=>simp only [runN,Stepped.next.injEq] at e;exact hn _ _ e
    | succ n=>exact hl (n+1) fr' v' (by omega) e
variable {C:Macros}{Stop:C.κ->Frame->World->Prop}
theorem node_next (hF:Funcs S P F)(hC:Codes P F C.Sp)(hM:MacrosOk S P F C)(n:Node S P F C Stop):∃ t,Agree t n.v.tape n.v.drawn /\
    ((∃ (m:Node S P F C Stop) (k:Nat),n.v.drawn<=m.v.drawn/\m.v.tape=t/\0<k/\∀ t',Agree t' t m.v.drawn->runN (withFuncs P F) k (solo (G n.fr (C.all F n.m n.A)) (retape n.v t'))=.next (solo (G m.fr (C.all F m.m m.A)) (retape m.v t'))) ∨
      Dead1 P F (solo (G n.fr (C.all F n.m n.A)) (retape n.v t))):=by
  obtain ⟨d,hd⟩:=not_reach n.never
  obtain ⟨t,h1,h⟩:=follow hF hC n.ok n.oks (n.like.at d)
  rcases h with ⟨fr',A',v',h2,h3,h4,h5,h6⟩|⟨k,h2,h3⟩|⟨cases,v',h2,h3,h4,h5⟩|⟨f,args,kind,a,v',hsp,hk,ha,h2,h3,h4⟩|⟨hA0,out,v',ho,h2,h3,h4⟩
  · refine ⟨t,h1,?_⟩
    obtain ⟨w',es,g1,g2,g3,g4⟩:=h6 (C.hand n.m == 0) (C.cs n.m)
    obtain ⟨_,_,_,_,⟨rfl,rfl,rfl,rfl⟩,hne⟩:=hd (fun k a b c=>k=n.m/\a=fr'/\b=A'/\c=w') (.inl ⟨fr',A',w',.inl ⟨es,g1,g3,g4⟩,rfl,rfl,rfl,rfl⟩)
    refine .inl ⟨⟨n.m,_,_,_,retape v' t,h4,h5,g2.retape t,hne⟩,1,h2,rfl,by omega,fun t' ht'=>?_⟩
    obtain ⟨es',he⟩:=h3 t' ht' (C.low n.m ++ [sent F])
    simp only [runN,Macros.all,Go.Conc.step_solo_go rfl he]
    rfl
  · exact ⟨t,h1,.inr (lost_over (.inl (h3 t (Agree.refl _ _) (C.low n.m ++ [sent F])))).dead⟩
  · refine ⟨t,h1,?_⟩
    rw [Bool.and_eq_true,beq_iff_eq] at h3
    obtain ⟨l⟩:=cases
    match l,h3 with
    | [],h3=>simp at h3
    | [cc],h3=>
      have hs:cc.send=none:=by simpa using h3.2
      obtain ⟨w',es,g1,g2,g3,g4⟩:=h5 (C.hand n.m == 0) (C.cs n.m)
      by_cases hg:∃ fr',SelGoes cc v' n.fr fr'
      · obtain ⟨fr',hg⟩:=hg
        have hfr':FrameOk P F fr':=by
          rcases hg with ⟨_,_,_,_,_,_,_,e⟩|⟨_,e⟩ <;> (rw [e];exact n.ok.finish _)
        obtain ⟨_,_,_,_,⟨rfl,rfl,rfl,rfl⟩,hne⟩:=hd (fun k a b c=>k=n.m/\a=fr'/\b=n.A/\c=w') (.inl ⟨fr',n.A,w',.inr ⟨rfl,cc,es,g1,hs,g3,g4,hg.back g2⟩,rfl,rfl,rfl,rfl⟩)
        refine .inl ⟨⟨n.m,_,n.A,_,retape v' t,hfr',n.oks,g2.retape t,hne⟩,1,h2,rfl,by omega,fun t' ht'=>?_⟩
        obtain ⟨es',he⟩:=h4 t' ht' (C.low n.m ++ [sent F])
        simp only [runN,Macros.all,lone_sel_goes he hs hg]
        rfl
      · obtain ⟨es',he⟩:=h4 t (Agree.refl _ _) (C.low n.m ++ [sent F])
        obtain ⟨o,y,hend⟩:=lone_sel_ended he hs (fun c cap s r buf cl tm hc=>(g2.retape t).empty hc) (fun ⟨fr',h⟩=>hg ⟨fr',h⟩)
        exact .inr (lost_ended hend).dead
    | _ :: _ :: _,h3=>simp at h3
  · obtain ⟨w',es,g1,g2,g3,g4⟩:=h4 (C.hand n.m == 0) (C.cs n.m)
    by_cases hp:C.Pre n.m f args kind a n.A w'
    · obtain ⟨m',fr',A',u,hm,hne⟩:=hd (C.M n.m f args kind a n.A w') (.inr (.inl ⟨f,args,kind,a,w',es,hsp,hk,g1,g3,g4,hp,fun _ _ _ _ hm=>hm⟩))
      rcases hM.go n.m f args kind a n.A w' (retape v' t) m' fr' A' u hsp hk ha n.oks (g2.retape t) hp hm with hdead|⟨k1,k2,t₂,v₂,k,e1,e2,e3,e4⟩
      · refine ⟨t,h1,.inr ?_⟩
        obtain ⟨es',he⟩:=h3 t (Agree.refl _ _) (C.low n.m ++ [sent F])
        refine dead_next (Go.Conc.step_solo_go rfl he) hdead fun fr' v'' e=>?_
        have:=congrArg (fun m=>(m.gs.getD 0 default).callers.length) e
        simp [solo,G] at this
      have e1':Agree t₂ t v'.drawn:=e1
      refine ⟨t₂,(e1'.mono h2).trans h1 (Nat.le_refl _),.inl ⟨⟨m',fr',A',u,retape v₂ t₂,k1,k2,e3.retape t₂,hne⟩,k+1,Nat.le_trans h2 e2,rfl,by omega,fun t' ht'=>?_⟩⟩
      obtain ⟨es',he⟩:=h3 t' ((ht'.mono e2).trans e1' (Nat.le_refl _)) (C.low n.m ++ [sent F])
      have:=e4 t' ht'
      simp only [Macros.all] at this ⊢
      simp only [runN,Go.Conc.step_solo_go rfl he]
      exact this
    · refine ⟨t,h1,.inr ?_⟩
      obtain ⟨es',he⟩:=h3 t (Agree.refl _ _) (C.low n.m ++ [sent F])
      refine dead_next (Go.Conc.step_solo_go rfl he) (hM.no n.m f args kind a n.A w' _ hsp hk (g2.retape t) hp) fun fr' v'' e=>?_
      have:=congrArg (fun m=>(m.gs.getD 0 default).callers.length) e
      simp [solo,G] at this
  · cases hlow:C.low n.m with
    | nil=>
      refine ⟨t,h1,.inr ?_⟩
      obtain ⟨es',he⟩:=h3 t (Agree.refl _ _) (sent F) []
      rw [hA0,Macros.all,hlow]
      refine (lost_over (.inr ⟨out (sent F),_,es',he,?_⟩)).dead
      rcases ho with ⟨_,y,rfl⟩|⟨ch,rfl⟩
      · rcases n.ok.kind with e|e
        · exact .inl ⟨y,by simp only [ret,e,if_true]⟩
        · exact .inr (.inr (by simp only [ret,e];rfl))
      · exact .inr (.inl ⟨ch,rfl⟩)
    | cons b B=>
      have hsh:C.all F n.m n.A=b :: (B ++ [sent F]):=by rw [Macros.all,hA0,hlow];rfl
      have hdead:Dead1 P F (solo (G (out b) (B ++ [sent F])) (retape v' t))->Dead1 P F (solo (G n.fr (C.all F n.m n.A)) (retape n.v t)):=fun hx=>by
        obtain ⟨es',he⟩:=h3 t (Agree.refl _ _) b (B ++ [sent F])
        rw [hsh]
        intro N fr' v'' hp e
        cases N with
        | zero=>omega
        | succ N=>
          simp only [runN,Go.Conc.step_solo_go rfl he] at e
          cases N with
          | zero=>
            simp only [runN,Stepped.next.injEq] at e
            have:=congrArg (fun m=>(m.gs.getD 0 default).callers.length) e
            simp [solo,G] at this
            exact hM.two n.m b B hlow this
          | succ N=>exact hx (N+1) fr' v'' (by omega) e
      rcases ho with ⟨_,y,rfl⟩|⟨ch,rfl⟩
      · cases hcs:C.cs n.m with
        | nil=>exact (hM.over n.m (by rw [hlow];simp) hcs).elim
        | cons b' rest=>
          obtain ⟨w',es,g1,g2,g3,g4⟩:=h4 (C.hand n.m == 0) b' rest
          by_cases hp:C.BackPre n.m n.fr.kind y w'
          · obtain ⟨m',fr',A',u,hm,hne⟩:=hd (C.Back n.m n.fr.kind y w') (.inr (.inr ⟨hA0,by rw [hlow];simp,b',rest,y,w',es,hcs,g1,g3,g4,hp,fun _ _ _ _ hm=>hm⟩))
            obtain ⟨k1,k2,t₂,v₂,k,e1,e2,e3,e4⟩:=hM.back n.m b B n.fr.kind y w' (retape v' t) m' fr' A' u hlow (g2.retape t) hp hm
            have e1':Agree t₂ t v'.drawn:=e1
            refine ⟨t₂,(e1'.mono h2).trans h1 (Nat.le_refl _),.inl ⟨⟨m',fr',A',u,retape v₂ t₂,k1,k2,e3.retape t₂,hne⟩,k+1,Nat.le_trans h2 e2,rfl,by omega,fun t' ht'=>?_⟩⟩
            obtain ⟨es',he⟩:=h3 t' ((ht'.mono e2).trans e1' (Nat.le_refl _)) b (B ++ [sent F])
            rw [hsh]
            simp only [runN,Go.Conc.step_solo_go rfl he]
            exact e4 t' ht'
          · exact ⟨t,h1,.inr (hdead (hM.notBack n.m b B n.fr.kind y w' _ hlow (g2.retape t) hp))⟩
      · exact ⟨t,h1,.inr (hdead (hM.stuck n.m b B ch _ hlow))⟩
def After (n m:Node S P F C Stop):Prop:=Agree m.v.tape n.v.tape n.v.drawn/\n.v.drawn<=m.v.drawn /\
  ∃ k,0<k/\∀ t',Agree t' m.v.tape m.v.drawn->runN (withFuncs P F) k (solo (G n.fr (C.all F n.m n.A)) (retape n.v t'))=.next (solo (G m.fr (C.all F m.m m.A)) (retape m.v t'))
open Classical in
noncomputable def nxt (n:Node S P F C Stop):Option (Node S P F C Stop):=if h:∃ m,After n m then some h.choose else none
theorem nxt_some {n m:Node S P F C Stop}(h:nxt n=some m):After n m:=by
  unfold nxt at h
  split at h
  · rename_i hh;cases h;exact hh.choose_spec
  · cases h
theorem nxt_none (hF:Funcs S P F)(hC:Codes P F C.Sp)(hM:MacrosOk S P F C){n:Node S P F C Stop}(h:nxt n=none):∃ t,Agree t n.v.tape n.v.drawn/\Dead1 P F (solo (G n.fr (C.all F n.m n.A)) (retape n.v t)):=by
  obtain ⟨t,h1,h2⟩:=node_next hF hC hM n
  rcases h2 with ⟨m,k,h2,h3,hk,h4⟩|h2
  · have:∃ m,After n m:=⟨m,by rw [h3];exact h1,h2,k,hk,fun t' ht'=>h4 t' (by rw [h3] at ht';exact ht')⟩
    unfold nxt at h
    rw [dif_pos this] at h
    cases h
  · exact ⟨t,h1,h2⟩
noncomputable def row (n:Node S P F C Stop):Nat->Option (Node S P F C Stop)
  | 0=>some n
  | k+1=>(row n k).bind nxt
theorem row_before {n:Node S P F C Stop}:∀ {j:Nat} {b:Node S P F C Stop},row n j=some b->∀ i,i<=j->∃ a,row n i=some a/\a.v.drawn<=b.v.drawn/\Agree b.v.tape a.v.tape a.v.drawn
  | 0,b,h,i,hi=>by
    have:i=0:=by omega
    subst this
    exact ⟨b,h,Nat.le_refl _,Agree.refl _ _⟩
  | j+1,b,h,i,hi=>by
    by_cases e:i=j+1
    · subst e;exact ⟨b,h,Nat.le_refl _,Agree.refl _ _⟩
    · obtain ⟨c,hc,hb⟩:=Option.bind_eq_some_iff.1 (show (row n j).bind nxt=some b from h)
      obtain ⟨a,h1,h2,h3⟩:=row_before hc i (by omega)
      obtain ⟨g1,g2,_⟩:=nxt_some hb
      exact ⟨a,h1,Nat.le_trans h2 g2,(g1.mono h2).trans h3 (Nat.le_refl _)⟩
theorem row_runs {n:Node S P F C Stop}:∀ {k:Nat} {m:Node S P F C Stop},row n k=some m->∃ K,k<=K/\∀ t',Agree t' m.v.tape m.v.drawn ->
    runN (withFuncs P F) K (solo (G n.fr (C.all F n.m n.A)) (retape n.v t'))=.next (solo (G m.fr (C.all F m.m m.A)) (retape m.v t'))
  | 0,m,h=>by cases h;exact ⟨0,Nat.le_refl _,fun _ _=>rfl⟩
  | k+1,m,h=>by
    obtain ⟨c,hc,hb⟩:=Option.bind_eq_some_iff.1 (show (row n k).bind nxt=some m from h)
    obtain ⟨g1,g2,k',g0,g3⟩:=nxt_some hb
    obtain ⟨K,hK,hr⟩:=row_runs hc
    refine ⟨K+k',by omega,fun t' ht'=>?_⟩
    have:=hr t' ((ht'.mono g2).trans g1 (Nat.le_refl _))
    rw [runN_add,this]
    exact g3 t' ht'
theorem reach_of_lone (hF:Funcs S P F)(hC:Codes P F C.Sp)(hM:MacrosOk S P F C){StopL:Frame->World->Prop}{m₀:C.κ}(hm₀:C.low m₀ = [])(hfr:FrameOk P F fr)(hA:∀ a ∈ A,FrameOk P F a)(hl:Like S w v)
    (hcon:∀ t,Agree t v.tape v.drawn->∃ n fr' v',runN (withFuncs P F) n (solo (G fr (A ++ [sent F])) (retape v t))=.next (solo (G fr' [sent F]) v')/\StopL fr' v')
    (hlast:∀ fr' v',StopL fr' v'->Lost P F (solo (G fr' [sent F]) v'))
    (hstop:∀ m fr' w' v',C.low m = []->FrameOk P F fr'->StopL fr' v'->Like S w' v'->Stop m fr' w'):Reach S P C Stop m₀ fr A w:=by
  refine Classical.byContradiction fun hnr=>?_
  let n₀:Node S P F C Stop:=⟨m₀,fr,A,w,v,hfr,hA,hl,hnr⟩
  have hall₀:C.all F m₀ A=A ++ [sent F]:=by rw [Macros.all,hm₀];rfl
  have hno:∀ k (m:Node S P F C Stop),row n₀ k=some m->∃ K,k<=K/\∀ t',Agree t' m.v.tape m.v.drawn->runN (withFuncs P F) K (solo (G fr (A ++ [sent F])) (retape v t'))=.next (solo (G m.fr (C.all F m.m m.A)) (retape m.v t')) /\
      ∀ N,N<=K->∀ fr' v',runN (withFuncs P F) N (solo (G fr (A ++ [sent F])) (retape v t'))=.next (solo (G fr' [sent F]) v')->StopL fr' v'->False:=by
    intro k m hm
    obtain ⟨K,hK,hrun⟩:=row_runs hm
    rw [show n₀.fr=fr from rfl,show n₀.A=A from rfl,show n₀.m=m₀ from rfl,show n₀.v=v from rfl,hall₀] at hrun
    refine ⟨K,hK,fun t' ht'=>⟨hrun t' ht',fun N hN fr' v' hr hs=>?_⟩⟩
    have hrun:=hrun t' ht'
    have hKN:K=N+(K - N):=by omega
    rw [hKN,runN_add,hr] at hrun
    by_cases e0:K - N=0
    · rw [e0] at hrun
      have hrun:Stepped.next _=Stepped.next _:=hrun
      simp only [Stepped.next.injEq] at hrun
      have h1:=congrArg (fun m:Machine=>(m.gs.getD 0 default)) hrun
      have h2:v'=retape m.v t':=congrArg (fun m:Machine=>m.world) hrun
      simp only [solo,G] at h1
      have h3:fr'=m.fr:=congrArg (·.frame) h1
      have h4 : [sent F] = m.A++(C.low m.m ++ [sent F]):=congrArg (·.callers) h1
      have h6:m.A = []/\C.low m.m = []:=by simpa [← List.append_assoc] using h4.symm
      obtain ⟨h5,h6⟩:=h6
      refine m.never ?_
      rw [h5]
      refine .stop h6 (hstop _ _ _ v' h6 m.ok (h3 ▸ hs) ?_)
      rw [h2]
      exact m.like.retape t'
    · exact hlast _ _ hs (K - N) m.fr (m.A++C.low m.m) (retape m.v t') (by omega) (by rw [List.append_assoc];exact hrun)
  by_cases hd:∃ k m,row n₀ k=some m/\nxt m=none
  · obtain ⟨k,m,hm,hn⟩:=hd
    obtain ⟨t,h1,h2⟩:=nxt_none hF hC hM hn
    obtain ⟨a,ha,ha2,ha3⟩:=row_before hm 0 (Nat.zero_le _)
    cases ha
    obtain ⟨N,fr',v',hr,hs⟩:=hcon t ((h1.mono ha2).trans ha3 (Nat.le_refl _))
    obtain ⟨K,_,hK⟩:=hno k m hm
    obtain ⟨hK,hb⟩:=hK t h1
    by_cases hN:N<=K
    · exact hb N hN fr' v' hr hs
    · have e:N=K+(N - K):=by omega
      rw [e,runN_add,hK] at hr
      exact h2 _ fr' v' (by omega) hr
  · have hall:∀ k,∃ m,row n₀ k=some m:=by
      intro k
      induction k with
      | zero=>exact ⟨n₀,rfl⟩
      | succ k ih=>
        obtain ⟨m,hm⟩:=ih
        cases hn:nxt m with
        | none=>exact (hd ⟨k,m,hm,hn⟩).elim
        | some m'=>exact ⟨m',by show (row n₀ k).bind nxt=some m';rw [hm];exact hn⟩
    have hT:∃ T:Nat->Question->Nat,∀ k m,row n₀ k=some m->Agree T m.v.tape m.v.drawn:=by
      have pick:∀ j,∃ q:Question->Nat,∀ k m,row n₀ k=some m->j<m.v.drawn->q=m.v.tape j:=by
        intro j
        by_cases hj:∃ k m,row n₀ k=some m/\j<m.v.drawn
        · obtain ⟨k,m,hm,hjm⟩:=hj
          refine ⟨m.v.tape j,fun k' m' hm' hjm'=>?_⟩
          by_cases hk:k<=k'
          · obtain ⟨a,ha,_,h4⟩:=row_before hm' k hk
            rw [hm] at ha;cases ha
            exact (h4 j hjm).symm
          · obtain ⟨a,ha,_,h4⟩:=row_before hm k' (by omega)
            rw [hm'] at ha;cases ha
            exact h4 j hjm'
        · exact ⟨fun _=>0,fun k m hm hjm=>(hj ⟨k,m,hm,hjm⟩).elim⟩
      exact ⟨fun j=>(pick j).choose,fun k m hm j hj=>(pick j).choose_spec k m hm hj⟩
    obtain ⟨T,hT⟩:=hT
    obtain ⟨N,fr',v',hr,hs⟩:=hcon T (hT 0 n₀ rfl)
    obtain ⟨m,hm⟩:=hall N
    obtain ⟨K,hNK,hK⟩:=hno N m hm
    exact (hK T (hT N m hm)).2 N hNK fr' v' hr hs
end
end
end Go.Tame
namespace Go.Tame
open Go.Conc
section
open Go.ConcN (sumTo upd sumTo_upd upd_ne upd_same)
structure Tr (Still Near:Nat->Loc->Prop) (Gone:Loc->Prop) (K:Nat->Prop) (t:Trace):Prop where
  clean:∀ said,¬ Race said t
  known:∀ i a,touchAt t i=some a->a.loc.isMemory=true->K i∨(a.write=false/\∃ g,Still g a.loc/\t.g? i=some g)∨(Gone a.loc/\a.kind=.atomic/\¬ t.heard i)
  wrote:∀ i a,touchAt t i=some a->∀ g,(a.write=true/\Still g a.loc)∨(a.kind=.plain/\Near g a.loc)->Knows t g i
section trace
variable {Still Near:Nat->Loc->Prop}{Gone:Loc->Prop}{K K':Nat->Prop}{t u:Trace}{h g:Nat}
theorem touch_old {i:Nat}{x:MemOp}{a:Touch}(hx:t[i]? = some x)(ha:x.act.touch? = some a):touchAt t i=some a:=by rw [touchAt_of hx];exact ha
theorem heard_app {i:Nat}(u:Trace)(hi:i<t.size):(t++u).heard i ↔ t.heard i:=by
  unfold Trace.heard
  rw [g?_old hi]
  constructor
  · rintro ⟨g,h1,h2⟩;exact ⟨g,h1,by rw [deaf_old (Nat.le_of_lt hi)] at h2;exact h2⟩
  · rintro ⟨g,h1,h2⟩;exact ⟨g,h1,by rw [deaf_old (Nat.le_of_lt hi)];exact h2⟩
theorem Tr.old (H:Tr Still Near Gone K t)(hK:∀ i,K i->K' i){i:Nat}{a:Touch}{x:MemOp}(hx':t[i]? = some x)(hxa:x.act.touch? = some a)(hm:a.loc.isMemory=true) :
    K' i∨(a.write=false/\∃ g,Still g a.loc/\(t++u).g? i=some g)∨(Gone a.loc/\a.kind=.atomic/\¬ (t++u).heard i):=by
  have hi:=lt_size_of_getElem? hx'
  rcases H.known i a (touch_old hx' hxa) hm with h|⟨h,g,h1,h2⟩|⟨h1,h2,h3⟩
  · exact .inl (hK i h)
  · exact .inr (.inl ⟨h,g,h1,by rw [g?_old hi];exact h2⟩)
  · exact .inr (.inr ⟨h1,h2,by rw [heard_app u hi];exact h3⟩)
theorem Tr.work (H:Tr Still Near Gone (Knows t h) t)(hu:∀ op ∈ u,op.g=h)(hw:∀ op ∈ u,∀ b,op.act.touch? = some b->(b.write=true->∀ g,¬ Still g b.loc)/\¬ Gone b.loc)(hN:∀ g l,Near g l->Gone l):Tr Still Near Gone (Knows (t++u) h) (t++u):=by
  refine ⟨fun said=>noRace_append (H.clean said) hu fun i a ha op hop b hb hc=>?_,fun i a ha hm=>?_,fun i a ha g hS=>?_⟩
  · rcases H.known i a ha hc.2.1 with hk|⟨hr,g,hS,_⟩|⟨hg,_⟩
    · exact hk
    · rcases hc.2.2.1 with x|x
      · rw [hr] at x;cases x
      · exact absurd (hc.1 ▸ hS) ((hw op hop b hb).1 x g)
    · exact absurd (hc.1 ▸ hg) (hw op hop b hb).2
  · obtain ⟨x,hx,hxa⟩:=touch_of ha
    rcases getElem?_append_cases hx with ⟨_,hx'⟩|⟨_,hxu⟩
    · exact H.old (fun i=>Knows.app u) hx' hxa hm
    · have:=knows_own hx
      rw [hu x hxu] at this
      exact .inl this
  · obtain ⟨x,hx,hxa⟩:=touch_of ha
    rcases getElem?_append_cases hx with ⟨_,hx'⟩|⟨_,hxu⟩
    · exact (H.wrote i a (touch_old hx' hxa) g hS).app u
    · rcases hS with ⟨hwr,hS⟩|⟨_,hS⟩
      · exact absurd hS ((hw x hxu a hxa).1 hwr g)
      · exact absurd (hN g _ hS) (hw x hxu a hxa).2
theorem Tr.read (H:Tr Still Near Gone (Knows t h) t)(hu:∀ op ∈ u,op.g=g)(hr:∀ op ∈ u,∀ b,op.act.touch? = some b->b.write=false/\Still g b.loc)(hN:∀ g g' l,Near g l->¬ Still g' l):Tr Still Near Gone (Knows (t++u) h) (t++u):=by
  refine ⟨fun said=>noRace_append (H.clean said) hu fun i a ha op hop b hb hc=>?_,fun i a ha hm=>?_,fun i a ha g' hS=>?_⟩
  · obtain ⟨hb0,hbS⟩:=hr op hop b hb
    rcases hc.2.2.1 with x|x
    · exact H.wrote i a ha g (.inl ⟨x,hc.1 ▸ hbS⟩)
    · rw [hb0] at x;cases x
  · obtain ⟨x,hx,hxa⟩:=touch_of ha
    rcases getElem?_append_cases hx with ⟨_,hx'⟩|⟨_,hxu⟩
    · exact H.old (fun i=>Knows.app u) hx' hxa hm
    · exact .inr (.inl ⟨(hr x hxu a hxa).1,g,(hr x hxu a hxa).2,by rw [g?_of hx,hu x hxu]⟩)
  · obtain ⟨x,hx,hxa⟩:=touch_of ha
    rcases getElem?_append_cases hx with ⟨_,hx'⟩|⟨_,hxu⟩
    · exact (H.wrote i a (touch_old hx' hxa) g' hS).app u
    · rcases hS with ⟨hwr,_⟩|⟨_,hS⟩
      · rw [(hr x hxu a hxa).1] at hwr;cases hwr
      · exact absurd (hr x hxu a hxa).2 (hN _ _ _ hS)
theorem Tr.mute (H:Tr Still Near Gone (Knows t h) t)(hn:∀ op ∈ u,op.act.touch? = none):Tr Still Near Gone (Knows (t++u) h) (t++u):=by
  refine ⟨fun said=>noRace_appendMute (H.clean said) hn,fun i a ha hm=>?_,fun i a ha g' hS=>?_⟩
  · obtain ⟨x,hx,hxa⟩:=touch_of ha
    rcases getElem?_append_cases hx with ⟨_,hx'⟩|⟨_,hxu⟩
    · exact H.old (fun i=>Knows.app u) hx' hxa hm
    · rw [hn x hxu] at hxa;cases hxa
  · obtain ⟨x,hx,hxa⟩:=touch_of ha
    rcases getElem?_append_cases hx with ⟨_,hx'⟩|⟨_,hxu⟩
    · exact (H.wrote i a (touch_old hx' hxa) g' hS).app u
    · rw [hn x hxu] at hxa;cases hxa
end trace
structure Chair where
  seat:Seat
  cells:List (Addr × Value)
  near:Addr->Prop
  B:Nat
def Chair.still (c:Chair) (a:Addr):Prop:=∃ x,(a,x) ∈ c.cells
def Chair.K (c:Chair) (w:World):Prop:=∀ a x,(a,x) ∈ c.cells->w.cell? a=some x
def Chair.loc (c:Chair) (l:Loc):Prop:=∃ a,l=.cell a/\c.still a
def stillOf (In:Nat->Option Chair) (j:Nat) (l:Loc):Prop:=∃ c,In j=some c/\c.loc l
def nearOf (In:Nat->Option Chair) (j:Nat) (l:Loc):Prop:=∃ c a,In j=some c/\l=.cell a/\c.near a
def goneOf (S:Prot) (l:Loc):Prop:=∃ a,l=.cell a/\S.gone a
theorem Chair.K.at {c:Chair}{w:World}(h:c.K w)(d:Nat):c.K (w.at d):=fun a x ha=>h a x ha
theorem Chair.K.kept {S:Prot}{c:Chair}{w w':World}(h:c.K w)(k:Kept S w w')(hs:∀ a,c.still a->S.keep a):c.K w':=fun a x ha=>(k.still a (.inl (hs a ⟨x,ha⟩))).trans (h a x ha)
def DQ (Still:Loc->Prop) (B:Nat) (w w':World) (es:Array Event):Prop:=(∃ d,w'=w.at d)/\∀ e ∈ es,EvC Still B e
def Seated (P:Program) (main:Bool) (K:World->Prop) (Still:Loc->Prop) (B:Nat) (s:Seat) (n:Nat) (g:Goroutine):Prop:=
  (∃ k w,n=k+1/\Goes P main (RK K) (DQ Still B) (fun g _=>∃ g₂,AtIn P main K Still B s g g₂) k g w)∨(n=0/\∃ g₀ g₂,g=parked g₂ s.cases s.shape/\AtIn P main K Still B s g₀ g₂)
theorem Seated.status {P:Program}{K:World->Prop}{Still:Loc->Prop}{B:Nat}{main:Bool}{s:Seat}{n:Nat}{g:Goroutine}{w:World}(hK:K w)(h:Seated P main K Still B s n g):(g.status=.running/\0<n)∨(g.status=.blocked/\n=0):=by
  rcases h with ⟨k,w₀,rfl,hg⟩|⟨rfl,_,g₂,rfl,_⟩
  · refine .inl ⟨?_,by omega⟩
    cases k with
    | zero=>exact (hg w hK).choose_spec.1
    | succ k=>exact hg.elim (fun x=>(x w hK).choose_spec.1) (·.1)
  · exact .inr ⟨rfl,rfl⟩
theorem Seated.again {P:Program}{K:World->Prop}{Still:Loc->Prop}{B:Nat}{main:Bool}{s:Seat}{n:Nat}{g:Goroutine}{w:World}(hK:K w)(h:Seated P main K Still B s n g)(hwf:s.Wf)(hc:∀ c,s.has c->∃ cap buf a b tm,w.heap[c]? = some (.chan cap buf false a b tm)):g.again w=g:=by
  rcases h with ⟨k,w₀,rfl,hg⟩|⟨rfl,_,g₂,rfl,_⟩
  · exact again_of_running (.inl ((Seated.status hK (.inl ⟨k,w₀,rfl,hg⟩)).elim (·.1) (fun x=>by omega))) w
  · refine again_all_open fun cc hcc=>?_
    obtain ⟨c,z,rfl⟩:=hwf.recvs cc hcc
    obtain ⟨cap,buf,a,b,tm,h⟩:=hc c (Seat.has_of_mem hcc)
    exact ⟨c,z,cap,buf,a,b,tm,rfl,h⟩
def Waits (P:Program) (q d:Nat) (g:Goroutine) (j:Nat):Option Chair->Prop
  | none=>j≠0/\QuitsD P q d g
  | some c=>Seated P (j == 0) c.K c.loc c.B c.seat q g
structure House (P:Program) (S:Prot) (In:Nat->Option Chair) (h:Nat) (T:Trace) (gs:Array Goroutine) (w:World) (q:Nat->Nat):Prop where
  waits:∀ j g,j≠h->gs[j]? = some g->Waits P (q j) (Deaf T j) g j (In j)
  wf:∀ j c,In j=some c->c.seat.Wf
  chans:∀ j c x,In j=some c->c.seat.has x->∃ (cap:Nat) (k:Nat × Nat),w.heap[x]? = some (.chan cap #[] false k.1 k.2 false)
  keep:∀ j c,In j=some c->c.K w
  prot:∀ j c a,In j=some c->c.still a->S.keep a
  nearGone:∀ j c a,In j=some c->c.near a->S.gone a
  apart:∀ a,S.gone a->¬ S.keep a
  none:In h=none
  tr:Tr (stillOf In) (nearOf In) (goneOf S) (Knows T h) T
  hears:Deaf T h=0
  hear:∀ j c,In j=some c->Deaf T j=0
  new:∀ j,gs.size<=j->Deaf T j=0
  bound:∀ j c,In j=some c->j<gs.size
theorem near_gone {S:Prot}{In:Nat->Option Chair}(h:∀ j c a,In j=some c->c.near a->S.gone a):∀ g l,nearOf In g l->goneOf S l:=fun g _ ⟨c,a,hc,e,hn⟩=>⟨a,e,h g c a hc hn⟩
theorem near_still {S:Prot}{In:Nat->Option Chair}(h:∀ j c a,In j=some c->c.near a->S.gone a)(hk:∀ j c a,In j=some c->c.still a->S.keep a)(ha:∀ a,S.gone a->¬ S.keep a):∀ g g' l,nearOf In g l->¬ stillOf In g' l:=by
  rintro g g' _ ⟨c,a,hc,rfl,hn⟩ ⟨c',hc',x,e,hs⟩
  cases e
  exact ha a (h g c a hc hn) (hk g' c' a hc' hs)
section
variable {P:Program}{S:Prot}{In:Nat->Option Chair}{h:Nat}{T:Trace}{gs:Array Goroutine}{w:World}{q:Nat->Nat}
theorem House.at (C:House P S In h T gs w q)(d:Nat):House P S In h T gs (w.at d) q:=
  ⟨C.waits,C.wf,C.chans,fun j c e=>(C.keep j c e).at d,C.prot,C.nearGone,C.apart,C.none,C.tr,C.hears,C.hear,C.new,C.bound⟩
theorem House.fixed (C:House P S In h T gs w q){x:Nat}{y:Goroutine}(hx:x≠h)(hy:gs[x]? = some y):y.again w=y:=by
  have hw:=C.waits x y hx hy
  cases e:In x with
  | none=>rw [e] at hw;exact again_running w hw.2.status
  | some c=>
    rw [e] at hw
    exact Seated.again (C.keep x c e) hw (C.wf x c e) fun cc hcc=>by obtain ⟨cap,k,hk⟩:=C.chans x c cc e hcc;exact ⟨_,_,_,_,_,hk⟩
theorem House.noSend (C:House P S In h T gs w q){x:Nat}{y:Goroutine}(hx:x≠h)(hy:gs[x]? = some y)(c:Nat):offersAt y c true = []:=by
  have hw:=C.waits x y hx hy
  cases e:In x with
  | none=>rw [e] at hw;exact offersAt_of_not_blocked (fun hb=>by rcases hw.2.status with z|z <;> (rw [z] at hb;cases hb)) c true
  | some s=>
    rw [e] at hw
    rcases hw with ⟨k,w₀,hq,hg⟩|⟨_,_,g₂,rfl,_⟩
    · have:=(Seated.status (C.keep x s e) (.inl ⟨k,w₀,hq,hg⟩)).elim (·.1) (fun z=>by omega)
      exact offersAt_of_not_blocked (fun hb=>by rw [this] at hb;cases hb) c true
    · exact offersAt_parked_sends (fun cc hcc=>by obtain ⟨c',z',rfl⟩:=(C.wf x s e).recvs cc hcc;rfl) _
theorem House.awake (C:House P S In h T gs w q){a:Goroutine}(ha:gs[h]? = some a)(hs:a.status=.running):∀ g ∈ gs,Conc.awake g:=by
  intro g hg
  obtain ⟨i,hi,rfl⟩:=Array.mem_iff_getElem.1 hg
  by_cases e:i=h
  · subst e
    have:gs[i] = a:=by simpa [Array.getElem?_eq_getElem hi] using ha
    rw [this];exact awake_of (.inl hs)
  · have hid:=C.waits i _ e (Array.getElem?_eq_getElem hi)
    cases es:In i with
    | none=>rw [es] at hid;exact awake_of (hid.2.status.elim .inl fun x=>.inr (.inr x))
    | some s=>rw [es] at hid;exact awake_of ((Seated.status (C.keep i s es) hid).elim (fun x=>.inl x.1) fun x=>.inr (.inl x.1))
theorem read_ops {c:Chair}{i:Nat}{fn:FuncId}{pos:String}{es:Array Event}(he:∀ e ∈ es,EvC c.loc c.B e) :
    (∀ op ∈ MemOp.ofEvents i fn pos es,op.g=i)/\(∀ op ∈ MemOp.ofEvents i fn pos es,∀ b,op.act.touch? = some b->b.write=false/\c.loc b.loc)/\∀ t:Trace,Deaf (t++MemOp.ofEvents i fn pos es) i=Deaf t i:=by
  obtain ⟨a,b,_,d⟩:=evC_ops (i:=i) (fn:=fn) (pos:=pos) he
  exact ⟨a,b,d⟩
theorem House.put (C:House P S In h T gs w q){i n':Nat}{g':Goroutine}{ops:Trace}{gs':Array Goroutine}{c:Chair}(hne:i≠h)(hc:In i=some c)(hsz:gs'.size=gs.size)(hother:∀ x,x≠i->gs'[x]? = gs[x]?)(hself:gs'[i]? = some g')
    (hops:∀ op ∈ ops,op.g=i) (hr:∀ op ∈ ops,∀ b,op.act.touch? = some b->b.write=false/\c.loc b.loc) (hd:∀ t:Trace,Deaf (t++ops) i=Deaf t i) (hs:Seated P (i == 0) c.K c.loc c.B c.seat n' g'):House P S In h (T++ops) gs' w (upd q i n'):=by
  have hdeaf:∀ j,Deaf (T++ops) j=Deaf T j:=fun j=>by
    by_cases e:j=i
    · subst e;rw [hd]
    · rw [Deaf_other T (fun z=>e z.symm) ops hops]
  refine ⟨fun x y hx hy=>?_,C.wf,C.chans,C.keep,C.prot,C.nearGone,C.apart,C.none,C.tr.read (g:=i) hops (fun op hop b hb=>⟨(hr op hop b hb).1,c,hc,(hr op hop b hb).2⟩) (near_still C.nearGone C.prot C.apart),(hdeaf h).trans C.hears,fun j c e=>(hdeaf j).trans (C.hear j c e),fun j hj=>(hdeaf j).trans (C.new j (by rw [← hsz];exact hj)),fun j c e=>by rw [hsz];exact C.bound j c e⟩
  rw [hdeaf]
  by_cases e:x=i
  · subst e
    rw [hself] at hy
    obtain rfl:=Option.some.inj hy
    rw [hc,upd_same]
    exact hs
  · rw [hother x e] at hy
    rw [upd_ne q n' e]
    exact C.waits x y hx hy
theorem House.putLeaver (C:House P S In h T gs w q){i n':Nat}{g':Goroutine}{ops:Trace}{gs':Array Goroutine}(hne:i≠h)(h0:i≠0)(hc:In i=Option.none)(hsz:gs'.size=gs.size)(hother:∀ x,x≠i->gs'[x]? = gs[x]?)(hself:gs'[i]? = some g')(hi:i<gs.size)
    (hops:∀ op ∈ ops,op.g=i) (hn:∀ op ∈ ops,op.act.touch? = Option.none) (hs:QuitsD P n' (Deaf (T++ops) i) g'):House P S In h (T++ops) gs' w (upd q i n'):=by
  have hdeaf:∀ j,j≠i->Deaf (T++ops) j=Deaf T j:=fun j e=>Deaf_other T (fun z=>e z.symm) ops hops
  refine ⟨fun x y hx hy=>?_,C.wf,C.chans,C.keep,C.prot,C.nearGone,C.apart,C.none,C.tr.mute hn,(hdeaf h (fun z=>hne z.symm)).trans C.hears,fun j c e=>(hdeaf j (fun z=>by rw [z,hc] at e;cases e)).trans (C.hear j c e),fun j hj=>(hdeaf j (fun z=>by omega)).trans (C.new j (by omega)),fun j c e=>by rw [hsz];exact C.bound j c e⟩
  by_cases e:x=i
  · subst e
    rw [hself] at hy
    obtain rfl:=Option.some.inj hy
    rw [hc,upd_same]
    exact ⟨h0,hs⟩
  · rw [hother x e] at hy
    rw [upd_ne q n' e,hdeaf x e]
    exact C.waits x y hx hy
theorem House.by_step' (C:House P S In h T gs w q){i:Nat}{g:Goroutine}{sl:Option (Nat × Nat)}(hi:gs[i]? = some g)(hne:i≠h)(hrun:g.status=.running){a:Goroutine}(ha:gs[h]? = some a)(har:∀ d,a.again (w.at d)=a)
    (hoff:∀ s g₂,In i=some s->AtIn P (i == 0) s.K s.loc s.B s.seat g g₂->∀ c,s.seat.has c->offersAt a c true = []) :
    ∃ gs' ops q' d,runT P (crowd gs w sl) i=(.next (crowd gs' (w.at d) sl),ops)/\gs'.size=gs.size/\gs'[h]? = some a/\House P S In h (T++ops) gs' (w.at d) q'/\sumTo gs.size q'<sumTo gs.size q/\(∀ x,x≠i->q' x=q x) /\
      (∀ s,In i=some s->q' i=0->∃ g₂,AtIn P (i == 0) s.K s.loc s.B s.seat g g₂):=by
  have hlt:i<gs.size:=(Array.getElem?_eq_some_iff.1 hi).1
  have hfix:∀ (d:Nat) (x x':Goroutine) (k:Nat) (y:Goroutine),gs[k]? = some y->woken P x x' (w.at d) y=y:=fun d x x' k y hy=>woken_of_again (by
    by_cases hk:k=h
    · subst hk;rw [ha] at hy;obtain rfl:=Option.some.inj hy;exact har d
    · exact (C.at d).fixed hk hy)
  have harr:∀ (d:Nat) (x g':Goroutine) (k:Nat),k≠i->((gs.map (woken P g x (w.at d))).setIfInBounds i g')[k]? = gs[k]?:=by
    intro d x g' k hk
    rw [Array.getElem?_setIfInBounds_ne (fun e=>hk e.symm),Array.getElem?_map]
    cases e:gs[k]? with
    | none=>rfl
    | some y=>simp [hfix d g x k y e]
  have hself:∀ (d:Nat) (x g':Goroutine),((gs.map (woken P g x (w.at d))).setIfInBounds i g')[i]? = some g':=fun d x g'=>Array.getElem?_setIfInBounds_self_of_lt (by simpa using hlt)
  have hw:=C.waits i g hne hi
  cases e:In i with
  | none=>
    rw [e] at hw
    obtain ⟨h0,hw⟩:=hw
    cases hq:q i with
    | zero=>rw [hq] at hw;rw [show g.status=.finished from hw.1] at hrun;cases hrun
    | succ k=>
      rw [hq] at hw
      rcases hw with ⟨hf,_⟩|⟨_,g',es,hm,hst,hQ⟩
      · rw [hf] at hrun;cases hrun
      · have h00:(i == 0)=false:=beq_eq_false_iff_ne.2 h0
        have hgo:stepG P (i == 0) g w=.go g' (w.at w.drawn) es:=by rw [h00];exact hst w
        refine ⟨_,_,upd q i k,w.drawn,runT_crowd_go (sl:=sl) hi hgo,by simp,by rw [harr w.drawn _ _ h (fun z=>hne z.symm)];exact ha,C.putLeaver hne h0 e (by simp) (harr w.drawn _ _) (hself w.drawn _ _) hlt (fun op hop=>by obtain ⟨e,_,rfl⟩:=Go.Conc.mem_ofEvents hop;rfl) (fun op hop=>?_) (by rw [Deaf_own];exact hQ),?_⟩
        · obtain ⟨ev,hev,rfl⟩:=Go.Conc.mem_ofEvents hop
          exact touch_mute (hm ev hev)
        · refine ⟨?_,fun x hx=>upd_ne q k hx,fun s hs _=>by cases hs⟩
          have h2:sumTo gs.size (upd q i k)+(k+1)=sumTo gs.size q+k:=by
            have:=sumTo_upd q k id hlt
            simpa [hq] using this
          omega
  | some s=>
    rw [e] at hw
    obtain ⟨k,w₀,hqi,hg⟩:∃ k w₀,q i=k+1/\Goes P (i == 0) (RK s.K) (DQ s.loc s.B) (fun g _=>∃ g₂,AtIn P (i == 0) s.K s.loc s.B s.seat g g₂) k g w₀:=by
      rcases hw with h|⟨_,_,g₂,rfl,_⟩
      · exact h
      · cases hrun
    have hK:=C.keep i s e
    have hcase:(∃ g₂,AtIn P (i == 0) s.K s.loc s.B s.seat g g₂)∨∃ k' g' es d,k=k'+1/\stepG P (i == 0) g w=.go g' (w.at d) es/\(∀ e ∈ es,EvC s.loc s.B e)/\Goes P (i == 0) (RK s.K) (DQ s.loc s.B) (fun g _=>∃ g₂,AtIn P (i == 0) s.K s.loc s.B s.seat g g₂) k' g' (w.at d):=by
      cases k with
      | zero=>exact .inl (hg w hK)
      | succ k'=>
        rcases hg with hstop|⟨_,hstep⟩
        · exact .inl (hstop w hK)
        · have hs:=hstep w hK
          cases hgo:stepG P (i == 0) g w with
          | go g' w' es=>
            rw [hgo,goes_go] at hs
            obtain ⟨⟨⟨d,rfl⟩,hes⟩,hG'⟩:=hs
            exact .inr ⟨k',g',es,d,rfl,rfl,hes,hG'⟩
          | _=>rw [hgo] at hs;exact hs.elim
    have hsum:∀ m,m<k+1->sumTo gs.size (upd q i m)<sumTo gs.size q:=by
      intro m hm
      have h2:sumTo gs.size (upd q i m)+(k+1)=sumTo gs.size q+m:=by
        have:=sumTo_upd q m id hlt
        simpa [hqi] using this
      omega
    rcases hcase with ⟨g₂,hat⟩|⟨k',g',es,d,rfl,hgo,hes,hG'⟩
    · obtain ⟨_,_,_,_,_,es,hes,hstp⟩:=id hat
      obtain ⟨hops,hr,hd⟩:=read_ops (i:=i) (fn:=g.frame.fn) (pos:=g.frame.place) hes
      have hno:∀ cc ∈ s.seat.cases,NoWays w (gs.setIfInBounds i ph) cc:=by
        intro cc hcc
        obtain ⟨c,z,rfl⟩:=(C.wf i s e).recvs cc hcc
        obtain ⟨cap,kk,hc⟩:=C.chans i s c e (Seat.has_of_mem hcc)
        refine ways_recv_none hc (partners_nil fun x y hy=>?_)
        rcases getElem?_stand gs i x y hy with ⟨_,rfl⟩|⟨hx,hy'⟩
        · exact offersAt_ph _ _
        · by_cases hh:x=h
          · subst hh;rw [ha] at hy';obtain rfl:=Option.some.inj hy';exact hoff s g₂ e hat c (Seat.has_of_mem hcc)
          · exact C.noSend hh hy' _
      refine ⟨_,_,upd q i 0,w.drawn,crowd_waits (sl:=sl) hi (hstp w hK) hno,by simp,by rw [Array.getElem?_setIfInBounds_ne hne];exact ha,C.put hne e (by simp) (fun x hx=>Array.getElem?_setIfInBounds_ne (fun z=>hx z.symm)) (Array.getElem?_setIfInBounds_self_of_lt hlt) hops hr hd (.inr ⟨rfl,g,g₂,rfl,hat⟩),hsum 0 (by omega),fun x hx=>upd_ne q 0 hx,fun s' hs' _=>by obtain rfl:=Option.some.inj hs';exact ⟨g₂,hat⟩⟩
    · obtain ⟨hops,hr,hd⟩:=read_ops (i:=i) (fn:=g.frame.fn) (pos:=g.frame.place) hes
      exact ⟨_,_,upd q i (k'+1),d,runT_crowd_go (sl:=sl) hi hgo,by simp,by rw [harr d _ _ h (fun z=>hne z.symm)];exact ha,(C.at d).put hne e (by simp) (harr d _ _) (hself d _ _) hops hr hd (.inl ⟨k',w.at d,rfl,hG'⟩),hsum _ (by omega),fun x hx=>upd_ne q _ hx,fun s' _ h0=>by rw [upd_same] at h0;omega⟩
theorem House.by_step (C:House P S In h T gs w q){i:Nat}{g:Goroutine}{sl:Option (Nat × Nat)}(hi:gs[i]? = some g)(hne:i≠h)(hrun:g.status=.running){a:Goroutine}(ha:gs[h]? = some a)(har:a.status=.running) :
    ∃ gs' ops q' d,runT P (crowd gs w sl) i=(.next (crowd gs' (w.at d) sl),ops)/\gs'.size=gs.size/\gs'[h]? = some a/\House P S In h (T++ops) gs' (w.at d) q'/\sumTo gs.size q'<sumTo gs.size q:=by
  obtain ⟨gs',ops,q',d,h1,h2,h3,h4,h5,_⟩:=C.by_step' (sl:=sl) hi hne hrun ha (fun d=>again_of_running (.inl har) _) fun s g₂ _ _ c _=>offersAt_of_not_blocked (fun hb=>by rw [har] at hb;cases hb) _ _
  exact ⟨gs',ops,q',d,h1,h2,h3,h4,h5⟩
theorem good_ops {fn:FuncId}{pos:String}{es:Array Event}(C:House P S In h T gs w q)(he:∀ e ∈ es,EvGood S e) :
    (∀ op ∈ MemOp.ofEvents h fn pos es,op.g=h)/\(∀ op ∈ MemOp.ofEvents h fn pos es,∀ b,op.act.touch? = some b->(b.write=true->∀ g,¬ stillOf In g b.loc)/\¬ goneOf S b.loc)/\∀ t:Trace,Deaf (t++MemOp.ofEvents h fn pos es) h=Deaf t h:=by
  refine ⟨fun op hop=>by obtain ⟨e,_,rfl⟩:=Go.Conc.mem_ofEvents hop;rfl,fun op hop b hb=>?_,fun t=>by rw [Deaf_own];exact deafBehind_still (fun e h=>⟨(he e h).2.1,(he e h).2.2.1⟩) _⟩
  obtain ⟨e,hee,rfl⟩:=Go.Conc.mem_ofEvents hop
  obtain ⟨g1,g2,g3,g4,g5⟩:=he e hee
  obtain ⟨loc,wr,sy⟩:=e
  cases loc with
  | mark m=>
    cases m with
    | read y=>exact absurd rfl (g4 y)
    | write y=>exact absurd rfl (g5 y)
    | _=>simp [MemAct.ofEvent,MemAct.touch?] at hb
  | cell y=>
    simp only [MemAct.ofEvent,MemAct.touch?,Option.some.injEq] at hb
    subst hb
    refine ⟨fun hw g ⟨c,hc,x,hx,hS⟩=>?_,fun ⟨x,hx,hg⟩=>?_⟩
    · cases hx
      exact (g1 _ rfl).1 hw (C.prot g c _ hc hS)
    · cases hx
      exact (g1 _ rfl).2 hg
  | obj r=>
    refine ⟨fun hw g ⟨c,hc,x,hx,hS⟩=>?_,fun ⟨x,hx,hg⟩=>?_⟩
    all_goals (cases wr <;> cases sy <;> simp [MemAct.ofEvent,MemAct.touch?] at hb <;> (subst hb;cases hx))
  | output=>
    simp only [MemAct.ofEvent,MemAct.touch?,Option.some.injEq] at hb
    subst hb
    exact ⟨fun hw g ⟨c,hc,x,hx,hS⟩=>(by cases hx),fun ⟨x,hx,hg⟩=>(by cases hx)⟩
  | goroutines=>
    simp only [MemAct.ofEvent,MemAct.touch?,Option.some.injEq] at hb
    subst hb
    exact ⟨fun hw g ⟨c,hc,x,hx,hS⟩=>(by cases hx),fun ⟨x,hx,hg⟩=>(by cases hx)⟩
theorem House.work (C:House P S In h T gs w q){w':World}{ops:Trace}{gs':Array Goroutine}(hk:Kept S w w')(hsz:gs'.size=gs.size)(hother:∀ x,x≠h->gs'[x]? = gs[x]?)
    (hu:∀ op ∈ ops,op.g=h) (hw:∀ op ∈ ops,∀ b,op.act.touch? = some b->(b.write=true->∀ g,¬ stillOf In g b.loc)/\¬ goneOf S b.loc) (hd:∀ t:Trace,Deaf (t++ops) h=Deaf t h):House P S In h (T++ops) gs' w' q:=by
  have hdeaf:∀ j,Deaf (T++ops) j=Deaf T j:=fun j=>by
    by_cases e:j=h
    · subst e;rw [hd]
    · rw [Deaf_other T (fun z=>e z.symm) ops hu]
  exact ⟨fun x y hx hy=>by rw [hdeaf];exact C.waits x y hx (by rw [← hother x hx];exact hy),C.wf,fun j c x e hc=>by obtain ⟨cap,k,hx⟩:=C.chans j c x e hc;exact ⟨cap,k,hk.chan _ _ _ _ _ _ _ hx⟩,
    fun j c e=>(C.keep j c e).kept hk (fun a ha=>C.prot j c a e ha),C.prot,C.nearGone,C.apart,C.none,C.tr.work hu hw (near_gone C.nearGone),(hdeaf h).trans C.hears,fun j c e=>(hdeaf j).trans (C.hear j c e),fun j hj=>(hdeaf j).trans (C.new j (by rw [← hsz];exact hj)),fun j c e=>by rw [hsz];exact C.bound j c e⟩
def Leads (P:Program) (S:Prot) (C:Macros) (J:C.κ->World->(Nat->Option Chair)->Prop) (X:C.κ->Frame->List Frame->World->Prop) (gs:Array Goroutine) (w:World) (sl:Option (Nat × Nat)) (T:Trace):Prop:=
  ∃ (N:Nat) (gs':Array Goroutine) (m:C.κ) (fr:Frame) (A:List Frame) (w':World) (sl':Option (Nat × Nat)) (T':Trace) (q':Nat->Nat) (In':Nat->Option Chair),
    runNT P N (crowd gs w sl) T=(.next (crowd gs' w' sl'),T')/\gs'.size=gs.size/\gs'[C.hand m]? = some (G fr (A++C.cs m))/\X m fr A w'/\House P S In' (C.hand m) T' gs' w' q'/\J m w' In'
theorem Leads.trans {C:Macros}{J:C.κ->World->(Nat->Option Chair)->Prop}{X:C.κ->Frame->List Frame->World->Prop}{gs gs':Array Goroutine}{w w':World}{sl sl':Option (Nat × Nat)}{T T':Trace}{N:Nat}
    (h:runNT P N (crowd gs w sl) T=(.next (crowd gs' w' sl'),T')) (hs:gs'.size=gs.size) (hc:Leads P S C J X gs' w' sl' T'):Leads P S C J X gs w sl T:=by
  obtain ⟨K,gs₂,m,fr,A,w₂,sl₂,T₂,q₂,In₂,h1,h2,h3⟩:=hc
  exact ⟨N+K,gs₂,m,fr,A,w₂,sl₂,T₂,q₂,In₂,by rw [runNT_add,h];exact h1,h2.trans hs,h3⟩
structure MacroRuns (P:Program) (S:Prot) (C:Macros) (J:C.κ->World->(Nat->Option Chair)->Prop):Prop where
  go:∀ m f args kind a A In T gs w q sl,C.Sp f->(kind=.normal∨kind=.deferred)->House P S In (C.hand m) T gs w q->J m w In->C.Pre m f args kind a A w ->
    gs[C.hand m]? = some (G (Frame.enter P f args kind) (a :: (A++C.cs m)))->Leads P S C J (C.M m f args kind a A w) gs w sl T
  back:∀ m b rest kind y In T gs w q sl,C.low m ≠ []->C.cs m=b :: rest->House P S In (C.hand m) T gs w q->J m w In->C.BackPre m kind y w ->
    gs[C.hand m]? = some (G (ret kind b y) rest)->Leads P S C J (C.Back m kind y w) gs w sl T
theorem House.own_go {a a':Goroutine}{u:World}{es:Array Event}{sl:Option (Nat × Nat)}(C:House P S In h T gs w q)(ha:gs[h]? = some a)(h1:stepG P (h == 0) a w=.go a' u es)(h2:Kept S w u)(h3:∀ e ∈ es,EvGood S e) :
    ∃ gs' ops,runT P (crowd gs w sl) h=(.next (crowd gs' u sl),ops)/\gs'.size=gs.size/\gs'[h]? = some a'/\House P S In h (T++ops) gs' u q:=by
  have hr:=runT_crowd_go (sl:=sl) ha h1
  obtain ⟨g1,g2,g3⟩:=good_ops (fn:=a.frame.fn) (pos:=a.frame.place) C h3
  have hlt:h<gs.size:=(Array.getElem?_eq_some_iff.1 ha).1
  have hw':∀ x,x≠h->((gs.map (woken P a a' u)).setIfInBounds h a')[x]? = gs[x]?:=fun x hx=>by
    rw [Array.getElem?_setIfInBounds_ne (fun e=>hx e.symm),Array.getElem?_map]
    cases ex:gs[x]? with
    | none=>rfl
    | some y=>
      have C0:House P S In h (T++MemOp.ofEvents h a.frame.fn a.frame.place es) gs u q:=C.work h2 rfl (fun _ _=>rfl) g1 g2 g3
      simp [woken_of_again (C0.fixed hx ex)]
  exact ⟨_,_,hr,by simp,Array.getElem?_setIfInBounds_self_of_lt (by simpa using hlt),C.work h2 (by simp) hw' g1 g2 g3⟩
theorem hold {Mc:Macros}{J:Mc.κ->World->(Nat->Option Chair)->Prop}(hJ:∀ m w w' In,Kept S w w'->J m w In->J m w' In)(hJat:∀ m w In d,J m w In->J m (w.at d) In)(hMc:MacroRuns P S Mc J)
    {Stop:Mc.κ->Frame->World->Prop} (hstop:∀ m fr w d,Stop m fr w->Stop m fr (w.at d)) {m:Mc.κ} {fr:Frame} {A:List Frame} (hR:Reach S P Mc Stop m fr A w) :
    ∀ (In:Nat->Option Chair) (T:Trace) (gs:Array Goroutine) (q:Nat->Nat) (sl:Option (Nat × Nat)) (d:Nat),House P S In (Mc.hand m) T gs (w.at d) q->J m w In->gs[Mc.hand m]? = some (G fr (A++Mc.cs m)) ->
      Leads P S Mc J (fun m fr A w=>A = []/\Mc.low m = []/\Stop m fr w) gs (w.at d) sl T:=by
  induction hR with
  | @stop m fr w hm hs=>exact fun In T gs q sl d C hj ha=>⟨0,gs,m,fr,[],w.at d,sl,T,q,In,rfl,rfl,ha,⟨rfl,hm,hstop _ _ _ d hs⟩,C,hJat _ _ _ d hj⟩
  | @step m fr A w X hm _ ih=>
    intro In
    suffices key:∀ (μ:Nat) (T:Trace) (gs:Array Goroutine) (q:Nat->Nat) (sl:Option (Nat × Nat)) (d:Nat),sumTo gs.size q=μ->House P S In (Mc.hand m) T gs (w.at d) q->J m w In->gs[Mc.hand m]? = some (G fr (A++Mc.cs m)) ->
        Leads P S Mc J (fun m fr A w=>A = []/\Mc.low m = []/\Stop m fr w) gs (w.at d) sl T from
      fun T gs q sl d C hj ha=>key _ T gs q sl d rfl C hj ha
    intro μ
    induction μ using Nat.strongRecOn with
    | _ μ ihμ=>
      intro T gs q sl d hμ C hj ha
      obtain ⟨i,g,d',sl',hi,hg,hst⟩:=crowd_pick (P:=P) (w:=w.at d) (sl:=sl) (C.awake ha rfl) ⟨_,_,ha,rfl⟩
      have hat:(w.at d).at d'=w.at d':=rfl
      have Cd:House P S In (Mc.hand m) T gs (w.at d') q:=C.at d'
      have hjd:J m (w.at d') In:=hJat _ _ _ d' hj
      have stepIt:∀ {gs':Array Goroutine} {u:World} {ops:Trace},runT P (crowd gs (w.at d') sl') i=(.next (crowd gs' u sl'),ops)->runNT P 1 (crowd gs (w.at d) sl) T=(.next (crowd gs' u sl'),T++ops):=fun {gs' u ops} hr=>by
        have:stepT P (crowd gs (w.at d) sl)=(.next (crowd gs' u sl'),ops):=by rw [hst,hat];exact hr
        rw [runNT_succ_next this];rfl
      by_cases e:i=Mc.hand m
      · subst e
        rw [ha] at hi
        obtain rfl:=Option.some.inj hi
        rcases hm d' with ⟨fr₁,A₁,u₁,⟨es,h1,h2,h3⟩|⟨hB,cc,es,h1,hsend,h2,h3,h4⟩,hX⟩|⟨f,args,kind,a,u₁,es,hsp,hkd,h1,h2,h3,hpre,hX⟩|⟨hA0,hlow,b,rest,y,u₁,es,hcs,h1,h2,h3,hpre,hX⟩
        · obtain ⟨gs₁,ops,hr,hsz,hself,C'⟩:=Cd.own_go (sl:=sl') ha h1 h2 h3
          exact (ih d' m _ _ _ hX In _ gs₁ q sl' u₁.drawn C' (hJ _ _ _ _ h2 hjd) hself).trans (stepIt hr) hsz
        · obtain ⟨g1,g2,g3⟩:=good_ops (fn:=(G fr (A++Mc.cs m)).frame.fn) (pos:=(G fr (A++Mc.cs m)).frame.place) Cd h3
          have hlt:Mc.hand m<gs.size:=(Array.getElem?_eq_some_iff.1 ha).1
          have C0:House P S In (Mc.hand m) (T++MemOp.ofEvents (Mc.hand m) (G fr (A++Mc.cs m)).frame.fn (G fr (A++Mc.cs m)).frame.place es) gs u₁ q:=Cd.work h2 rfl (fun _ _=>rfl) g1 g2 g3
          have hp:∀ c,partners (gs.setIfInBounds (Mc.hand m) ph) c true = []:=fun c=>partners_nil fun x y hy=>by
            rcases getElem?_stand gs (Mc.hand m) x y hy with ⟨_,rfl⟩|⟨hx,hy'⟩
            · exact offersAt_ph _ _
            · exact C0.noSend hx hy' _
          obtain ⟨ch,snd,z⟩:=cc
          dsimp only at hsend
          subst hsend
          have hgo:∃ ex:Trace,(∀ op ∈ ex,op.g=Mc.hand m/\op.act.touch? = none/\∀ dd,deafStep (Mc.hand m) dd op=dd) /\
              runT P (crowd gs (w.at d') sl') (Mc.hand m)=(.next (crowd (gs.setIfInBounds (Mc.hand m) (G fr₁ (A++Mc.cs m))) u₁ sl'),MemOp.ofEvents (Mc.hand m) (G fr (A++Mc.cs m)).frame.fn (G fr (A++Mc.cs m)).frame.place es++ex):=by
            rcases h4 with ⟨c,cap,s',r,tm,hch,hc,hf⟩|⟨hch|⟨c,cap,s',r,tm,hch,hc⟩,hf⟩
            · dsimp only at hch
              subst hch
              refine ⟨#[{ g:=Mc.hand m,fn:=fr.fn,pos:=fr.place,act:=.recvClosed c }],fun op hop=>?_,?_⟩
              · simp only [List.mem_toArray,List.mem_cons,List.not_mem_nil,or_false] at hop
                subst hop
                exact ⟨rfl,rfl,fun _=>rfl⟩
              · rw [hf]
                exact crowd_recv_closed (z:=z) ha h1 hc (hp c)
            · dsimp only at hch
              subst hch
              refine ⟨#[],by simp,?_⟩
              rw [hf,Array.append_empty]
              exact crowd_default ha h1 (by intro cc hcc;simp only [List.mem_toArray,List.mem_cons,List.not_mem_nil,or_false] at hcc;subst hcc;exact ways_nil _)
            · dsimp only at hch
              subst hch
              refine ⟨#[],by simp,?_⟩
              rw [hf,Array.append_empty]
              exact crowd_default ha h1 (by intro cc hcc;simp only [List.mem_toArray,List.mem_cons,List.not_mem_nil,or_false] at hcc;subst hcc;exact ways_recv_none (z:=z) hc (hp c))
          obtain ⟨ex,hex,hr⟩:=hgo
          have C':House P S In (Mc.hand m) (T++(MemOp.ofEvents (Mc.hand m) (G fr (A++Mc.cs m)).frame.fn (G fr (A++Mc.cs m)).frame.place es++ex)) (gs.setIfInBounds (Mc.hand m) (G fr₁ (A++Mc.cs m))) u₁ q:=by
            refine Cd.work h2 (by simp) (fun x hx=>Array.getElem?_setIfInBounds_ne (fun z=>hx z.symm)) (fun op hop=>(Array.mem_append.1 hop).elim (g1 op) (fun x=>(hex op x).1)) (fun op hop b hb=>(Array.mem_append.1 hop).elim (fun x=>g2 op x b hb) (fun x=>by rw [(hex op x).2.1] at hb;cases hb)) (fun t=>?_)
            rw [← Array.append_assoc,Deaf_quiet (fun op hop dd=>(hex op hop).2.2 dd),g3]
          exact (ih d' m _ _ _ hX In _ _ q sl' u₁.drawn C' (hJ _ _ _ _ h2 hjd) (by rw [hB];exact Array.getElem?_setIfInBounds_self_of_lt hlt)).trans (stepIt hr) (by simp)
        · obtain ⟨gs₁,ops,hr,hsz,hself,C'⟩:=Cd.own_go (sl:=sl') ha h1 h2 h3
          obtain ⟨N₁,gs₂,m',fr',A',w₁,sl₁,T₁,q₁,In₁,m1,m2,m3,m4,m5,m6⟩:=hMc.go m f args kind a A In _ gs₁ u₁ q sl' hsp hkd C' (hJ _ _ _ _ h2 hjd) hpre hself
          exact ((ih d' _ _ _ _ (hX _ _ _ _ m4) In₁ _ _ q₁ sl₁ w₁.drawn m5 m6 m3).trans m1 m2).trans (stepIt hr) hsz
        · rw [hA0,List.nil_append,hcs] at ha
          obtain ⟨gs₁,ops,hr,hsz,hself,C'⟩:=Cd.own_go (sl:=sl') ha h1 h2 h3
          obtain ⟨N₁,gs₂,m',fr',A',w₁,sl₁,T₁,q₁,In₁,m1,m2,m3,m4,m5,m6⟩:=hMc.back m b rest fr.kind y In _ gs₁ u₁ q sl' hlow hcs C' (hJ _ _ _ _ h2 hjd) hpre hself
          exact ((ih d' _ _ _ _ (hX _ _ _ _ m4) In₁ _ _ q₁ sl₁ w₁.drawn m5 m6 m3).trans m1 m2).trans (stepIt hr) hsz
      · obtain ⟨gs₁,ops,q₁,d₂,hr,hsz,ha₁,C₁,hlt⟩:=Cd.by_step (sl:=sl') hi e hg ha rfl
        exact (ihμ (sumTo gs₁.size q₁) (by rw [hsz];omega) (T++ops) gs₁ q₁ sl' d₂ rfl C₁ hj ha₁).trans (stepIt hr) hsz
end
end
section
def forceL {α β:Type}:List α->(List α->β)->β
  | [],k=>k []
  | x :: xs,k=>forceL xs fun ys=>k (x :: ys)
def forceF {β:Type} (f:Frame) (k:Frame->β):β:=
  match f with
  | ⟨fn,tmps,todo,defers,mode,kind,ro⟩=>forceL tmps.toList fun ts=>forceL todo fun td=>forceL defers fun ds=>match mode,kind with|m,kd=>k ⟨fn,⟨ts⟩,td,ds,m,kd,ro⟩
def forceG {β:Type} (g:Goroutine) (k:Goroutine->β):β:=
  match g with
  | ⟨fr,cs,st,dy,of⟩=>forceF fr fun fr=>match st with|s=>k ⟨fr,cs,s,dy,of⟩
theorem forceL_eq {α β:Type}:∀ (l:List α) (k:List α->β),forceL l k=k l
  | [],_=>rfl
  | _ :: xs,k=>by simp only [forceL];exact forceL_eq xs _
theorem forceF_eq {β:Type}(f:Frame)(k:Frame->β):forceF f k=k f:=by
  obtain ⟨fn,tmps,todo,defers,mode,kind,ro⟩:=f
  simp only [forceF,forceL_eq]
theorem forceG_eq {β:Type}(g:Goroutine)(k:Goroutine->β):forceG g k=k g:=by
  obtain ⟨fr,cs,st,dy,of⟩:=g
  simp only [forceG,forceF_eq]
section
variable (P:Program)(main:Bool)
def fin:Nat->Goroutine->(Nat->World)->Goroutine
  | 0,g,_=>g
  | n+1,g,ws=>match stepG P main g (ws n) with | .go g' _ _=>forceG g' fun g'=>fin n g' ws|_=>g
def wls:Nat->Goroutine->(Nat->World)->List World
  | 0,_,_=>[]
  | n+1,g,ws=>match stepG P main g (ws n) with | .go g' w' _=>w' :: forceG g' fun g'=>wls n g' ws|_=>[]
def tgt:Nat->(Nat->World)->List World
  | 0,_=>[]
  | n+1,ws=>ws n :: tgt n ws
def okb (p:Event->Bool):Nat->Goroutine->(Nat->World)->Bool
  | 0,_,_=>true
  | n+1,g,ws=>match stepG P main g (ws n) with | .go g' _ es=>(match g.status with | .running=>true|_=>false) && es.toList.all p && forceG g' fun g'=>okb p n g' ws|_=>false
def dfs:Nat->Nat->Goroutine->(Nat->World)->Nat
  | 0,d,_,_=>d
  | n+1,d,g,ws=>match stepG P main g (ws n) with | .go g' _ es=>forceG g' fun g'=>dfs n (deafBehind d es) g' ws|_=>d
end
def chk (P:Program) (main:Bool) (p:Event->Bool):Nat->Nat->Goroutine->(Nat->World)->Option (List World × Nat)
  | 0,d,_,_=>some ([],d)
  | n+1,d,g,ws=>match stepG P main g (ws n) with
    | .go g' w' es=>match (match g.status with | .running=>true|_=>false) && es.toList.all p with
      | true=>forceG g' fun g'=>match chk P main p n (deafBehind d es) g' ws with
        | some (l,x)=>some (w' :: l,x)
        | none=>none
      | false=>none
    | _=>none
theorem chk_all {P:Program}{main:Bool}{p:Event->Bool}{ws:Nat->World}:∀ {n d:Nat} {g:Goroutine} {l:List World} {x:Nat},chk P main p n d g ws=some (l,x)->wls P main n g ws=l/\okb P main p n g ws=true/\dfs P main n d g ws=x
  | 0,d,g,l,x,h=>by
    simp only [chk,Option.some.injEq,Prod.mk.injEq] at h
    exact ⟨h.1,rfl,h.2⟩
  | n+1,d,g,l,x,h=>by
    simp only [chk,forceG_eq] at h
    simp only [wls,okb,dfs,forceG_eq]
    cases hs:stepG P main g (ws n) with
    | go g' w' es=>
      rw [hs] at h
      dsimp only at h ⊢
      split at h
      · rename_i hb
        cases hc:chk P main p n (deafBehind d es) g' ws with
        | none=>rw [hc] at h;cases h
        | some lx=>
          obtain ⟨l',x'⟩:=lx
          rw [hc] at h
          simp only [Option.some.injEq,Prod.mk.injEq] at h
          obtain ⟨h1,h2,h3⟩:=chk_all hc
          refine ⟨by rw [h1];exact h.1,?_,h3.trans h.2⟩
          rw [hb,h2];rfl
      · cases h
    | _=>rw [hs] at h;cases h
def next1 (n:Nat) (w:World) (ws:Nat->World):Nat->World:=fun k=>if k=n then w else ws k
section
variable {P:Program}{main:Bool}
theorem fin_next:∀ (n m:Nat) (_:n<=m) (g:Goroutine) (w:World) (ws:Nat->World),fin P main n g (next1 m w ws)=fin P main n g ws
  | 0,_,_,_,_,_=>rfl
  | n+1,m,_,g,w,ws=>by
    have e:next1 m w ws n=ws n:=by unfold next1;rw [if_neg (by omega)]
    simp only [fin,e,forceG_eq]
    cases stepG P main g (ws n) <;> first|rfl|exact fin_next n m (by omega) _ w ws
theorem wls_next:∀ (n m:Nat) (_:n<=m) (g:Goroutine) (w:World) (ws:Nat->World),wls P main n g (next1 m w ws)=wls P main n g ws
  | 0,_,_,_,_,_=>rfl
  | n+1,m,_,g,w,ws=>by
    have e:next1 m w ws n=ws n:=by unfold next1;rw [if_neg (by omega)]
    simp only [wls,e,forceG_eq]
    cases stepG P main g (ws n) <;> first|rfl|exact congrArg _ (wls_next n m (by omega) _ w ws)
theorem tgt_next:∀ (n m:Nat) (_:n<=m) (w:World) (ws:Nat->World),tgt n (next1 m w ws)=tgt n ws
  | 0,_,_,_,_=>rfl
  | n+1,m,_,w,ws=>by
    have e:next1 m w ws n=ws n:=by unfold next1;rw [if_neg (by omega)]
    simp only [tgt,e]
    rw [tgt_next n m (by omega)]
theorem okb_next {p:Event->Bool}:∀ (n m:Nat) (_:n<=m) (g:Goroutine) (w:World) (ws:Nat->World),okb P main p n g (next1 m w ws)=okb P main p n g ws
  | 0,_,_,_,_,_=>rfl
  | n+1,m,_,g,w,ws=>by
    have e:next1 m w ws n=ws n:=by unfold next1;rw [if_neg (by omega)]
    simp only [okb,e,forceG_eq]
    cases stepG P main g (ws n) <;> first|rfl|skip
    simp only [okb_next n m (by omega) _ w ws]
theorem dfs_next:∀ (n m:Nat) (_:n<=m) (d:Nat) (g:Goroutine) (w:World) (ws:Nat->World),dfs P main n d g (next1 m w ws)=dfs P main n d g ws
  | 0,_,_,_,_,_,_=>rfl
  | n+1,m,_,d,g,w,ws=>by
    have e:next1 m w ws n=ws n:=by unfold next1;rw [if_neg (by omega)]
    simp only [dfs,e,forceG_eq]
    cases stepG P main g (ws n) <;> first|rfl|exact dfs_next n m (by omega) _ _ w ws
theorem quiet_first {p:Event->Bool}{n d d':Nat}{g:Goroutine}(hq:∀ ws,wls P main (n+1) g ws=tgt (n+1) ws)(hg:∀ ws,okb P main p (n+1) g ws=true)(hd:∀ ws,dfs P main (n+1) d g ws=d')(w:World) :
    g.status=.running/\∃ g' es,stepG P main g w=.go g' w es/\(∀ e ∈ es,p e=true)/\(∀ ws,wls P main n g' ws=tgt n ws)/\(∀ ws,okb P main p n g' ws=true)/\(∀ ws,dfs P main n (deafBehind d es) g' ws=d') /\
      ∀ ws,fin P main (n+1) g (next1 n w ws)=fin P main n g' ws:=by
  have e:∀ ws,next1 n w ws n=w:=fun ws=>by unfold next1;rw [if_pos rfl]
  have hq':=fun ws=>hq (next1 n w ws)
  have hg':=fun ws=>hg (next1 n w ws)
  have hd':=fun ws=>hd (next1 n w ws)
  simp only [wls,tgt,e,forceG_eq] at hq'
  simp only [okb,e,forceG_eq] at hg'
  simp only [dfs,e,forceG_eq] at hd'
  simp only [fin,e,forceG_eq]
  cases hs:stepG P main g w with
  | go g' w' es=>
    simp only [hs,List.cons.injEq] at hq'
    simp only [hs,Bool.and_eq_true] at hg'
    simp only [hs] at hd'
    have hw:w'=w:=(hq' (fun _=>w)).1
    subst hw
    refine ⟨?_,g',es,rfl,fun e he=>List.all_eq_true.1 (hg' (fun _=>w')).1.2 e (Array.mem_toList_iff.2 he),fun ws=>?_,fun ws=>?_,fun ws=>?_,fun ws=>fin_next n n (Nat.le_refl _) _ _ _⟩
    · have:=(hg' (fun _=>w')).1.1
      split at this
      · assumption
      · cases this
    · have:=(hq' ws).2
      rw [wls_next n n (Nat.le_refl _),tgt_next n n (Nat.le_refl _)] at this
      exact this
    · have:=(hg' ws).2
      rw [okb_next n n (Nat.le_refl _)] at this
      exact this
    · have:=hd' ws
      rw [dfs_next n n (Nat.le_refl _)] at this
      exact this
  | _=>simp only [hs] at hg';exact absurd (hg' fun _=>w) (by simp)
end
def WayD (P:Program) (main:Bool) (K:World->Prop) (E:Event->Prop) (Stop:Nat->Goroutine->Prop):Nat->Nat->Goroutine->Prop
  | 0,d,g=>Stop d g
  | n+1,d,g=>Stop d g∨(g.status=.running/\∀ w,K w->∃ g' x es,stepG P main g w=.go g' (w.at x) es/\(∀ e ∈ es,E e)/\WayD P main K E Stop n (deafBehind d es) g')
section
variable {P:Program}{main:Bool}{K:World->Prop}{E:Event->Prop}{Stop Stop':Nat->Goroutine->Prop}{n m d:Nat}{g g':Goroutine}
theorem WayD.stop (h:Stop d g):WayD P main K E Stop n d g:=by
  cases n with
  | zero=>exact h
  | succ n=>exact .inl h
theorem WayD.one {es:Array Event}(hs:g.status=.running)(h:∀ w,K w->stepG P main g w=.go g' w es)(hE:∀ e ∈ es,E e)(k:WayD P main K E Stop m (deafBehind d es) g'):WayD P main K E Stop (m+1) d g:=
  .inr ⟨hs,fun w hw=>⟨g',w.drawn,es,h w hw,hE,k⟩⟩
theorem WayD.quiet {p:Event->Bool}{d':Nat}(hp:∀ e,p e=true->E e):∀ {n d:Nat} {g:Goroutine},(∀ ws,wls P main n g ws=tgt n ws)->(∀ ws,okb P main p n g ws=true)->(∀ ws,dfs P main n d g ws=d')->(∀ ws,WayD P main K E Stop m d' (fin P main n g ws))->WayD P main K E Stop (n+m) d g
  | 0,d,g,_,_,hd,k=>by
    rw [Nat.zero_add]
    have:d=d':=hd fun _=>default
    subst this
    exact k fun _=>default
  | n+1,d,g,hq,hg,hd,k=>by
    rw [Nat.add_right_comm]
    refine .inr ⟨(quiet_first hq hg hd default).1,fun w _=>?_⟩
    obtain ⟨_,g',es,h1,h2,h3,h4,h5,h6⟩:=quiet_first hq hg hd w
    exact ⟨g',w.drawn,es,h1,fun e he=>hp e (h2 e he),WayD.quiet hp h3 h4 h5 fun ws=>by rw [← h6];exact k _⟩
theorem WayD.seg {p:Event->Bool}{n d d':Nat}{g:Goroutine}(hp:∀ e,p e=true->E e)(hc:∀ ws,chk P main p n d g ws=some (tgt n ws,d'))(k:∀ ws,WayD P main K E Stop m d' (fin P main n g ws)):WayD P main K E Stop (n+m) d g:=
  WayD.quiet hp (fun ws=>(chk_all (hc ws)).1) (fun ws=>(chk_all (hc ws)).2.1) (fun ws=>(chk_all (hc ws)).2.2) k
end
def opsOf (g:Goroutine):Array Oper:=match g.frame.todo with | .inRegion ops _ :: _=>ops|_=>#[]
def idxOf (g:Goroutine):Nat:=match g.frame.todo with | .inRegion _ (i :: _) :: _=>i|_=>0
def restOf (g:Goroutine):List Nat:=match g.frame.todo with | .inRegion _ (_ :: r) :: _=>r|_=>[]
def tailOf (g:Goroutine):List Item:=match g.frame.todo with|_ :: k=>k|_=>[]
def actOf (g:Goroutine):Act:=⟨g.frame.tmps,g.frame.defers⟩
def operOf (g:Goroutine):Oper:=((opsOf g)[idxOf g]?).getD default
def vw (g:Goroutine):Goroutine:=G (g.frame.at (actOf g) (.inRegion (opsOf g) (idxOf g :: restOf g) :: tailOf g)) g.callers
def putOf (g:Goroutine) (v:Value):Goroutine:=forceG g fun g=>forceG (G (g.frame.at ((actOf g).put (operOf g).dst v) (.inRegion (opsOf g) (restOf g) :: tailOf g)) g.callers) id
theorem putOf_eq (g:Goroutine)(v:Value):putOf g v=G (g.frame.at ((actOf g).put (operOf g).dst v) (.inRegion (opsOf g) (restOf g) :: tailOf g)) g.callers:=by simp only [putOf,forceG_eq,id]
structure AtOp (g:Goroutine) (op:Op):Prop where
  view:g=vw g
  oper:(opsOf g)[idxOf g]? = some (operOf g)
  op:(operOf g).op=op
  want:Region.wanted (operOf g) (yielded (opsOf g) g.frame.tmps)=true
  kind:(g.frame.kind == CallKind.early)=false
section
variable {P:Program}{main:Bool}{g:Goroutine}{w w':World}{o:Op}{v:Value}
theorem AtOp.early {op:Op}(h:AtOp g op):g.frame.kind≠.early:=by
  have:=h.kind
  intro e
  rw [e] at this
  cases this
theorem AtOp.value (h:AtOp g o)(hr:(execOp (actOf g).eval (operOf g)).run P w=.ok (.value v) w'):stepG P main g w=.go (putOf g v) w' (seen P g.frame.fn ((execOp (actOf g).eval (operOf g)).events P w #[])):=by
  have hv:=h.view
  have:=stepG_value (P:=P) (main:=main) (b:=g.frame) (a:=actOf g) (k:=tailOf g) (cs:=g.callers) (rest:=restOf g) h.oper h.want h.early hr
  rw [show G (g.frame.at (actOf g) (.inRegion (opsOf g) (idxOf g :: restOf g) :: tailOf g)) g.callers=g from hv.symm] at this
  rw [putOf_eq]
  exact this
theorem AtOp.load {t:TypeId}{x:Operand}(h:AtOp g (.load t x)){a:Addr}{d:TypeDesc}(hx:(actOf g).eval x=.pointer (some a))(hd:P.underlying t=some d)(hone:(match d with | .struct _ | .array _ _=>false|_=>true)=true)
    (hq:(P.funcs[g.frame.fn]?).any (·.norace)=false) (hc:w.cell? a=some v):stepG P main g w=.go (putOf g v) w #[⟨.cell a,false,false⟩]:=by
  have hrun:(execOp (actOf g).eval (operOf g)).run P w=.ok (.value v) w/\(execOp (actOf g).eval (operOf g)).events P w #[] = #[⟨.cell a,false,false⟩]:=by
    unfold execOp
    rw [h.op]
    dsimp only
    rw [hx]
    have hu:(underlying t).run P w=.ok d w/\(underlying t).events P w #[] = #[]:=by
      constructor
      · show (match P.underlying t with|some d=>pure d|none=>stuck _:Sem TypeDesc).run P w=_
        rw [hd];rfl
      · show (match P.underlying t with|some d=>pure d|none=>stuck _:Sem TypeDesc).events P w #[] = _
        rw [hd];simp
    have hag:(isAgg t).run P w=.ok false w/\(isAgg t).events P w #[] = #[]:=by
      unfold isAgg
      rw [Sem.run_bind,Sem.events_bind,hu.1,hu.2]
      simp only [Result.andThen_ok,Result.evThen_ok]
      cases d <;> first|exact ⟨rfl,by simp⟩|cases hone
    have hl:(loadVar t a).run P w=.ok v w/\(loadVar t a).events P w #[] = #[⟨.cell a,false,false⟩]:=by
      unfold loadVar
      rw [Sem.run_bind,Sem.events_bind,hag.1,hag.2]
      simp [Result.andThen_ok,Result.evThen_ok,hc,events_load]
    have hsa:Instr.sureAddr (.pointer (some a))=pure a:=rfl
    constructor
    · simp [Instr.loadAt,hsa,Sem.run_bind,hl.1]
    · simp [Instr.loadAt,hsa,Sem.events_bind,Sem.run_bind,hl.1,hl.2]
  rw [h.value hrun.1,hrun.2,seen_eq hq (by simp)]
theorem AtOp.unsafePtr {src dst:TypeId}{x:Operand}(h:AtOp g (.convert src dst x)){a:Addr}{t:TypeId}{n:Nat}{c:Array Value}{e:TypeId}{f:Nat × Nat}(hx:(actOf g).eval x=.pointer (some a))(hs:P.underlying src=some (.pointer t))(hd:P.underlying dst=some .unsafePointer)
    (hi:(P.info? t).map (·.size)=some (n+1)) (hw:w.heap[a.block]? = some (.cells c e f)) (hlt:a.off<c.size):stepG P main g w=.go (putOf g (.pointer (some a))) w #[]:=by
  have und:∀ (t:TypeId) (d:TypeDesc),P.underlying t=some d->(underlying t).run P w=.ok d w/\(underlying t).events P w #[] = #[]:=fun t d hd=>by
    constructor
    · show (match P.underlying t with|some d=>pure d|none=>stuck _:Sem TypeDesc).run P w=_
      rw [hd];rfl
    · show (match P.underlying t with|some d=>pure d|none=>stuck _:Sem TypeDesc).events P w #[] = _
      rw [hd];simp
  have hshape:w.shape? a.block=some (e,c.size):=by unfold World.shape?;rw [hw]
  have hsh:∀ {β:Type} (k:Option (TypeId × Nat)->Sem β),(shape a.block >>= k).run P w=(k (some (e,c.size))).run P w/\(shape a.block >>= k).events P w #[] = (k (some (e,c.size))).events P w #[]:=fun k=>by
    constructor
    · show (k (w.shape? a.block)).run P w=_;rw [hshape]
    · show (k (w.shape? a.block)).events P w #[] = _;rw [hshape]
  have hva:(viewAt a.block).run P w=.ok none w/\(viewAt a.block).events P w #[] = #[]:=by
    unfold viewAt
    rw [(hsh _).1,(hsh _).2]
    simp
  have hse:(Conv.seenAt a).run P w=.ok a w/\(Conv.seenAt a).events P w #[] = #[]:=by
    unfold Conv.seenAt
    rw [Sem.run_bind,Sem.events_bind,hva.1,hva.2]
    simp
  have hci:(cellsIn a.block).run P w=.ok (some c.size) w/\(cellsIn a.block).events P w #[] = #[]:=by
    unfold cellsIn
    rw [(hsh _).1,(hsh _).2]
    simp
  have hsz:(sizeOf t).run P w=.ok (n+1) w/\(sizeOf t).events P w #[] = #[]:=by
    obtain ⟨i,h1,h2⟩:=Option.map_eq_some_iff.1 hi
    have ht:(typeInfo t).run P w=.ok i w/\(typeInfo t).events P w #[] = #[]:=by
      constructor
      · show (match P.info? t with|some i=>pure i|none=>stuck _:Sem TypeInfo).run P w=_
        rw [h1];rfl
      · show (match P.info? t with|some i=>pure i|none=>stuck _:Sem TypeInfo).events P w #[] = _
        rw [h1];simp
    unfold sizeOf
    rw [Sem.run_bind,Sem.events_bind,ht.1,ht.2]
    simp [h2]
  have hconv:(Conv.unsafePointer src dst (.pointer (some a))).run P w=.ok (.pointer (some a)) w/\(Conv.unsafePointer src dst (.pointer (some a))).events P w #[] = #[]:=by
    unfold Conv.unsafePointer
    rw [Sem.run_bind,Sem.events_bind,(und src _ hs).1,(und src _ hs).2]
    simp only [Result.andThen_ok,Result.evThen_ok]
    rw [Sem.run_bind,Sem.events_bind,(und dst _ hd).1,(und dst _ hd).2]
    simp only [Result.andThen_ok,Result.evThen_ok]
    rw [Sem.run_bind,Sem.events_bind,hse.1,hse.2]
    simp only [Result.andThen_ok,Result.evThen_ok]
    rw [Sem.run_bind,Sem.events_bind,hci.1,hci.2]
    simp only [Result.andThen_ok,Result.evThen_ok]
    rw [Sem.run_bind,Sem.events_bind,hsz.1,hsz.2]
    have:¬ c.size<=a.off:=by omega
    simp [this]
  have hrun:(execOp (actOf g).eval (operOf g)).run P w=.ok (.value (.pointer (some a))) w/\(execOp (actOf g).eval (operOf g)).events P w #[] = #[]:=by
    unfold execOp
    rw [h.op]
    dsimp only
    rw [hx]
    have hcv:(convert src dst (.pointer (some a))).run P w=(Conv.unsafePointer src dst (.pointer (some a))).run P w/\(convert src dst (.pointer (some a))).events P w #[] = (Conv.unsafePointer src dst (.pointer (some a))).events P w #[]:=by
      unfold convert
      simp only [Sem.run_bind,Sem.events_bind,(und src _ hs).1,(und src _ hs).2,(und dst _ hd).1,(und dst _ hd).2,Result.andThen_ok,Result.evThen_ok]
      simp
    constructor
    · rw [Sem.run_bind,hcv.1,hconv.1];rfl
    · rw [Sem.events_bind,hcv.1,hcv.2,hconv.1,hconv.2];simp
  rw [h.value hrun.1,hrun.2,seen_none]
theorem AtOp.lift {r:GStep}(h:AtOp g o)(k:stepG P main (G (g.frame.at (actOf g) (.inRegion (opsOf g) (idxOf g :: restOf g) :: tailOf g)) g.callers) w=r):stepG P main g w=r:=by
  have hv:=h.view
  rw [show G (g.frame.at (actOf g) (.inRegion (opsOf g) (idxOf g :: restOf g) :: tailOf g)) g.callers=g from hv.symm] at k
  exact k
structure Ext (P:Program) (f:FuncId) (fn:Func) (e:Array Value->Sem Value):Prop where
  func:P.funcs[f]? = some fn
  name:(fn.name == "runtime.NumGoroutine")=false
  body:fn.body.isNone=true
  next:Extern.findNext fn=none
  find:Extern.find fn=some e
variable {f:FuncId}{fn:Func}{ats:Array TypeId}{x y z:Operand}{k:IntKind}{ad:Addr}
theorem AtOp.loadA (h:AtOp g (.call { callee:=.value (.func f),args:=#[x],argTypes:=ats }))(he:Ext P f fn (Extern.Atomic.loadT (.int k))){v:Int}(hx:(actOf g).eval x=.pointer (some ad))(hc:w.cell? ad=some (.int k v)) :
    stepG P main g w=.go (putOf g (.int k v)) w #[⟨.cell ad,false,true⟩]:=by
  rw [putOf_eq]
  exact h.lift (stepG_load_atomic h.oper h.want h.early h.op he.func he.name he.body he.next k he.find hx hc)
theorem AtOp.storeA (h:AtOp g (.call { callee:=.value (.func f),args:=#[x,y],argTypes:=ats }))(he:Ext P f fn Extern.Atomic.storeT){v:Int}{u:Value}(hx:(actOf g).eval x=.pointer (some ad))(hy:(actOf g).eval y=.int k v)(hc:w.cell? ad=some u)(hz:w.frozen? ad=false) :
    stepG P main g w=.go (putOf g (.tuple #[])) (w.setCell ad (.int k v)) #[⟨.cell ad,true,true⟩]:=by
  rw [putOf_eq]
  exact h.lift (stepG_store_atomic h.oper h.want h.early h.op he.func he.name he.body he.next he.find hx hy hc hz)
theorem AtOp.addA (h:AtOp g (.call { callee:=.value (.func f),args:=#[x,y],argTypes:=ats }))(he:Ext P f fn (Extern.Atomic.update (Op.intArith .add) k true)){v d:Int}(hx:(actOf g).eval x=.pointer (some ad))(hy:(actOf g).eval y=.int k d)(hc:w.cell? ad=some (.int k v))(hz:w.frozen? ad=false) :
    stepG P main g w=.go (putOf g (.int k (k.wrap (v+d)))) (w.setCell ad (.int k (k.wrap (v+d)))) #[⟨.cell ad,false,true⟩,⟨.cell ad,true,true⟩]:=by
  rw [putOf_eq]
  exact h.lift (stepG_add_atomic h.oper h.want h.early h.op he.func he.name he.body he.next k he.find hx hy hc hz)
theorem AtOp.casHit (h:AtOp g (.call { callee:=.value (.func f),args:=#[x,y,z],argTypes:=ats }))(he:Ext P f fn (Extern.Atomic.casT (.int k))){v n:Int}(hx:(actOf g).eval x=.pointer (some ad))(hy:(actOf g).eval y=.int k v)(hzz:(actOf g).eval z=.int k n)(hc:w.cell? ad=some (.int k v))(hz:w.frozen? ad=false) :
    stepG P main g w=.go (putOf g (.bool true)) (w.setCell ad (.int k n)) #[⟨.cell ad,false,true⟩,⟨.cell ad,true,true⟩]:=by
  rw [putOf_eq]
  exact h.lift (stepG_cas_hit h.oper h.want h.early h.op he.func he.name he.body he.next k he.find hx hy hzz hc hz)
theorem AtOp.casMiss (h:AtOp g (.call { callee:=.value (.func f),args:=#[x,y,z],argTypes:=ats }))(he:Ext P f fn (Extern.Atomic.casT (.int k))){v old n:Int}(hx:(actOf g).eval x=.pointer (some ad))(hy:(actOf g).eval y=.int k old)(hzz:(actOf g).eval z=.int k n)(hc:w.cell? ad=some (.int k v))(hz:w.frozen? ad=false)(hne:¬ v=old) :
    stepG P main g w=.go (putOf g (.bool false)) w #[⟨.cell ad,false,true⟩]:=by
  rw [putOf_eq]
  exact h.lift (stepG_cas_miss h.oper h.want h.early h.op he.func he.name he.body he.next k he.find hx hy hzz hc hz hne)
theorem AtOp.semacquire {al:Array Operand}(h:AtOp g (.call { callee:=.value (.func f),args:=al,argTypes:=ats }))(he:Ext P f fn Extern.Sync.semacquire){n:Int}(hx:(al.map (actOf g).eval)[0]? = some (.pointer (some ad)))(hc:w.cell? ad=some (.int .u32 n))(hn0:n≠0)(hz:w.frozen? ad=false) :
    stepG P main g w=.go (putOf g (.tuple #[])) (w.setCell ad (.int .u32 (n - 1))) (semEvents ad):=by
  rw [putOf_eq]
  exact h.lift (stepG_semacquire h.oper h.want h.early h.op he.func he.name he.body he.next he.find hx hc hn0 hz)
theorem AtOp.semWait {al:Array Operand}(h:AtOp g (.call { callee:=.value (.func f),args:=al,argTypes:=ats }))(he:Ext P f fn Extern.Sync.semacquire)(hx:(al.map (actOf g).eval)[0]? = some (.pointer (some ad)))(hc:w.cell? ad=some (.int .u32 0)) :
    stepG P main g w=.go { g with status:=.blocked } w #[]:=by
  have hv:=h.view
  have k:=stepG_semacquire_wait (P:=P) (main:=main) (w:=w) (b:=g.frame) (a:=actOf g) (kk:=tailOf g) (cs:=g.callers) (rest:=restOf g) h.oper h.want h.op he.func he.name he.body he.next he.find hx hc
  rw [show G (g.frame.at (actOf g) (.inRegion (opsOf g) (idxOf g :: restOf g) :: tailOf g)) g.callers=g from hv.symm] at k
  exact k
theorem AtOp.semrelease {al:Array Operand}(h:AtOp g (.call { callee:=.value (.func f),args:=al,argTypes:=ats }))(he:Ext P f fn Extern.Sync.semrelease){n:Int}(hx:(al.map (actOf g).eval)[0]? = some (.pointer (some ad)))(hc:w.cell? ad=some (.int .u32 n))(hz:w.frozen? ad=false) :
    stepG P main g w=.go (putOf g (.tuple #[])) (w.setCell ad (.int .u32 (IntKind.u32.wrap (n+1)))) (semEvents ad):=by
  rw [putOf_eq]
  exact h.lift (stepG_semrelease h.oper h.want h.early h.op he.func he.name he.body he.next he.find hx hc hz)
end
def anyL (ops:Array Oper) (p:List Nat->Bool):Nat->Array Bool->List Nat->Bool
  | 0,_,acc=>p acc.reverse
  | fuel+1,listed,acc=>((Region.ready .any ops listed).isEmpty && p acc.reverse || !(Region.ready .any ops listed).isEmpty) && (Region.ready .any ops listed).all fun i=>anyL ops p fuel (listed.setIfInBounds i true) (i :: acc)
theorem linearise_any {ops:Array Oper}{p:List Nat->Bool}:∀ (fuel t:Nat) (listed:Array Bool) (acc:List Nat),anyL ops p fuel listed acc=true->p (Region.linearise.go .any ops fuel t listed acc)=true
  | 0,_,_,_,h=>h
  | fuel+1,t,listed,acc,h=>by
    simp only [anyL,Bool.and_eq_true] at h
    simp only [Region.linearise.go]
    change p (match (Region.ready .any ops listed)[t % (Region.ready .any ops listed).length]? with
      | some i=>Region.linearise.go .any ops fuel (t / (Region.ready .any ops listed).length) (listed.setIfInBounds i true) (i :: acc)
      | none=>acc.reverse)=true
    cases hi:(Region.ready .any ops listed)[t % (Region.ready .any ops listed).length]? with
    | none=>
      have hnil:Region.ready .any ops listed = []:=by
        cases hr:Region.ready .any ops listed with
        | nil=>rfl
        | cons x xs=>
          rw [hr] at hi
          have hlt:t % (x :: xs).length<(x :: xs).length:=Nat.mod_lt _ (by simp)
          simp at hi
          simp at hlt
          omega
      have:=h.1
      rw [hnil] at this
      simpa using this
    | some i=>exact linearise_any fuel _ _ _ (List.all_eq_true.1 h.2 i (List.mem_of_getElem? hi))
theorem schedule_any {ops:Array Oper}{p:List Nat->Bool}{mixed:Bool}(hm:mixed=true)(h:anyL ops p ops.size (Array.replicate ops.size false) [] = true)(t:Nat):p (Region.schedule mixed ops t)=true:=by
  subst hm
  simp only [Region.schedule,Bool.true_or,if_true]
  exact linearise_any ops.size t _ _ h
def ordered (g:Goroutine) (l:List Nat):Goroutine:=forceG g fun g=>match g.frame.todo with
  | .code (.region _ ops _) :: k=>G (g.frame.at (actOf g) (.inRegion ops l :: k)) g.callers
  | _=>g
def drawOps (g:Goroutine):Array Oper:=match g.frame.todo with
  | .code (.region _ ops _) :: _=>ops
  | _=>#[]
def drawId (g:Goroutine):Nat:=match g.frame.todo with
  | .code (.region id _ _) :: _=>id
  | _=>0
theorem draw_step {P:Program}{main:Bool}{g:Goroutine}(hv:g=G (g.frame.at (actOf g) (.code (.region (drawId g) (drawOps g) true) :: tailOf g)) g.callers)(w:World) :
    ∃ t,stepG P main g w=.go (ordered g (Region.schedule (P.follows .mixedOrders) (drawOps g) t)) (w.at (w.drawn+1)) #[]:=by
  refine ⟨w.tape w.drawn (.order g.frame.fn (drawId g)),?_⟩
  have hf:ordered g (Region.schedule (P.follows .mixedOrders) (drawOps g) (w.tape w.drawn (.order g.frame.fn (drawId g))))=G (g.frame.at (actOf g) (.inRegion (drawOps g) (Region.schedule (P.follows .mixedOrders) (drawOps g) (w.tape w.drawn (.order g.frame.fn (drawId g)))) :: tailOf g)) g.callers:=by
    have ht:g.frame.todo=.code (.region (drawId g) (drawOps g) true) :: tailOf g:=by
      have:=congrArg (fun g=>g.frame.todo) hv
      exact this
    unfold ordered
    rw [forceG_eq,ht]
  rw [hf]
  conv=>lhs;rw [hv]
  simp [stepG,stepG.exec,Frame.at,G,choose,Sem.run,Question.forced,Question.cut,World.at,actOf]
end
section
def freeS {α:Type} (P:Program) (p:α->Bool):Sem α->Bool
  | .pure a=>p a
  | .program k=>freeS P p (k P)
  | .mark _ k=>freeS P p k
  | _=>false
theorem free_runT {α:Type}{P:Program}{p:α->Bool}:∀ (s:Sem α),freeS P p s=true->∀ es,∃ a es',p a=true/\∀ w,s.runT P w es=(.ok a w,es')
  | .pure a,h,es=>⟨a,es,h,fun _=>rfl⟩
  | .program k,h,es=>free_runT (k P) h es
  | .mark m k,h,es=>by
    obtain ⟨a,es',hp,hr⟩:=free_runT k h (es.push ⟨.mark m,false,true⟩)
    exact ⟨a,es',hp,fun w=>by simp only [Sem.runT];exact hr w⟩
  | .load ..,h,_ | .store ..,h,_ | .new ..,h,_ | .shape ..,h,_ | .freeze ..,h,_ | .frozen ..,h,_ | .getObj ..,h,_ | .setObj ..,h,_ | .choose ..,h,_ | .sys ..,h,_ | .halt ..,h,_=>by cases h
def Same (P:Program) (g:Goroutine):Prop:=∃ g' es,∀ w,stepG P false g w=.go g' w es
def isBool:Value->Bool
  | .bool _=>true
  | _=>false
def freeItem (fr:Frame):Bool:=match fr.todo with
  | .code .skip :: _ | .code (.label _) :: _ | .inBlock _ :: _ | .code (.seq ..) :: _ | .code (.block ..) :: _ | .code (.loop _) :: _ | .inLoop _ :: _ | .inRegion _ [] :: _=>true
  | .code (.cond c _ _) :: _=>isBool (fr.eval c)
  | .code .ret :: _ | []=>fr.roundOf.isNone
  | .code (.exit id) :: k=>(exitTo id k).isSome
  | .code (.region _ _ d) :: _=>!d
  | .inRegion ops (i :: _) :: _=>!((ops[i]?).map (Region.wanted · (yielded ops fr.tmps))).getD false
  | _=>false
theorem same_item {P:Program}{fr:Frame}{cs:List Frame}(hm:fr.mode=.run)(h:freeItem fr=true):Same P (G fr cs):=by
  have hst:∀ w,stepG P false (G fr cs) w=stepG.exec P false true fr cs none w:=fun w=>by simp only [stepG,G,hm]
  unfold Same
  simp only [hst]
  unfold freeItem at h
  unfold stepG.exec
  split at h
  case h_1=>rename_i hc;simp only [hc];exact ⟨_,_,fun w=>rfl⟩
  case h_2=>rename_i hc;simp only [hc];exact ⟨_,_,fun w=>rfl⟩
  case h_3=>rename_i hc;simp only [hc];exact ⟨_,_,fun w=>rfl⟩
  case h_4=>rename_i hc;simp only [hc];exact ⟨_,_,fun w=>rfl⟩
  case h_5=>rename_i hc;simp only [hc];exact ⟨_,_,fun w=>rfl⟩
  case h_6=>rename_i hc;simp only [hc];exact ⟨_,_,fun w=>rfl⟩
  case h_7=>rename_i hc;simp only [hc];exact ⟨_,_,fun w=>rfl⟩
  case h_8=>rename_i hc;simp only [hc];exact ⟨_,_,fun w=>rfl⟩
  case h_9=>
    rename_i hc
    simp only [hc]
    cases he:fr.eval _ with
    | bool t=>exact ⟨_,_,fun w=>rfl⟩
    | _=>rw [he] at h;cases h
  case h_10=>
    rename_i hc
    have hr:fr.roundOf=none:=by simpa using h
    simp only [hc,hr]
    exact ⟨_,_,fun w=>rfl⟩
  case h_11=>
    rename_i hc
    have hr:fr.roundOf=none:=by simpa using h
    simp only [hc,hr]
    exact ⟨_,_,fun w=>rfl⟩
  case h_12=>
    rename_i hc
    obtain ⟨k',hk⟩:=Option.isSome_iff_exists.1 h
    simp only [hc,hk,Option.elim_some]
    exact ⟨_,_,fun w=>rfl⟩
  case h_13=>
    rename_i hc
    simp only [hc,h,if_true]
    exact ⟨_,_,fun w=>rfl⟩
  case h_14=>
    rename_i hc
    have hd:=h
    simp only [Bool.not_eq_true'] at hd
    simp only [hc,hd,Bool.false_eq_true,if_false]
    exact ⟨_,_,fun w=>rfl⟩
  case h_15=>cases h
def simpleN:Next->Bool
  | .value _ | .skip | .enter .. | .defer _=>true
  | _=>false
def freeOper (P:Program) (fr:Frame):Bool:=match fr.todo with
  | .inRegion ops (i :: _) :: _=>((ops[i]?).map (Region.wanted · (yielded ops fr.tmps))).getD false && fr.roundOf.isNone && (match fr.oper? with|some o=>freeS P simpleN (execOp fr.eval o)|none=>false)
  | _=>false
theorem same_oper {P:Program}{fr:Frame}{cs:List Frame}(hm:fr.mode=.run)(h:freeOper P fr=true):Same P (G fr cs):=by
  unfold freeOper at h
  split at h
  · rename_i ops i r k hc
    simp only [Bool.and_eq_true] at h
    obtain ⟨⟨h1,h2⟩,h3⟩:=h
    cases ho:fr.oper? with
    | none=>rw [ho] at h3;cases h3
    | some o=>
      rw [ho] at h3
      have hr:fr.roundOf=none:=by simpa using h2
      have hst:∀ w,stepG P false (G fr cs) w=stepG.apply P true fr cs none (execOp fr.eval o) w:=fun w=>by
        simp [stepG,stepG.exec,stepG.oper,G,hm,hc,h1,ho,hr]
      unfold Same
      simp only [hst]
      obtain ⟨n,es',hp,hr⟩:=free_runT _ h3 #[]
      cases n with
      | value y=>exact ⟨_,_,fun w=>by simp only [stepG.apply,if_true,hr];rfl⟩
      | skip=>exact ⟨_,_,fun w=>by simp only [stepG.apply,if_true,hr];rfl⟩
      | enter f args=>exact ⟨_,_,fun w=>by simp only [stepG.apply,if_true,hr];rfl⟩
      | defer d=>exact ⟨_,_,fun w=>by simp only [stepG.apply,if_true,hr];rfl⟩
      | _=>cases hp
  · cases h
def plainN:Next->Bool
  | .value _ | .skip | .enter ..=>true
  | _=>false
def plainTarget:Target->Bool
  | .nil | .collected _=>false
  | _=>true
def plainKind:CallKind->Bool
  | .normal | .deferred=>true
  | _=>false
def freeUnwind (P:Program) (fr:Frame) (cs:List Frame):Bool:=match fr.mode,fr.defers with
  | .run,_=>false
  | _,d :: _=>plainTarget d.target && freeS P plainN (invoke d.target d.args)
  | .panicking chain,[]=>!fr.catches P && (!cs.isEmpty || chain.head?.any (·.goexit))
  | .returning,[]=>plainKind fr.kind && (match P.funcs[fr.fn]? with|some fn=>freeS P (fun _=>true) (results fn fr.tmps)|none=>false)
theorem same_unwind {P:Program}{fr:Frame}{cs:List Frame}(h:freeUnwind P fr cs=true):Same P (G fr cs):=by
  have hst:∀ w,fr.mode≠.run->stepG P false (G fr cs) w=unwind P false fr cs none w:=fun w hm=>by
    simp only [stepG,G]
  unfold freeUnwind at h
  unfold Same
  split at h
  · cases h
  · rename_i d ds hd hm
    have hm':fr.mode≠.run:=fun e=>hm e
    simp only [hst _ hm']
    simp only [Bool.and_eq_true] at h
    obtain ⟨h1,h2⟩:=h
    obtain ⟨n,es',hp,hr⟩:=free_runT _ h2 #[]
    obtain ⟨target,args⟩:=d
    have hu:∀ w,unwind P false fr cs none w=callDeferred P { fr with defers:=ds } cs none { target,args } w:=fun w=>by
      unfold unwind
      rw [hd]
      cases target <;> first|rfl|cases h1
    simp only [hu]
    unfold callDeferred
    cases target <;> first
      | (cases h1;done)
      | (cases n <;> first
          | (cases hp;done)
          | exact ⟨_,_,fun w=>by simp only [Bool.false_and,Bool.false_eq_true,if_false,hr];rfl⟩)
  · rename_i chain hm hd
    have hm':fr.mode≠.run:=fun e=>by rw [hm] at e;cases e
    simp only [hst _ hm']
    simp only [Bool.and_eq_true,Bool.not_eq_true',Bool.or_eq_true] at h
    obtain ⟨h1,h2⟩:=h
    unfold unwind
    simp only [hd,hm,h1,Bool.false_eq_true,if_false]
    cases cs with
    | cons c rest=>exact ⟨_,_,fun w=>rfl⟩
    | nil=>
      have h3:chain.head?.any (·.goexit)=true:=by simpa using h2
      simp only [h3,if_true]
      exact ⟨_,_,fun w=>rfl⟩
  · rename_i hm hd
    have hm':fr.mode≠.run:=fun e=>by rw [hm] at e;cases e
    simp only [hst _ hm']
    simp only [Bool.and_eq_true] at h
    obtain ⟨h1,h2⟩:=h
    unfold unwind
    simp only [hd,hm]
    cases hf:P.funcs[fr.fn]? with
    | none=>rw [hf] at h2;cases h2
    | some fn=>
      rw [hf] at h2
      obtain ⟨y,es',_,hr⟩:=free_runT _ h2 #[]
      simp only [hr]
      unfold doReturn
      cases cs with
      | cons c rest=>
        cases hk:fr.kind <;> rw [hk] at h1 <;> first|(cases h1;done)|exact ⟨_,_,fun w=>rfl⟩
      | nil=>
        cases hk:fr.kind <;> rw [hk] at h1 <;> first|(cases h1;done)|exact ⟨_,_,fun w=>rfl⟩
def plainG (g:Goroutine):Bool:=match g.status,g.dying,g.offers with
  | .running,none,none=>true
  | _,_,_=>false
def freeG (P:Program) (g:Goroutine):Bool:=plainG g && match g.frame.mode with
  | .run=>freeItem g.frame || freeOper P g.frame
  | _=>freeUnwind P g.frame g.callers
theorem plainG_eq {g:Goroutine}(h:plainG g=true):g=G g.frame g.callers:=by
  obtain ⟨fr,cs,st,dy,of⟩:=g
  unfold plainG at h
  dsimp only at h
  split at h
  · rfl
  · cases h
theorem free_same {P:Program}{g:Goroutine}(h:freeG P g=true):g.status=.running/\Same P g:=by
  unfold freeG at h
  simp only [Bool.and_eq_true] at h
  obtain ⟨h1,h2⟩:=h
  have hg:=plainG_eq h1
  refine ⟨by rw [hg];rfl,?_⟩
  rw [hg]
  split at h2
  · rename_i hm
    rcases Bool.or_eq_true_iff.1 h2 with h2|h2
    · exact same_item hm h2
    · exact same_oper hm h2
  · exact same_unwind h2
def frees (P:Program):Nat->Nat->Goroutine->World->Bool
  | 0,d,g,_=>(match g.status with | .finished=>true|_=>false) && (match d with|0=>true|_=>false)
  | n+1,d,g,w=>freeG P g && match stepG P false g w with | .go g' _ es=>es.toList.all Event.mute && forceG g' fun g'=>frees P n (deafBehind d es) g' w|_=>false
theorem QuitsD.free {P:Program}{w:World}:∀ {n d:Nat} {g:Goroutine},frees P n d g w=true->QuitsD P n d g
  | 0,d,g,h=>by
    simp only [frees,Bool.and_eq_true] at h
    refine ⟨?_,?_⟩
    · have:=h.1
      split at this
      · assumption
      · cases this
    · have:=h.2
      split at this
      · rfl
      · cases this
  | n+1,d,g,h=>by
    simp only [frees,forceG_eq,Bool.and_eq_true] at h
    obtain ⟨hs,g',es,hst⟩:=free_same h.1
    have h2:=h.2
    rw [hst w] at h2
    simp only [Bool.and_eq_true] at h2
    exact .inr ⟨hs,g',es,fun e he=>List.all_eq_true.1 h2.1 e (Array.mem_toList_iff.2 he),hst,QuitsD.free h2.2⟩
end
section
section
variable {P:Program}{main:Bool}{K:World->Prop}{E:Event->Prop}{Stop:Nat->Goroutine->Prop}{m d:Nat}{g:Goroutine}
theorem WayD.load {t:TypeId}{x:Operand}{a:Addr}{v:Value}{ds:TypeDesc}(hs:(match g.status with | .running=>true|_=>false)=true)(h:AtOp g (.load t x))(hx:(actOf g).eval x=.pointer (some a))(hd:P.underlying t=some ds)(hone:(match ds with | .struct _ | .array _ _=>false|_=>true)=true)
    (hq:(P.funcs[g.frame.fn]?).any (·.norace)=false) (hK:∀ w,K w->w.cell? a=some v) (hE:E ⟨.cell a,false,false⟩) (k:WayD P main K E Stop m d (putOf g v)):WayD P main K E Stop (m+1) d g:=by
  refine WayD.one (g':=putOf g v) (es:=#[⟨.cell a,false,false⟩]) (by split at hs <;> first|assumption|cases hs) (fun w hw=>h.load hx hd hone hq (hK w hw)) (fun e he=>?_) ?_
  · have:e=⟨.cell a,false,false⟩:=by simpa using he
    subst this;exact hE
  · exact k
theorem WayD.draw (hs:(match g.status with | .running=>true|_=>false)=true)(hv:g=G (g.frame.at (actOf g) (.code (.region (drawId g) (drawOps g) true) :: tailOf g)) g.callers)(hm:P.follows .mixedOrders=true){p:List Nat->Bool}(hp:anyL (drawOps g) p (drawOps g).size (Array.replicate (drawOps g).size false) [] = true)
    (k:∀ l,p l=true->WayD P main K E Stop m d (ordered g l)):WayD P main K E Stop (m+1) d g:=by
  refine .inr ⟨(by split at hs <;> first|assumption|cases hs),fun w _=>?_⟩
  obtain ⟨t,ht⟩:=draw_step (P:=P) (main:=main) hv w
  exact ⟨_,_,_,ht,by simp,k _ (schedule_any hm hp t)⟩
theorem WayD.goes {Still:Loc->Prop}{B:Nat}{Stop':Goroutine->World->Prop}(hat:∀ w x,K w->K (w.at x))(hS:∀ d g w,Stop d g->Stop' g w):∀ {m d:Nat} {g:Goroutine} {w:World},WayD P main K (EvC Still B) Stop m d g->Goes P main (RK K) (DQ Still B) Stop' m g w
  | 0,_,_,_,h=>fun w₁ _=>hS _ _ w₁ h
  | m+1,d,g,w,h=>by
    rcases h with h|⟨hs,h⟩
    · exact .inl fun w₁ _=>hS _ _ w₁ h
    · refine .inr ⟨hs,fun w₁ h₁=>?_⟩
      obtain ⟨g',x,es,h1,h2,h3⟩:=h w₁ h₁
      rw [h1,goes_go]
      exact ⟨⟨⟨x,rfl⟩,h2⟩,WayD.goes hat hS h3⟩
end
end
end Go.Tame
namespace Go.Proofs.Shardlog
open Go.Conc Go.Tame
section
theorem Tryz.und23:Tryz.prog.underlying 23=some (.pointer 94):=by kernel_rfl
theorem Tryz.und100:Tryz.prog.underlying 100=some (.pointer 154):=by kernel_rfl
theorem Tryz.und85:Tryz.prog.underlying 85=some (.chan .both 73):=by kernel_rfl
theorem Tryz.und150:Tryz.prog.underlying 150=some (.chan .both 1):=by kernel_rfl
theorem Tryz.mixed:Tryz.prog.follows .mixedOrders=true:=by kernel_rfl
section
variable (cb sb c s D W:Nat)(w0 w1:Nat->World)(w2:Nat->Nat->World)(w3 w4:Nat->World)
noncomputable def call39:Deferred:={ target:=.fn (.func 39) #[.pointer (some ⟨cb,0,none⟩),.pointer (some ⟨sb,0,none⟩)],args:=#[] }
noncomputable def born0:Goroutine:=born Tryz.prog (call39 cb sb)
noncomputable def b1:Goroutine:=fin Tryz.prog false 3 (born0 cb sb) w0
noncomputable def b2:Goroutine:=putOf (b1 cb sb w0) (.pointer (some ⟨c,0,none⟩))
noncomputable def b3:Goroutine:=fin Tryz.prog false 4 (b2 cb sb c w0) w1
end
noncomputable def o0_0 (cb sb c _s _D:Nat) (w0 w1:Nat->World) (_w2:Nat->Nat->World):Goroutine:=ordered (b3 cb sb c w0 w1) [0,1,2,3,4,5]
noncomputable def o0_1 (cb sb c s D:Nat) (w0 w1:Nat->World) (w2:Nat->Nat->World):Goroutine:=putOf (o0_0 cb sb c s D w0 w1 w2) (.pointer (some ⟨s,0,none⟩))
noncomputable def o0_2 (cb sb c s D:Nat) (w0 w1:Nat->World) (w2:Nat->Nat->World):Goroutine:=putOf (o0_1 cb sb c s D w0 w1 w2) (.pointer (some ⟨c,0,none⟩))
noncomputable def o0_3 (cb sb c s D:Nat) (w0 w1:Nat->World) (w2:Nat->Nat->World):Goroutine:=fin Tryz.prog false 2 (o0_2 cb sb c s D w0 w1 w2) (w2 3)
noncomputable def o0_4 (cb sb c s D:Nat) (w0 w1:Nat->World) (w2:Nat->Nat->World):Goroutine:=putOf (o0_3 cb sb c s D w0 w1 w2) (.chan (some D))
noncomputable def o1_0 (cb sb c _s _D:Nat) (w0 w1:Nat->World) (_w2:Nat->Nat->World):Goroutine:=ordered (b3 cb sb c w0 w1) [1,0,2,3,4,5]
noncomputable def o1_1 (cb sb c s D:Nat) (w0 w1:Nat->World) (w2:Nat->Nat->World):Goroutine:=putOf (o1_0 cb sb c s D w0 w1 w2) (.pointer (some ⟨c,0,none⟩))
noncomputable def o1_2 (cb sb c s D:Nat) (w0 w1:Nat->World) (w2:Nat->Nat->World):Goroutine:=putOf (o1_1 cb sb c s D w0 w1 w2) (.pointer (some ⟨s,0,none⟩))
noncomputable def o1_3 (cb sb c s D:Nat) (w0 w1:Nat->World) (w2:Nat->Nat->World):Goroutine:=fin Tryz.prog false 2 (o1_2 cb sb c s D w0 w1 w2) (w2 3)
noncomputable def o1_4 (cb sb c s D:Nat) (w0 w1:Nat->World) (w2:Nat->Nat->World):Goroutine:=putOf (o1_3 cb sb c s D w0 w1 w2) (.chan (some D))
noncomputable def o2_0 (cb sb c _s _D:Nat) (w0 w1:Nat->World) (_w2:Nat->Nat->World):Goroutine:=ordered (b3 cb sb c w0 w1) [1,2,0,3,4,5]
noncomputable def o2_1 (cb sb c s D:Nat) (w0 w1:Nat->World) (w2:Nat->Nat->World):Goroutine:=putOf (o2_0 cb sb c s D w0 w1 w2) (.pointer (some ⟨c,0,none⟩))
noncomputable def o2_2 (cb sb c s D:Nat) (w0 w1:Nat->World) (w2:Nat->Nat->World):Goroutine:=fin Tryz.prog false 1 (o2_1 cb sb c s D w0 w1 w2) (w2 2)
noncomputable def o2_3 (cb sb c s D:Nat) (w0 w1:Nat->World) (w2:Nat->Nat->World):Goroutine:=putOf (o2_2 cb sb c s D w0 w1 w2) (.pointer (some ⟨s,0,none⟩))
noncomputable def o2_4 (cb sb c s D:Nat) (w0 w1:Nat->World) (w2:Nat->Nat->World):Goroutine:=fin Tryz.prog false 1 (o2_3 cb sb c s D w0 w1 w2) (w2 4)
noncomputable def o2_5 (cb sb c s D:Nat) (w0 w1:Nat->World) (w2:Nat->Nat->World):Goroutine:=putOf (o2_4 cb sb c s D w0 w1 w2) (.chan (some D))
noncomputable def o3_0 (cb sb c _s _D:Nat) (w0 w1:Nat->World) (_w2:Nat->Nat->World):Goroutine:=ordered (b3 cb sb c w0 w1) [1,2,3,0,4,5]
noncomputable def o3_1 (cb sb c s D:Nat) (w0 w1:Nat->World) (w2:Nat->Nat->World):Goroutine:=putOf (o3_0 cb sb c s D w0 w1 w2) (.pointer (some ⟨c,0,none⟩))
noncomputable def o3_2 (cb sb c s D:Nat) (w0 w1:Nat->World) (w2:Nat->Nat->World):Goroutine:=fin Tryz.prog false 2 (o3_1 cb sb c s D w0 w1 w2) (w2 2)
noncomputable def o3_3 (cb sb c s D:Nat) (w0 w1:Nat->World) (w2:Nat->Nat->World):Goroutine:=putOf (o3_2 cb sb c s D w0 w1 w2) (.pointer (some ⟨s,0,none⟩))
noncomputable def o3_4 (cb sb c s D:Nat) (w0 w1:Nat->World) (w2:Nat->Nat->World):Goroutine:=putOf (o3_3 cb sb c s D w0 w1 w2) (.chan (some D))
noncomputable def o4_0 (cb sb c _s _D:Nat) (w0 w1:Nat->World) (_w2:Nat->Nat->World):Goroutine:=ordered (b3 cb sb c w0 w1) [1,2,3,4,0,5]
noncomputable def o4_1 (cb sb c s D:Nat) (w0 w1:Nat->World) (w2:Nat->Nat->World):Goroutine:=putOf (o4_0 cb sb c s D w0 w1 w2) (.pointer (some ⟨c,0,none⟩))
noncomputable def o4_2 (cb sb c s D:Nat) (w0 w1:Nat->World) (w2:Nat->Nat->World):Goroutine:=fin Tryz.prog false 2 (o4_1 cb sb c s D w0 w1 w2) (w2 2)
noncomputable def o4_3 (cb sb c s D:Nat) (w0 w1:Nat->World) (w2:Nat->Nat->World):Goroutine:=putOf (o4_2 cb sb c s D w0 w1 w2) (.chan (some D))
noncomputable def o4_4 (cb sb c s D:Nat) (w0 w1:Nat->World) (w2:Nat->Nat->World):Goroutine:=putOf (o4_3 cb sb c s D w0 w1 w2) (.pointer (some ⟨s,0,none⟩))
section
variable (cb sb c s D W:Nat)(w0 w1:Nat->World)(w2:Nat->Nat->World)(w3 w4:Nat->World)
noncomputable def b5:Goroutine:=fin Tryz.prog false 10 (o0_4 cb sb c s D w0 w1 w2) w3
noncomputable def b6:Goroutine:=putOf (b5 cb sb c s D w0 w1 w2 w3) (.chan (some W))
noncomputable def b7:Goroutine:=fin Tryz.prog false 6 (b6 cb sb c s D W w0 w1 w2 w3) w4
noncomputable def seatCases:Array CommCase:=#[rcase W .nilFunc,rcase D (.agg #[])]
end
set_option maxRecDepth 100000
structure Reads (cb sb c s D W:Nat) (w:World):Prop where
  cb:w.cell? ⟨cb,0,none⟩=some (.pointer (some ⟨c,0,none⟩))
  sb:w.cell? ⟨sb,0,none⟩=some (.pointer (some ⟨s,0,none⟩))
  done:w.cell? ⟨c,5,none⟩=some (.chan (some D))
  work:w.cell? ⟨s,16,none⟩=some (.chan (some W))
section
variable {cb sb c s D W:Nat}{w0 w1:Nat->World}{w2:Nat->Nat->World}{w3 w4:Nat->World}{K:World->Prop}{Still:Loc->Prop}{B:Nat}{Stop:Nat->Goroutine->Prop}
theorem silent (e:Event)(h:(fun _:Event=>false) e=true):EvC Still B e:=by cases h
theorem b7_sel (w:World):stepG Tryz.prog false (b7 cb sb c s D W w0 w1 w2 w3 w4) w=.comm (b7 cb sb c s D W w0 w1 w2 w3 w4) (seatCases D W) true .select w #[]:=by
  have:(fun w=>stepG Tryz.prog false (b7 cb sb c s D W w0 w1 w2 w3 w4) w)=fun w=>.comm (b7 cb sb c s D W w0 w1 w2 w3 w4) (seatCases D W) true .select w #[]:=by kernel_rfl
  exact congrFun this w
theorem way5 (hR:∀ w,K w->Reads cb sb c s D W w)(hE:∀ a:Addr,a=⟨cb,0,none⟩∨a=⟨sb,0,none⟩∨a=⟨c,5,none⟩∨a=⟨s,16,none⟩->EvC Still B ⟨.cell a,false,false⟩)(h:∀ w3 w4,Stop 0 (b7 cb sb c s D W w0 w1 w2 w3 w4)) :
    WayD Tryz.prog false K (EvC Still B) Stop 17 0 (o0_4 cb sb c s D w0 w1 w2):=by
  refine WayD.seg (n:=10) (m:=7) (d':=0) silent (fun ws=>by kernel_rfl) fun w3=>?_
  refine WayD.load (g:=b5 cb sb c s D w0 w1 w2 w3) (t:=150) (x:=.tmp 8) (a:=⟨s,16,none⟩) (v:=.chan (some W)) (by kernel_rfl) ⟨by kernel_rfl,by kernel_rfl,by kernel_rfl,by kernel_rfl,by kernel_rfl⟩ (by kernel_rfl) Tryz.und150 rfl (by kernel_rfl) (fun w hw=>(hR w hw).work) (hE _ (by simp)) ?_
  refine WayD.seg (n:=6) (m:=0) (d':=0) (g:=b6 cb sb c s D W w0 w1 w2 w3) silent (fun ws=>by kernel_rfl) fun w4=>?_
  exact h w3 w4
theorem order0 (hR:∀ w,K w->Reads cb sb c s D W w)(hE:∀ a:Addr,a=⟨cb,0,none⟩∨a=⟨sb,0,none⟩∨a=⟨c,5,none⟩∨a=⟨s,16,none⟩->EvC Still B ⟨.cell a,false,false⟩)(h:∀ w2 w3 w4,Stop 0 (b7 cb sb c s D W w0 w1 w2 w3 w4)) :
    WayD Tryz.prog false K (EvC Still B) Stop 22 0 (o0_0 cb sb c s D w0 w1 (fun _ _=>default)):=by
  refine WayD.load (m:=21) (g:=o0_0 cb sb c s D w0 w1 (fun _ _=>default)) (t:=100) (x:=.tmp 1) (a:=⟨sb,0,none⟩) (v:=.pointer (some ⟨s,0,none⟩)) (by kernel_rfl) ⟨by kernel_rfl,by kernel_rfl,by kernel_rfl,by kernel_rfl,by kernel_rfl⟩ (by kernel_rfl) Tryz.und100 rfl (by kernel_rfl) (fun w hw=>(hR w hw).sb) (hE _ (by simp)) ?_
  refine WayD.load (m:=20) (g:=o0_1 cb sb c s D w0 w1 (fun _ _=>default)) (t:=23) (x:=.tmp 0) (a:=⟨cb,0,none⟩) (v:=.pointer (some ⟨c,0,none⟩)) (by kernel_rfl) ⟨by kernel_rfl,by kernel_rfl,by kernel_rfl,by kernel_rfl,by kernel_rfl⟩ (by kernel_rfl) Tryz.und23 rfl (by kernel_rfl) (fun w hw=>(hR w hw).cb) (hE _ (by simp)) ?_
  refine WayD.seg (n:=2) (m:=18) (d':=0) (g:=o0_2 cb sb c s D w0 w1 (fun _ _=>default)) silent (fun ws=>by kernel_rfl) fun v3=>?_
  refine WayD.load (m:=17) (g:=o0_3 cb sb c s D w0 w1 (fun i=>if i=3 then v3 else fun _=>default)) (t:=85) (x:=.tmp 8) (a:=⟨c,5,none⟩) (v:=.chan (some D)) (by kernel_rfl) ⟨by kernel_rfl,by kernel_rfl,by kernel_rfl,by kernel_rfl,by kernel_rfl⟩ (by kernel_rfl) Tryz.und85 rfl (by kernel_rfl) (fun w hw=>(hR w hw).done) (hE _ (by simp)) ?_
  exact way5 (w2:=(fun i=>if i=3 then v3 else fun _=>default)) hR hE fun w3 w4=>h _ w3 w4
theorem order1 (hR:∀ w,K w->Reads cb sb c s D W w)(hE:∀ a:Addr,a=⟨cb,0,none⟩∨a=⟨sb,0,none⟩∨a=⟨c,5,none⟩∨a=⟨s,16,none⟩->EvC Still B ⟨.cell a,false,false⟩)(h:∀ w2 w3 w4,Stop 0 (b7 cb sb c s D W w0 w1 w2 w3 w4)) :
    WayD Tryz.prog false K (EvC Still B) Stop 22 0 (o1_0 cb sb c s D w0 w1 (fun _ _=>default)):=by
  refine WayD.load (m:=21) (g:=o1_0 cb sb c s D w0 w1 (fun _ _=>default)) (t:=23) (x:=.tmp 0) (a:=⟨cb,0,none⟩) (v:=.pointer (some ⟨c,0,none⟩)) (by kernel_rfl) ⟨by kernel_rfl,by kernel_rfl,by kernel_rfl,by kernel_rfl,by kernel_rfl⟩ (by kernel_rfl) Tryz.und23 rfl (by kernel_rfl) (fun w hw=>(hR w hw).cb) (hE _ (by simp)) ?_
  refine WayD.load (m:=20) (g:=o1_1 cb sb c s D w0 w1 (fun _ _=>default)) (t:=100) (x:=.tmp 1) (a:=⟨sb,0,none⟩) (v:=.pointer (some ⟨s,0,none⟩)) (by kernel_rfl) ⟨by kernel_rfl,by kernel_rfl,by kernel_rfl,by kernel_rfl,by kernel_rfl⟩ (by kernel_rfl) Tryz.und100 rfl (by kernel_rfl) (fun w hw=>(hR w hw).sb) (hE _ (by simp)) ?_
  refine WayD.seg (n:=2) (m:=18) (d':=0) (g:=o1_2 cb sb c s D w0 w1 (fun _ _=>default)) silent (fun ws=>by kernel_rfl) fun v3=>?_
  refine WayD.load (m:=17) (g:=o1_3 cb sb c s D w0 w1 (fun i=>if i=3 then v3 else fun _=>default)) (t:=85) (x:=.tmp 8) (a:=⟨c,5,none⟩) (v:=.chan (some D)) (by kernel_rfl) ⟨by kernel_rfl,by kernel_rfl,by kernel_rfl,by kernel_rfl,by kernel_rfl⟩ (by kernel_rfl) Tryz.und85 rfl (by kernel_rfl) (fun w hw=>(hR w hw).done) (hE _ (by simp)) ?_
  have e:o1_4 cb sb c s D w0 w1 (fun i=>if i=3 then v3 else fun _=>default)=o0_4 cb sb c s D w0 w1 (fun _ _=>default):=by kernel_rfl
  have:=way5 (w2:=fun _ _=>default) (w0:=w0) (w1:=w1) hR hE (Stop:=Stop) fun w3 w4=>h _ w3 w4
  rw [← e] at this
  exact this
theorem order2 (hR:∀ w,K w->Reads cb sb c s D W w)(hE:∀ a:Addr,a=⟨cb,0,none⟩∨a=⟨sb,0,none⟩∨a=⟨c,5,none⟩∨a=⟨s,16,none⟩->EvC Still B ⟨.cell a,false,false⟩)(h:∀ w2 w3 w4,Stop 0 (b7 cb sb c s D W w0 w1 w2 w3 w4)) :
    WayD Tryz.prog false K (EvC Still B) Stop 22 0 (o2_0 cb sb c s D w0 w1 (fun _ _=>default)):=by
  refine WayD.load (m:=21) (g:=o2_0 cb sb c s D w0 w1 (fun _ _=>default)) (t:=23) (x:=.tmp 0) (a:=⟨cb,0,none⟩) (v:=.pointer (some ⟨c,0,none⟩)) (by kernel_rfl) ⟨by kernel_rfl,by kernel_rfl,by kernel_rfl,by kernel_rfl,by kernel_rfl⟩ (by kernel_rfl) Tryz.und23 rfl (by kernel_rfl) (fun w hw=>(hR w hw).cb) (hE _ (by simp)) ?_
  refine WayD.seg (n:=1) (m:=20) (d':=0) (g:=o2_1 cb sb c s D w0 w1 (fun _ _=>default)) silent (fun ws=>by kernel_rfl) fun v2=>?_
  refine WayD.load (m:=19) (g:=o2_2 cb sb c s D w0 w1 (fun i=>if i=2 then v2 else fun _=>default)) (t:=100) (x:=.tmp 1) (a:=⟨sb,0,none⟩) (v:=.pointer (some ⟨s,0,none⟩)) (by kernel_rfl) ⟨by kernel_rfl,by kernel_rfl,by kernel_rfl,by kernel_rfl,by kernel_rfl⟩ (by kernel_rfl) Tryz.und100 rfl (by kernel_rfl) (fun w hw=>(hR w hw).sb) (hE _ (by simp)) ?_
  refine WayD.seg (n:=1) (m:=18) (d':=0) (g:=o2_3 cb sb c s D w0 w1 (fun i=>if i=2 then v2 else fun _=>default)) silent (fun ws=>by kernel_rfl) fun v4=>?_
  refine WayD.load (m:=17) (g:=o2_4 cb sb c s D w0 w1 (fun i=>if i=2 then v2 else if i=4 then v4 else fun _=>default)) (t:=85) (x:=.tmp 8) (a:=⟨c,5,none⟩) (v:=.chan (some D)) (by kernel_rfl) ⟨by kernel_rfl,by kernel_rfl,by kernel_rfl,by kernel_rfl,by kernel_rfl⟩ (by kernel_rfl) Tryz.und85 rfl (by kernel_rfl) (fun w hw=>(hR w hw).done) (hE _ (by simp)) ?_
  have e:o2_5 cb sb c s D w0 w1 (fun i=>if i=2 then v2 else if i=4 then v4 else fun _=>default)=o0_4 cb sb c s D w0 w1 (fun _ _=>default):=by kernel_rfl
  have:=way5 (w2:=fun _ _=>default) (w0:=w0) (w1:=w1) hR hE (Stop:=Stop) fun w3 w4=>h _ w3 w4
  rw [← e] at this
  exact this
theorem order3 (hR:∀ w,K w->Reads cb sb c s D W w)(hE:∀ a:Addr,a=⟨cb,0,none⟩∨a=⟨sb,0,none⟩∨a=⟨c,5,none⟩∨a=⟨s,16,none⟩->EvC Still B ⟨.cell a,false,false⟩)(h:∀ w2 w3 w4,Stop 0 (b7 cb sb c s D W w0 w1 w2 w3 w4)) :
    WayD Tryz.prog false K (EvC Still B) Stop 22 0 (o3_0 cb sb c s D w0 w1 (fun _ _=>default)):=by
  refine WayD.load (m:=21) (g:=o3_0 cb sb c s D w0 w1 (fun _ _=>default)) (t:=23) (x:=.tmp 0) (a:=⟨cb,0,none⟩) (v:=.pointer (some ⟨c,0,none⟩)) (by kernel_rfl) ⟨by kernel_rfl,by kernel_rfl,by kernel_rfl,by kernel_rfl,by kernel_rfl⟩ (by kernel_rfl) Tryz.und23 rfl (by kernel_rfl) (fun w hw=>(hR w hw).cb) (hE _ (by simp)) ?_
  refine WayD.seg (n:=2) (m:=19) (d':=0) (g:=o3_1 cb sb c s D w0 w1 (fun _ _=>default)) silent (fun ws=>by kernel_rfl) fun v2=>?_
  refine WayD.load (m:=18) (g:=o3_2 cb sb c s D w0 w1 (fun i=>if i=2 then v2 else fun _=>default)) (t:=100) (x:=.tmp 1) (a:=⟨sb,0,none⟩) (v:=.pointer (some ⟨s,0,none⟩)) (by kernel_rfl) ⟨by kernel_rfl,by kernel_rfl,by kernel_rfl,by kernel_rfl,by kernel_rfl⟩ (by kernel_rfl) Tryz.und100 rfl (by kernel_rfl) (fun w hw=>(hR w hw).sb) (hE _ (by simp)) ?_
  refine WayD.load (m:=17) (g:=o3_3 cb sb c s D w0 w1 (fun i=>if i=2 then v2 else fun _=>default)) (t:=85) (x:=.tmp 8) (a:=⟨c,5,none⟩) (v:=.chan (some D)) (by kernel_rfl) ⟨by kernel_rfl,by kernel_rfl,by kernel_rfl,by kernel_rfl,by kernel_rfl⟩ (by kernel_rfl) Tryz.und85 rfl (by kernel_rfl) (fun w hw=>(hR w hw).done) (hE _ (by simp)) ?_
  have e:o3_4 cb sb c s D w0 w1 (fun i=>if i=2 then v2 else fun _=>default)=o0_4 cb sb c s D w0 w1 (fun _ _=>default):=by kernel_rfl
  have:=way5 (w2:=fun _ _=>default) (w0:=w0) (w1:=w1) hR hE (Stop:=Stop) fun w3 w4=>h _ w3 w4
  rw [← e] at this
  exact this
theorem order4 (hR:∀ w,K w->Reads cb sb c s D W w)(hE:∀ a:Addr,a=⟨cb,0,none⟩∨a=⟨sb,0,none⟩∨a=⟨c,5,none⟩∨a=⟨s,16,none⟩->EvC Still B ⟨.cell a,false,false⟩)(h:∀ w2 w3 w4,Stop 0 (b7 cb sb c s D W w0 w1 w2 w3 w4)) :
    WayD Tryz.prog false K (EvC Still B) Stop 22 0 (o4_0 cb sb c s D w0 w1 (fun _ _=>default)):=by
  refine WayD.load (m:=21) (g:=o4_0 cb sb c s D w0 w1 (fun _ _=>default)) (t:=23) (x:=.tmp 0) (a:=⟨cb,0,none⟩) (v:=.pointer (some ⟨c,0,none⟩)) (by kernel_rfl) ⟨by kernel_rfl,by kernel_rfl,by kernel_rfl,by kernel_rfl,by kernel_rfl⟩ (by kernel_rfl) Tryz.und23 rfl (by kernel_rfl) (fun w hw=>(hR w hw).cb) (hE _ (by simp)) ?_
  refine WayD.seg (n:=2) (m:=19) (d':=0) (g:=o4_1 cb sb c s D w0 w1 (fun _ _=>default)) silent (fun ws=>by kernel_rfl) fun v2=>?_
  refine WayD.load (m:=18) (g:=o4_2 cb sb c s D w0 w1 (fun i=>if i=2 then v2 else fun _=>default)) (t:=85) (x:=.tmp 8) (a:=⟨c,5,none⟩) (v:=.chan (some D)) (by kernel_rfl) ⟨by kernel_rfl,by kernel_rfl,by kernel_rfl,by kernel_rfl,by kernel_rfl⟩ (by kernel_rfl) Tryz.und85 rfl (by kernel_rfl) (fun w hw=>(hR w hw).done) (hE _ (by simp)) ?_
  refine WayD.load (m:=17) (g:=o4_3 cb sb c s D w0 w1 (fun i=>if i=2 then v2 else fun _=>default)) (t:=100) (x:=.tmp 1) (a:=⟨sb,0,none⟩) (v:=.pointer (some ⟨s,0,none⟩)) (by kernel_rfl) ⟨by kernel_rfl,by kernel_rfl,by kernel_rfl,by kernel_rfl,by kernel_rfl⟩ (by kernel_rfl) Tryz.und100 rfl (by kernel_rfl) (fun w hw=>(hR w hw).sb) (hE _ (by simp)) ?_
  have e:o4_4 cb sb c s D w0 w1 (fun i=>if i=2 then v2 else fun _=>default)=o0_4 cb sb c s D w0 w1 (fun _ _=>default):=by kernel_rfl
  have:=way5 (w2:=fun _ _=>default) (w0:=w0) (w1:=w1) hR hE (Stop:=Stop) fun w3 w4=>h _ w3 w4
  rw [← e] at this
  exact this
theorem birth (hR:∀ w,K w->Reads cb sb c s D W w)(hE:∀ a:Addr,a=⟨cb,0,none⟩∨a=⟨sb,0,none⟩∨a=⟨c,5,none⟩∨a=⟨s,16,none⟩->EvC Still B ⟨.cell a,false,false⟩)(h:∀ w0 w1 w2 w3 w4,Stop 0 (b7 cb sb c s D W w0 w1 w2 w3 w4)) :
    WayD Tryz.prog false K (EvC Still B) Stop 31 0 (born0 cb sb):=by
  refine WayD.seg (n:=3) (m:=28) (d':=0) silent (fun ws=>by kernel_rfl) fun w0=>?_
  refine WayD.load (m:=27) (g:=b1 cb sb w0) (t:=23) (x:=.tmp 0) (a:=⟨cb,0,none⟩) (v:=.pointer (some ⟨c,0,none⟩)) (by kernel_rfl) ⟨by kernel_rfl,by kernel_rfl,by kernel_rfl,by kernel_rfl,by kernel_rfl⟩ (by kernel_rfl) Tryz.und23 rfl (by kernel_rfl) (fun w hw=>(hR w hw).cb) (hE _ (by simp)) ?_
  refine WayD.seg (n:=4) (m:=23) (d':=0) (g:=b2 cb sb c w0) silent (fun ws=>by kernel_rfl) fun w1=>?_
  refine WayD.draw (m:=22) (g:=b3 cb sb c w0 w1) (by kernel_rfl) (by kernel_rfl) Tryz.mixed (p:=fun l=>[[0,1,2,3,4,5],[1,0,2,3,4,5],[1,2,0,3,4,5],[1,2,3,0,4,5],[1,2,3,4,0,5]].contains l) (by kernel_rfl) fun l hl=>?_
  have hl':l = [0,1,2,3,4,5]∨l = [1,0,2,3,4,5]∨l = [1,2,0,3,4,5]∨l = [1,2,3,0,4,5]∨l = [1,2,3,4,0,5]:=by simpa using hl
  rcases hl' with rfl|rfl|rfl|rfl|rfl
  · exact order0 hR hE fun w2 w3 w4=>h w0 w1 w2 w3 w4
  · exact order1 hR hE fun w2 w3 w4=>h w0 w1 w2 w3 w4
  · exact order2 hR hE fun w2 w3 w4=>h w0 w1 w2 w3 w4
  · exact order3 hR hE fun w2 w3 w4=>h w0 w1 w2 w3 w4
  · exact order4 hR hE fun w2 w3 w4=>h w0 w1 w2 w3 w4
end
section
variable (cb sb c s D W:Nat)(w0 w1:Nat->World)(w2:Nat->Nat->World)(w3 w4 w5 w6 w7 w8 w9:Nat->World)(r:Int)
noncomputable def l0:Goroutine:=forceG (Go.Conc.served (b7 cb sb c s D W w0 w1 w2 w3 w4) (.tuple #[goInt 1,.bool false,.nilFunc,.agg #[]])) id
noncomputable def l1:Goroutine:=fin Tryz.prog false 26 (l0 cb sb c s D W w0 w1 w2 w3 w4) w5
noncomputable def l2:Goroutine:=putOf (l1 cb sb c s D W w0 w1 w2 w3 w4 w5) (.pointer (some ⟨c,6,none⟩))
noncomputable def l2b:Goroutine:=fin Tryz.prog false 1 (l2 cb sb c s D W w0 w1 w2 w3 w4 w5) w6
noncomputable def l3:Goroutine:=fin Tryz.prog false 38 (l2b cb sb c s D W w0 w1 w2 w3 w4 w5 w6) w7
noncomputable def l4:Goroutine:=putOf (l3 cb sb c s D W w0 w1 w2 w3 w4 w5 w6 w7) (.int .u64 r)
end
set_option maxRecDepth 100000
section
variable {cb sb c s D W:Nat}{w0 w1:Nat->World}{w2:Nat->Nat->World}{w3 w4 w5 w6 w7 w8 w9:Nat->World}{K:World->Prop}{Stop:Nat->Goroutine->Prop}
theorem leave0 (hK:∀ w,K w->∃ x e f,w.heap[c]? = some (.cells x e f)/\6<x.size)(h:∀ w5,Stop 0 (l2 cb sb c s D W w0 w1 w2 w3 w4 w5)):WayD Tryz.prog false K (fun _=>False) Stop 27 0 (l0 cb sb c s D W w0 w1 w2 w3 w4):=by
  refine WayD.seg (p:=fun _=>false) (n:=26) (m:=1) (d':=0) (fun e he=>by cases he) (fun ws=>by kernel_rfl) fun w5=>?_
  have hat:AtOp (l1 cb sb c s D W w0 w1 w2 w3 w4 w5) (.convert 123 127 (.tmp 11)):=⟨by kernel_rfl,by kernel_rfl,by kernel_rfl,by kernel_rfl,by kernel_rfl⟩
  refine WayD.one (m:=0) (g':=l2 cb sb c s D W w0 w1 w2 w3 w4 w5) (es:=#[]) (show (l1 cb sb c s D W w0 w1 w2 w3 w4 w5).status=.running by kernel_rfl) (fun w hw=>?_) (by simp) (h w5)
  obtain ⟨x,e,f,h1,h2⟩:=hK w hw
  exact hat.unsafePtr (a:=⟨c,6,none⟩) (t:=92) (n:=1) (by kernel_rfl) (by kernel_rfl) (by kernel_rfl) (by kernel_rfl) h1 h2
theorem leave1 (w:World):stepG Tryz.prog false (l2 cb sb c s D W w0 w1 w2 w3 w4 w5) w=.go (fin Tryz.prog false 1 (l2 cb sb c s D W w0 w1 w2 w3 w4 w5) fun _=>w) w #[⟨.mark (.releaseMerge ⟨c,6,none⟩),false,true⟩]:=by
  have:(fun w=>stepG Tryz.prog false (l2 cb sb c s D W w0 w1 w2 w3 w4 w5) w)=fun w=>.go (fin Tryz.prog false 1 (l2 cb sb c s D W w0 w1 w2 w3 w4 w5) fun _=>w) w #[⟨.mark (.releaseMerge ⟨c,6,none⟩),false,true⟩]:=by kernel_rfl
  exact congrFun this w
theorem leave2 (h:∀ w7,Stop 1 (l3 cb sb c s D W w0 w1 w2 w3 w4 w5 w6 w7)):WayD Tryz.prog false K (fun e=>e.mute=true) Stop 38 0 (l2b cb sb c s D W w0 w1 w2 w3 w4 w5 w6):=
  WayD.seg (p:=Event.mute) (n:=38) (m:=0) (d':=1) (fun e he=>he) (fun ws=>by kernel_rfl) fun w7=>h w7
theorem Tryz.ext116:Ext Tryz.prog 116 Tryz.f116 (Extern.Atomic.update (Op.intArith .add) .u64 true):=⟨Tryz.func116,by kernel_rfl,by kernel_rfl,by kernel_rfl,by kernel_rfl⟩
theorem l3_at:∃ ats,AtOp (l3 cb sb c s D W w0 w1 w2 w3 w4 w5 w6 w7) (.call { callee:=.value (.func 116),args:=#[.tmp 7,.tmp 8],argTypes:=ats }):=⟨#[187,88],by kernel_rfl,by kernel_rfl,by kernel_rfl,by kernel_rfl,by kernel_rfl⟩
theorem leave3 {n:Int}{w:World}(hc:w.cell? ⟨c,6,none⟩=some (.int .u64 n))(hz:w.frozen? ⟨c,6,none⟩=false) :
    stepG Tryz.prog false (l3 cb sb c s D W w0 w1 w2 w3 w4 w5 w6 w7) w=.go (l4 cb sb c s D W w0 w1 w2 w3 w4 w5 w6 w7 (IntKind.u64.wrap (n+18446744069414584320))) (w.setCell ⟨c,6,none⟩ (.int .u64 (IntKind.u64.wrap (n+18446744069414584320)))) #[⟨.cell ⟨c,6,none⟩,false,true⟩,⟨.cell ⟨c,6,none⟩,true,true⟩]:=by
  obtain ⟨ats,h⟩:=l3_at (cb:=cb) (sb:=sb) (c:=c) (s:=s) (D:=D) (W:=W) (w0:=w0) (w1:=w1) (w2:=w2) (w3:=w3) (w4:=w4) (w5:=w5) (w6:=w6) (w7:=w7)
  exact h.addA Tryz.ext116 (by kernel_rfl) (by kernel_rfl) hc hz
theorem leave4 (w:World):(frees Tryz.prog 94 1 (l4 cb sb c s D W w0 w1 w2 w3 w4 w5 w6 w7 0) w && frees Tryz.prog 94 1 (l4 cb sb c s D W w0 w1 w2 w3 w4 w5 w6 w7 4294967296) w && frees Tryz.prog 94 1 (l4 cb sb c s D W w0 w1 w2 w3 w4 w5 w6 w7 8589934592) w && frees Tryz.prog 94 1 (l4 cb sb c s D W w0 w1 w2 w3 w4 w5 w6 w7 12884901888) w)=true:=by kernel_rfl
theorem leave5 (w:World):(frees Tryz.prog 94 1 (l4 cb sb c s D W w0 w1 w2 w3 w4 w5 w6 w7 4294967297) w && frees Tryz.prog 94 1 (l4 cb sb c s D W w0 w1 w2 w3 w4 w5 w6 w7 8589934593) w && frees Tryz.prog 94 1 (l4 cb sb c s D W w0 w1 w2 w3 w4 w5 w6 w7 12884901889) w)=true:=by kernel_rfl
end
end
end Go.Proofs.Shardlog
