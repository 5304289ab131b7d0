/- Several texts in one: TameOp, Mem, MemCopy, Lone, Facts, LoneRight, Model, Rep. -/
import Derived.Test.YtblcigmggdiccaaGreatDoorPart01
import Derived.Maps.AppendAt
import Derived.Laws.CopyRow
import Derived.Laws.MakeOwn
import Derived.OwnWalk
import Derived.Test.YtblcigmggdiccaaGreatDoorChecked
import Derived.KernelRfl
import Derived.WalkKit
import Derived.Deep.RegionWith
import Derived.Deep.RegionLaw
set_option linter.unusedSectionVars false
set_option linter.unusedSimpArgs false
set_option linter.unusedVariables false
set_option maxRecDepth 100000
/- Every operation that the program is made of does the same in two such worlds: what an operation hands on. -/
namespace Go.Tame
section
variable {α β : Type} {S : Prot} {P : Program} {F : Array Func} {L : List Nat}

/-- The functions of the second program: those with a body have one in the first, too (perhaps another); those without do the same in both, or end the second's run. -/
structure Funcs (S : Prot) (P : Program) (F : Array Func) : Prop where
  num : ∀ (f : FuncId) (fn : Func), F[f]? = some fn → (fn.name == "runtime.NumGoroutine") = false
  body : ∀ (f : FuncId) (fn : Func), F[f]? = some fn → fn.body.isNone = false → ∃ fn', P.funcs[f]? = some fn' ∧ fn'.body.isNone = false ∧ (fn'.name == "runtime.NumGoroutine") = false
  val : ∀ (f : FuncId) (fn : Func) (args : Array Value) (v : World), F[f]? = some fn → fn.body.isNone = true → ∀ n v', (callFunc f args).run (withFuncs P F) v = .ok n v' → ∃ x, n = .value x
  row : ∀ (f : FuncId) (fn : Func) (L : List Nat) (args : Array Value), F[f]? = some fn → fn.body.isNone = true → T1 S P F L (callFunc f args)

theorem callFunc_enter {Q : Program} {f : FuncId} {fn : Func} {args : Array Value} (h : Q.funcs[f]? = some fn) (hb : fn.body.isNone = false) (hn : (fn.name == "runtime.NumGoroutine") = false) (x : World) :
    (callFunc f args).run Q x = .ok (.enter f args) x ∧ (callFunc f args).events Q x #[] = #[] := by
  constructor
  · unfold callFunc
    show (match Q.funcs[f]? with | none => _ | some fn => _ : Sem Next).run Q x = _
    rw [h]; simp [hb, hn]
  · unfold callFunc
    show (match Q.funcs[f]? with | none => _ | some fn => _ : Sem Next).events Q x #[] = _
    rw [h]; simp [hb, hn]

theorem t_callFunc (hF : Funcs S P F) (f : FuncId) (args : Array Value) : T1 S P F L (callFunc f args) := by
  cases hf : F[f]? with
  | none =>
    intro w v h hL
    refine ⟨v.tape, .halt (.stuck "call: no such function") v, Agree.refl _ _, Nat.le_refl _, fun t' _ => ?_, trivial⟩
    unfold callFunc
    show (match (withFuncs P F).funcs[f]? with | none => _ | some fn => _ : Sem Next).run _ _ = _
    have : (withFuncs P F).funcs[f]? = none := hf
    rw [this]; rfl
  | some fn =>
    cases hb : fn.body.isNone with
    | true => exact hF.row f fn L args hf hb
    | false =>
      obtain ⟨fn', h1, h2, h3⟩ := hF.body f fn hf hb
      intro w v h hL
      refine ⟨v.tape, .ok (.enter f args) v, Agree.refl _ _, Nat.le_refl _, fun t' _ => ?_, w, (callFunc_enter h1 h2 h3 w).1, h, Kept.refl _ _, by rw [(callFunc_enter h1 h2 h3 w).2]; simp⟩
      exact (callFunc_enter (Q := withFuncs P F) (show F[f]? = some fn from hf) hb (hF.num f fn hf) _).1

theorem t_callMethod (hF : Funcs S P F) (r : Value) (n : String) (args : Array Value) : T1 S P F L (callMethod r n args) := by
  unfold callMethod
  split
  · refine t_program rfl ?_
    refine t_bind (t_method _ _ _ _) fun p => ?_
    exact t_callFunc hF _ _
  · exact t_runtimePanic _
  · exact t_stuck _

def okBuiltin : Builtin → Bool
  | .append | .len | .delete | .copy | .clear => true
  | _ => false

def okTarget : Target → Bool
  | .builtin b _ _ _ => okBuiltin b
  | .collected _ | .coroexit _ => false
  | _ => true

theorem t_builtin (b : Builtin) (hb : okBuiltin b = true) (a : Array TypeId) (t : TypeId) (c : Array Bool) (v : Array Value) : T1 S P F L (builtin b a t c v) := by
  cases b <;> first | (cases hb; done) | skip
  · exact t_bind (t_append _ _ _) fun _ => t_pure _
  · exact t_bind (t_clear _ _ _) fun _ => t_pure _
  · exact t_bind (t_copy _ _ _) fun _ => t_pure _
  · exact t_bind (t_delete _ _ _) fun _ => t_pure _
  · exact t_bind (t_len _ _ _) fun _ => t_pure _

theorem t_invoke (hF : Funcs S P F) (t : Target) (ht : okTarget t = true) (args : Array Value) : T1 S P F L (invoke t args) := by
  unfold invoke
  split
  · exact t_runtimePanic _
  · exact t_builtin _ ht _ _ _ _
  · exact t_callFunc hF _ _
  · cases args[0]? with
    | none => exact t_stuck _
    | some r => exact t_callMethod hF _ _ _
  · cases args[0]? with
    | none => exact t_stuck _
    | some r =>
      refine t_bind (t_underlying _) fun d => ?_
      cases d <;> exact t_callMethod hF _ _ _
  · cases args[0]? with
    | none => exact t_stuck _
    | some r => exact t_bind (t_receiverVia _ _ _ _) fun _ => t_callFunc hF _ _
  · exact t_yield _ _
  · exact t_stuck _
  · exact t_pure _

/-- What a call's statement resolves to. -/
theorem resolve_ok {Q : Program} {r : Operand → Value} {c : Call} {t : TypeId} {d : Deferred} {x y : World} (h : (resolve r c t).run Q x = .ok d y) (hc : ∀ b, c.callee = .builtin b → okBuiltin b = true) : okTarget d.target = true := by
  unfold resolve at h
  split at h
  · rename_i b hb
    cases h
    exact hc _ hb
  · cases h; rfl
  · unfold Deferred.ofValue at h
    split at h
    · cases h; rfl
    · cases h; rfl
    · cases h

/-- What of the program's operations does the same in both. -/
def okOp (P : Program) : Op → Bool
  | .move _ | .assign _ | .pick .. | .alloc _ | .box .. | .build .. | .buildSlice .. | .load .. | .store .. | .nilCheck _ | .binOp .. | .unOp .. | .makeInterface .. | .makeFunc .. | .makeMap .. | .makeChan .. | .makeSlice ..
  | .slice .. | .fieldAddr .. | .field .. | .indexAddr .. | .index .. | .lookup .. | .mapUpdate .. | .insert .. | .range .. | .next .. | .entry .. | .typeAssert .. | .extract .. | .panic _ => true
  | .select cases false => cases.size == 1 && cases.all (·.send.isNone)
  | .convert src dst _ => (match P.underlying src with | some (.int _) => true | _ => false) && (match P.underlying dst with | some (.int _) => true | _ => false)
  | .call c | .defer c => match c.callee with | .builtin b => okBuiltin b | _ => true
  | _ => false

theorem t_sysEnv : T1 S P F L (sys .env) := by
  have run : ∀ (Q : Program) (w : World), (sys .env).run Q w = .ok (.strings w.os.env) w := fun _ _ => rfl
  intro w v h hL
  refine ⟨v.tape, .ok (.strings w.os.env) v, Agree.refl _ _, Nat.le_refl _, fun t' _ => ?_, w, run P w, h, Kept.refl _ _, fun e he => ?_⟩
  · rw [run]
    show Result.ok (SysRet.strings v.os.env) _ = _
    rw [h.os]; rfl
  · have hev : (sys .env).events P w #[] = #[⟨.output, true, false⟩] := rfl
    rw [hev] at he
    have : e = ⟨.output, true, false⟩ := by simpa using he
    subst this
    exact ⟨by simp, by simp, by simp, by simp, by simp⟩

theorem t_panicnil : T1 S P F L Instr.panicnil := by
  unfold Instr.panicnil
  refine t_bind t_sysEnv fun r => ?_
  cases r <;> first | exact t_stuck _ | skip
  exact t_program rfl (t_pure _)

theorem t_panic (x : Value) : T1 S P F L (Instr.panic x) := by
  unfold Instr.panic
  split
  · exact t_goPanic _
  · exact t_bind t_panicnil fun _ => t_ite _ (t_goPanic _) (t_runtimePanic _)
  · exact t_stuck _

theorem t_underlying_bind {t : TypeId} {d : TypeDesc} {f : TypeDesc → Sem β} (h : P.underlying t = some d) (k : T1 S P F L (f d)) : T1 S P F L (underlying t >>= f) := by
  refine tame_bindR (t_underlying t) fun a ha => ?_
  obtain ⟨v, v', hr⟩ := ha
  have : a = d := by
    have e : (underlying t).run (withFuncs P F) v = match P.underlying t with | some d => .ok d v | none => .halt (.stuck "no such type") v := by
      unfold underlying
      show (match P.underlying t with | some d => pure d | none => stuck "no such type" : Sem TypeDesc).run _ _ = _
      cases P.underlying t <;> rfl
    rw [e, h] at hr
    cases hr; rfl
  rw [this]; exact k

theorem t_convert (src dst : TypeId) (h : ((match P.underlying src with | some (.int _) => true | _ => false) && (match P.underlying dst with | some (.int _) => true | _ => false)) = true) (y : Value) : T1 S P F L (convert src dst y) := by
  unfold convert
  rw [Bool.and_eq_true] at h
  obtain ⟨h1, h2⟩ := h
  split at h1
  · rename_i k hk
    split at h2
    · rename_i l hl
      refine t_underlying_bind hk (t_underlying_bind hl ?_)
      cases y <;> first | exact t_intToInt _ _ | exact t_floatToInt _ _ _ | exact t_unsupported _ rfl | (rename_i o; cases o <;> exact t_unsupported _ rfl)
    · cases h2
  · cases h1

theorem t_v {s : Sem Value} (h : T1 S P F L s) : T1 S P F L (do pure (Next.value (← s)) : Sem Next) := t_bind h fun _ => t_pure _
theorem t_u {s : Sem Unit} (h : T1 S P F L s) : T1 S P F L (do s; pure Next.skip : Sem Next) := t_bind h fun _ => t_pure _

theorem t_makeChan (t : TypeId) (x : Value) : T1 S P F L (Instr.makeChan t x) := by
  unfold Instr.makeChan
  refine t_bind (t_asInt _) fun n => ?_
  refine t_bind (t_underlying _) fun d => ?_
  cases d <;> first | exact t_stuck _ | skip
  refine t_bind (t_typeInfo _) fun i => ?_
  have hn : T1 S P F L (do pure (Value.chan (some (← newObj (.chan n.toNat #[] false 0 0 false))))) := t_bind (t_new _ (fun _ _ => .chan ..)) fun _ => t_pure _
  exact t_ite _ (t_bind (t_runtimePanic _) fun _ => hn) hn

theorem t_mapM {γ δ : Type} (l : Array γ) (f : γ → Sem δ) (h : ∀ a, T1 S P F L (f a)) : T1 S P F L (l.mapM f) := t_mapArray l f h

theorem t_execOp (hF : Funcs S P F) (ρ : Operand → Value) (o : Oper) (hok : okOp P o.op = true) : T1 S P F L (execOp ρ o) := by
  unfold execOp
  obtain ⟨dst, op, ty, pos, after, guard⟩ := o
  dsimp only at hok ⊢
  cases op with
  | move => exact t_pure _
  | assign => exact t_pure _
  | pick => exact t_bind (t_asBool _) fun _ => t_pure _
  | alloc => exact t_v (t_alloc _ _ _)
  | box => exact t_v (t_box _ _)
  | build => exact t_v (t_build _ _)
  | buildSlice => exact t_v (t_buildSlice _ _ _)
  | load => exact t_v (t_loadAt _ _)
  | store => exact t_u (t_storeAt _ _ _)
  | nilCheck x =>
    dsimp only
    split
    · exact t_runtimePanic _
    · exact t_runtimePanic _
    · exact t_runtimePanic _
    · split
      · exact t_runtimePanic _
      · refine t_program rfl ?_
        refine t_bind (t_nilAhead _ _ _ _) fun r => ?_
        exact t_ite _ (t_bind (t_unsupported _ rfl) fun _ => t_pure _) (t_pure _)
      · exact t_pure _
    · exact t_pure _
  | binOp => exact t_v (t_bind (t_eqGuard _ _ _ _ _ _) fun _ => t_binOp _ _ _ _)
  | unOp => exact t_v (t_unary _ _)
  | convert => exact t_v (t_convert _ _ hok _)
  | makeInterface => exact t_v (t_makeInterface _ _)
  | makeFunc => exact t_v (t_makeFunc _ _ _)
  | makeMap => exact t_v (t_makeMap _ _)
  | makeChan => exact t_v (t_makeChan _ _)
  | makeSlice => exact t_v (t_makeSlice _ _ _)
  | slice => exact t_v (t_sliceAt _ _ _ _ _)
  | fieldAddr => exact t_v (t_fieldAt _ _ _)
  | field => exact t_v (t_field _ _ _)
  | indexAddr => exact t_v (t_indexAt _ _ _)
  | index => exact t_v (t_index _ _ _)
  | lookup => exact t_v (t_lookup _ _ _ _)
  | mapUpdate => exact t_u (t_mapUpdate _ _ _ _)
  | insert => exact t_u (t_mapUpdate _ _ _ _)
  | range => exact t_v (t_range _ _)
  | next => exact t_v (t_next _ _ _)
  | entry => exact t_v (t_entry _)
  | typeAssert => exact t_v (t_typeAssert _ _ _ _)
  | extract => exact t_v (t_extract _ _)
  | panic => exact t_v (t_panic _)
  | call c =>
    refine tame_bindR (t_resolve _ _ _) fun d hd => ?_
    obtain ⟨x, y, hr⟩ := hd
    exact t_invoke hF _ (resolve_ok hr fun b hb => by simp only [okOp, hb] at hok; exact hok) _
  | defer c => exact t_bind (t_resolve _ _ _) fun _ => t_pure _
  | select cases blocking => exact t_bind (t_mapArray _ _ fun _ => t_bind (t_zeroValue _) fun _ => t_pure _) fun _ => t_pure _
  | _ => cases hok

/-! ### what an operation hands on -/
def okNext (F : Array Func) : Next → Bool
  | .value _ | .skip => true
  | .enter f _ => (F[f]?).any fun fn => !fn.body.isNone
  | .defer d => okTarget d.target
  | .comm c false .select => c.size == 1 && c.all (·.send.isNone)
  | _ => false

/-- What a call hands on. -/
def okCall (F : Array Func) : Next → Bool
  | .value _ => true
  | .enter f _ => (F[f]?).any fun fn => !fn.body.isNone
  | _ => false
theorem okNext_of_call {n : Next} (h : okCall F n = true) : okNext F n = true := by
  cases n <;> first | exact h | rfl | cases h

/-- It comes to no value. -/
def Never {α : Type} (s : Sem α) : Prop := ∀ (Q : Program) (w w' : World) (a : α), s.run Q w ≠ .ok a w'
theorem never_goPanic (x : Value) : Never (goPanic x : Sem α) := fun _ _ _ _ h => by cases h
theorem never_stuck (m : String) : Never (stuck m : Sem α) := fun _ _ _ _ h => by cases h
theorem never_unsupported (u : Unsupported) : Never (unsupported u : Sem α) := fun _ _ _ _ h => by cases h
theorem never_bind {x : Sem α} {f : α → Sem β} (h : ∀ a, Never (f a)) : Never (x >>= f) := by
  intro Q w w' b hb
  rw [Sem.run_bind] at hb
  cases hr : x.run Q w with
  | ok a w₁ => rw [hr] at hb; exact h a Q _ _ _ hb
  | halt y w₁ => rw [hr] at hb; cases hb
theorem never_runtimePanic (e : RuntimeError) : Never (runtimePanic e : Sem α) := by
  unfold runtimePanic
  refine never_bind fun p => ?_
  cases e <;> first | exact never_goPanic _ | exact never_bind fun _ => never_bind fun _ => never_goPanic _ | skip
  all_goals (first | exact never_bind fun _ => never_goPanic _ | (refine never_bind fun _ => ?_; exact never_bind fun _ => never_goPanic _))

theorem next_v {s : Sem Value} {Q : Program} {v v' : World} {n : Next} (h : (do pure (Next.value (← s)) : Sem Next).run Q v = .ok n v') : okNext F n = true := by
  rw [Sem.run_bind] at h
  cases hr : s.run Q v with
  | ok a w => rw [hr] at h; cases h; rfl
  | halt y w => rw [hr] at h; cases h
theorem call_v {s : Sem Value} {Q : Program} {v v' : World} {n : Next} (h : (do pure (Next.value (← s)) : Sem Next).run Q v = .ok n v') : okCall F n = true := by
  rw [Sem.run_bind] at h
  cases hr : s.run Q v with
  | ok a w => rw [hr] at h; cases h; rfl
  | halt y w => rw [hr] at h; cases h
theorem next_u {s : Sem Unit} {Q : Program} {v v' : World} {n : Next} (h : (do s; pure Next.skip : Sem Next).run Q v = .ok n v') : okNext F n = true := by
  rw [Sem.run_bind] at h
  cases hr : s.run Q v with
  | ok a w => rw [hr] at h; cases h; rfl
  | halt y w => rw [hr] at h; cases h

theorem next_callFunc (hF : Funcs S P F) {f : FuncId} {args : Array Value} {v v' : World} {n : Next} (h : (callFunc f args).run (withFuncs P F) v = .ok n v') : okCall F n = true := by
  cases hf : F[f]? with
  | none =>
    unfold callFunc at h
    have e : (match (withFuncs P F).funcs[f]? with | none => (stuck "call: no such function" : Sem Next) | some fn => _).run (withFuncs P F) v = .ok n v' := h
    have : (withFuncs P F).funcs[f]? = none := hf
    rw [this] at e; cases e
  | some fn =>
    cases hb : fn.body.isNone with
    | true => obtain ⟨x, rfl⟩ := hF.val f fn args v hf hb n v' h; rfl
    | false =>
      rw [(callFunc_enter (Q := withFuncs P F) (show F[f]? = some fn from hf) hb (hF.num f fn hf) v).1] at h
      cases h
      show (F[f]?).any _ = true
      rw [hf]
      show (!fn.body.isNone) = true
      rw [hb]; rfl

theorem run_bind_ok {x : Sem α} {f : α → Sem β} {Q : Program} {v v' : World} {b : β} (h : (x >>= f).run Q v = .ok b v') : ∃ a v₁, x.run Q v = .ok a v₁ ∧ (f a).run Q v₁ = .ok b v' := by
  rw [Sem.run_bind] at h
  cases hr : x.run Q v with
  | ok a v₁ => rw [hr] at h; exact ⟨a, v₁, rfl, h⟩
  | halt y v₁ => rw [hr] at h; cases h

def NoLoop (v : World) : Prop := ∀ (i : Nat) (l : Loop), v.heap[i]? ≠ some (Obj.loop l)
theorem Like.noLoop {w v : World} (h : Like S w v) : NoLoop v := by
  intro i l hi
  have hlt : i < v.heap.size := (Array.getElem?_eq_some_iff.1 hi).1
  have hlw : i < w.heap.size := by rw [← h.size]; exact hlt
  have hw : w.heap[i]? = Option.some (w.heap[i]'hlw) := Array.getElem?_eq_getElem hlw
  have := h.obj i _ _ hw hi
  revert this
  generalize w.heap[i]'hlw = o
  intro this
  cases this with
  | same _ hp => exact hp

theorem next_callMethod (hF : Funcs S P F) {r : Value} {m : String} {args : Array Value} {v v' : World} {n : Next} (h : (callMethod r m args).run (withFuncs P F) v = .ok n v') : okCall F n = true := by
  unfold callMethod at h
  split at h
  · obtain ⟨p, v₁, _, h⟩ := run_bind_ok h
    obtain ⟨q, v₂, _, h⟩ := run_bind_ok h
    exact next_callFunc hF h
  · exact absurd h (never_runtimePanic _ _ _ _ _)
  · exact absurd h (never_stuck _ _ _ _ _)

theorem next_builtin {b : Builtin} (hb : okBuiltin b = true) {a : Array TypeId} {t : TypeId} {c : Array Bool} {args : Array Value} {v v' : World} {n : Next} (h : (builtin b a t c args).run (withFuncs P F) v = .ok n v') : okCall F n = true := by
  cases b <;> first | (cases hb; done) | exact call_v h

theorem next_invoke (hF : Funcs S P F) {t : Target} (ht : okTarget t = true) {args : Array Value} {v v' : World} {n : Next} (hl : NoLoop v) (h : (invoke t args).run (withFuncs P F) v = .ok n v') : okCall F n = true := by
  unfold invoke at h
  split at h
  · exact absurd h (never_runtimePanic _ _ _ _ _)
  · exact next_builtin ht h
  · exact next_callFunc hF h
  · cases ha : args[0]? with
    | none => rw [ha] at h; exact absurd h (never_stuck _ _ _ _ _)
    | some r => rw [ha] at h; exact next_callMethod hF h
  · cases ha : args[0]? with
    | none => rw [ha] at h; exact absurd h (never_stuck _ _ _ _ _)
    | some r =>
      rw [ha] at h
      obtain ⟨d, v₁, _, h⟩ := run_bind_ok h
      exact next_callMethod hF h
  · cases ha : args[0]? with
    | none => rw [ha] at h; exact absurd h (never_stuck _ _ _ _ _)
    | some r =>
      rw [ha] at h
      obtain ⟨d, v₁, _, h⟩ := run_bind_ok h
      exact next_callFunc hF h
  · exfalso
    rename_i l _
    unfold Instr.yield Instr.getLoop at h
    obtain ⟨d, v₁, h1, _⟩ := run_bind_ok h
    obtain ⟨o, v₂, h2, h3⟩ := run_bind_ok h1
    cases hi : v.heap[l]? with
    | none => simp [getObj, Sem.run, hi] at h2
    | some o' =>
      cases o' <;> simp [getObj, Sem.run, hi] at h2 <;> first
        | (obtain ⟨rfl, rfl⟩ := h2; exact absurd h3 (never_stuck _ _ _ _ _))
        | exact hl _ _ hi
  · exact absurd h (never_stuck _ _ _ _ _)
  · cases ht

theorem mapM_one {γ δ : Type} {f : γ → Sem δ} {s : γ} {Q : Program} {v v' : World} {d : Array δ} (h : ((#[s] : Array γ).mapM f).run Q v = .ok d v') : ∃ a v₁, (f s).run Q v = .ok a v₁ ∧ d = #[a] := by
  rw [Array.mapM_eq_mapM_toList] at h
  simp only [List.mapM_cons, List.mapM_nil] at h
  have h' : (Functor.map List.toArray (f s >>= fun a => (pure [] : Sem (List δ)) >>= fun l => pure (a :: l)) : Sem (Array δ)).run Q v = .ok d v' := h
  rw [map_eq_pure_bind] at h'
  obtain ⟨l, v₁, h1, h2⟩ := run_bind_ok h'
  obtain ⟨a, v₂, h3, h4⟩ := run_bind_ok h1
  cases h4
  cases h2
  exact ⟨a, _, h3, rfl⟩

theorem next_execOp (hF : Funcs S P F) (ρ : Operand → Value) {o : Oper} (hok : okOp P o.op = true) {v v' : World} {n : Next} (hl : NoLoop v) (h : (execOp ρ o).run (withFuncs P F) v = .ok n v') : okNext F n = true := by
  unfold execOp at h
  obtain ⟨dst, op, ty, pos, after, guard⟩ := o
  dsimp only at hok h
  cases op with
  | move => cases h; rfl
  | assign => cases h; rfl
  | pick =>
    obtain ⟨b, v₁, _, h⟩ := run_bind_ok h
    cases h; rfl
  | nilCheck x =>
    dsimp only at h
    split at h
    · exact absurd h (never_runtimePanic _ _ _ _ _)
    · exact absurd h (never_runtimePanic _ _ _ _ _)
    · exact absurd h (never_runtimePanic _ _ _ _ _)
    · split at h
      · exact absurd h (never_runtimePanic _ _ _ _ _)
      · obtain ⟨p, v₁, _, h⟩ := run_bind_ok h
        obtain ⟨q, v₂, _, h⟩ := run_bind_ok h
        split at h
        · obtain ⟨_, _, h3, _⟩ := run_bind_ok h
          exact absurd h3 (never_unsupported _ _ _ _ _)
        · cases h; rfl
      · cases h; rfl
    · cases h; rfl
  | call c =>
    obtain ⟨d, v₁, h1, h2⟩ := run_bind_ok h
    have hv : v₁ = v := by
      unfold resolve at h1
      split at h1
      · cases h1; rfl
      · cases h1; rfl
      · unfold Deferred.ofValue at h1
        split at h1
        · cases h1; rfl
        · cases h1; rfl
        · cases h1
    rw [hv] at h2
    exact okNext_of_call (next_invoke hF (resolve_ok h1 fun b hb => by simp only [okOp, hb] at hok; exact hok) hl h2)
  | defer c =>
    obtain ⟨d, v₁, h1, h2⟩ := run_bind_ok h
    cases h2
    exact resolve_ok h1 fun b hb => by simp only [okOp, hb] at hok; exact hok
  | select cases blocking =>
    cases blocking with
    | true => cases hok
    | false =>
      obtain ⟨d, v₁, h1, h2⟩ := run_bind_ok h
      cases h2
      simp only [okOp, Bool.and_eq_true, beq_iff_eq] at hok
      obtain ⟨l⟩ := cases
      match l, hok with
      | [], hok => simp at hok
      | [s], hok =>
        obtain ⟨a, v₂, h3, rfl⟩ := mapM_one h1
        obtain ⟨z, v₃, _, h4⟩ := run_bind_ok h3
        cases h4
        have hs : s.send = none := by simpa using hok.2
        simp [okNext, hs]
      | _ :: _ :: _, hok => simp at hok
  | go | send | recv | ready | waits | sliceToArrayPointer | mapEntry | entryStore => cases hok
  | store | mapUpdate | insert => exact next_u h
  | _ => exact next_v h
end
end Go.Tame
/- Whose a block is; what a stretch leaves as it was; rows of one's own. -/
namespace Go.Mem
open Go
/-- Whose: of which cluster (0: nobody's, never written any more); what of it; which one. -/
abbrev Role := Nat × Nat × Nat
abbrev Lab := Nat → Role
/-- What is nobody's: it is read alone. -/
def still : Role := (0, 0, 0)
/-- Only what is M's has turned, and new blocks have been laid. -/
structure Fr (Λ Λ' : Lab) (M : Role → Prop) (w w' : World) : Prop where
  size : w.heap.size ≤ w'.heap.size
  old : ∀ x, x < w.heap.size → ¬ M (Λ x) → w'.heap[x]? = w.heap[x]?
  lab : ∀ x, x < w.heap.size → Λ' x = Λ x
  os : w'.os = w.os
section
variable {Λ Λ' Λ₂ : Lab} {M M' : Role → Prop} {w w' w₂ : World}
theorem Fr.refl (Λ : Lab) (M : Role → Prop) (w : World) : Fr Λ Λ M w w := ⟨Nat.le_refl _, fun _ _ _ => rfl, fun _ _ => rfl, rfl⟩
theorem Fr.trans (h : Fr Λ Λ' M w w') (k : Fr Λ' Λ₂ M w' w₂) : Fr Λ Λ₂ M w w₂ :=
  ⟨Nat.le_trans h.size k.size, fun x hx hm => (k.old x (by have := h.size; omega) (by rw [h.lab x hx]; exact hm)).trans (h.old x hx hm), fun x hx => (k.lab x (by have := h.size; omega)).trans (h.lab x hx), k.os.trans h.os⟩
theorem Fr.mono (h : Fr Λ Λ' M w w') (hm : ∀ r, M r → M' r) : Fr Λ Λ' M' w w' := ⟨h.size, fun x hx hn => h.old x hx fun z => hn (hm _ z), h.lab, h.os⟩
theorem Fr.same (hh : w'.heap = w.heap) (ho : w'.os = w.os) : Fr Λ Λ M w w' := ⟨by rw [hh]; exact Nat.le_refl _, fun _ _ _ => by rw [hh], fun _ _ => rfl, ho⟩
theorem Fr.drew (h : Fr Λ Λ' M w w') : Fr Λ Λ' M w w'.drew := ⟨h.size, h.old, h.lab, h.os⟩
theorem alloc_size (w : World) (o : Obj) : (w.alloc o).heap.size = w.heap.size + 1 := by show (w.heap.push o).size = _; rw [Array.size_push]
theorem alloc_get (w : World) (o : Obj) (i : Nat) : (w.alloc o).heap[i]? = if i = w.heap.size then some o else w.heap[i]? := by
  show (w.heap.push o)[i]? = _
  rw [Array.getElem?_push]
theorem Fr.alloc' (w : World) (o : Obj) : Fr Λ Λ M w (w.alloc o) := ⟨by rw [alloc_size]; omega, fun x hx _ => by rw [alloc_get, if_neg (by omega)], fun _ _ => rfl, rfl⟩
theorem Fr.alloc (h : Fr Λ Λ' M w w') (o : Obj) : Fr Λ Λ' M w (w'.alloc o) := h.trans (Fr.alloc' _ _)
theorem setCell_size (w : World) (a : Addr) (y : Value) : (w.setCell a y).heap.size = w.heap.size := by simp [World.setCell]
theorem setCell_ne {w : World} {a : Addr} {y : Value} {i : Nat} (h : i ≠ a.block) : (w.setCell a y).heap[i]? = w.heap[i]? := by
  simp only [World.setCell, Array.getElem?_modify]
  rw [if_neg (Ne.symm h)]
theorem setCell_os (w : World) (a : Addr) (y : Value) : (w.setCell a y).os = w.os := rfl
theorem Fr.set' {a : Addr} {y : Value} (hm : M (Λ a.block)) : Fr Λ Λ M w (w.setCell a y) := ⟨by rw [setCell_size]; exact Nat.le_refl _, fun x _ hn => setCell_ne fun e => hn (e ▸ hm), fun _ _ => rfl, rfl⟩
theorem Fr.set (h : Fr Λ Λ' M w w') {a : Addr} {y : Value} (hm : M (Λ' a.block)) : Fr Λ Λ' M w (w'.setCell a y) := h.trans (Fr.set' hm)
/-- A block that has just been laid may be written. -/
theorem Fr.setNew (h : Fr Λ Λ' M w w') {a : Addr} {y : Value} (hn : w.heap.size ≤ a.block) : Fr Λ Λ' M w (w'.setCell a y) :=
  ⟨by rw [setCell_size]; exact h.size, fun x hx hm => (setCell_ne (by omega)).trans (h.old x hx hm), h.lab, h.os⟩
theorem Fr.grown {row : Option Nat} (h : w.grownBy w' row) (hr : ∀ b, row = some b → M (Λ b)) : Fr Λ Λ M w w' :=
  ⟨h.size, fun x hx hm => h.block x hx fun e => hm (hr x e.symm), fun _ _ => rfl, h.os⟩
/-- New labels for what has been laid since. -/
theorem Fr.relab (h : Fr Λ Λ' M w w') (hl : ∀ x, x < w.heap.size → Λ₂ x = Λ' x) : Fr Λ Λ₂ M w w' := ⟨h.size, h.old, fun x hx => (hl x hx).trans (h.lab x hx), h.os⟩

/-- A block, and whose it is. -/
structure At (w : World) (Λ : Lab) (ρ : Role) (b : Nat) (o : Obj) : Prop where
  obj : w.heap[b]? = some o
  lab : Λ b = ρ
section
variable {ρ : Role} {b : Nat} {o : Obj}
theorem At.lt (h : At w Λ ρ b o) : b < w.heap.size := (Array.getElem?_eq_some_iff.1 h.obj).1
theorem At.fr (h : At w Λ ρ b o) (f : Fr Λ Λ' M w w') (hm : ¬ M ρ) : At w' Λ' ρ b o := ⟨(f.old b h.lt (by rw [h.lab]; exact hm)).trans h.obj, (f.lab b h.lt).trans h.lab⟩
theorem At.ne {ρ' : Role} {b' : Nat} {o' : Obj} (h : At w Λ ρ b o) (k : At w' Λ ρ' b' o') (hn : ρ ≠ ρ') : b ≠ b' := fun e => hn (by rw [← h.lab, e, k.lab])
theorem At.cell {c : Array Value} {e : TypeId} {f : Nat × Nat} (h : At w Λ ρ b (.cells c e f)) {i : Nat} {v : Value} (hv : c[i]? = some v) : w.cell? ⟨b, i, none⟩ = some v := by
  unfold World.cell?
  rw [h.obj]
  simpa using hv
theorem At.thaw {c : Array Value} {e : TypeId} {f : Nat × Nat} (h : At w Λ ρ b (.cells c e f)) {i : Nat} (hi : ¬ (f.1 ≤ i ∧ i < f.2)) : w.frozen? ⟨b, i, none⟩ = false := by
  unfold World.frozen?
  rw [h.obj]
  obtain ⟨lo, hi'⟩ := f
  dsimp only at hi ⊢
  rw [Bool.and_eq_false_iff, decide_eq_false_iff_not, decide_eq_false_iff_not]
  omega
theorem At.set {c : Array Value} {e : TypeId} {f : Nat × Nat} (h : At w Λ ρ b (.cells c e f)) (i : Nat) (v : Value) : At (w.setCell ⟨b, i, none⟩ v) Λ ρ b (.cells (c.setIfInBounds i v) e f) := by
  refine ⟨?_, h.lab⟩
  simp only [World.setCell, Array.getElem?_modify, if_true, h.obj]
  rfl
theorem At.new (w : World) (Λ : Lab) (o : Obj) : At (w.alloc o) (fun x => if x = w.heap.size then ρ else Λ x) ρ w.heap.size o := ⟨by rw [alloc_get, if_pos rfl], by simp⟩
end

/-- A row of one's own: from its block's first cell on. -/
structure Row (w : World) (Λ : Lab) (ρ : Role) (e : TypeId) (size : Nat) (v : Value) (n : Nat) (xs : List Value) : Prop where
  own : w.ownsRow 0 e size v n xs
  lab : ∀ b, v.ownBlock = some b → Λ b = ρ
section
variable {ρ : Role} {e : TypeId} {size n : Nat} {v : Value} {xs : List Value}
theorem own_keep {base : Nat} (h : w.ownsRow base e size v n xs) (hb : ∀ b, v.ownBlock = some b → w'.heap[b]? = w.heap[b]?) : w'.ownsRow base e size v n xs := by
  obtain ⟨h1, h2⟩ := h
  refine ⟨h1, ?_⟩
  rcases h2 with h2 | ⟨g, cap, cur, rfl, h3, h4, h5⟩
  · exact .inl h2
  · exact .inr ⟨g, cap, cur, rfl, h3, by rw [hb g rfl]; exact h4, h5⟩
theorem own_lt {base : Nat} (h : w.ownsRow base e size v n xs) {b : Nat} (hb : v.ownBlock = some b) : b < w.heap.size := by
  rcases h.2 with ⟨rfl, _⟩ | ⟨g, cap, cur, rfl, h3, h4, h5⟩
  · cases hb
  · cases hb; exact (Array.getElem?_eq_some_iff.1 h4).1
theorem own_zero {base : Nat} (h : w.ownsRow base e size v n xs) : w.ownsRow 0 e size v n xs := by
  obtain ⟨h1, h2⟩ := h
  refine ⟨h1, ?_⟩
  rcases h2 with h2 | ⟨g, cap, cur, rfl, h3, h4, h5⟩
  · exact .inl h2
  · exact .inr ⟨g, cap, cur, rfl, Nat.zero_le _, h4, h5⟩
theorem Row.nil (w : World) (Λ : Lab) (ρ : Role) (e : TypeId) (size : Nat) : Row w Λ ρ e size (.slice none 0 0) 0 [] := ⟨World.ownsRow_nil _ _ _ _, fun b h => by cases h⟩
theorem Row.fr (h : Row w Λ ρ e size v n xs) (f : Fr Λ Λ' M w w') (hm : ¬ M ρ) : Row w' Λ' ρ e size v n xs :=
  ⟨own_keep h.own fun b hb => f.old b (own_lt h.own hb) (by rw [h.lab b hb]; exact hm), fun b hb => (f.lab b (own_lt h.own hb)).trans (h.lab b hb)⟩
theorem Row.slice (h : Row w Λ ρ e size v n xs) : ∃ o c, v = .slice o n c := by
  rcases h.own.2 with ⟨rfl, rfl⟩ | ⟨g, cap, cur, rfl, _⟩
  · exact ⟨_, _, rfl⟩
  · exact ⟨_, _, rfl⟩
theorem Row.len (h : Row w Λ ρ e size v n xs) : xs.length = n * size := h.own.1
theorem Row.some (h : Row w Λ ρ e size v n xs) (hn : 0 < n) : ∃ g cap, v = .slice (some ⟨g, 0, none⟩) n cap ∧ n ≤ cap ∧ cap ≤ maxLen ∧ g < w.heap.size ∧ Λ g = ρ := by
  rcases h.own.2 with ⟨_, rfl⟩ | ⟨g, cap, cur, rfl, h3, h4, h5, h6, _⟩
  · omega
  · exact ⟨g, cap, rfl, h5, h6, (Array.getElem?_eq_some_iff.1 h4).1, h.lab g rfl⟩
theorem Row.cell (h : Row w Λ ρ e size v n xs) {g : Nat} (hg : v.ownBlock = Option.some g) {j : Nat} {u : Value} (hu : xs[j]? = Option.some u) : w.cell? ⟨g, j, none⟩ = Option.some u := by
  have := h.own.cells hg j u hu
  have hadd : (⟨g, 0, none⟩ : Addr).add j = ⟨g, j, none⟩ := by unfold Addr.add; split <;> simp_all
  rw [hadd] at this
  exact this
/-- What 'append' leaves. -/
theorem Row.append {m : Nat} {news : List Value} {v' : Value} (h : Row w Λ ρ e size v n xs) (hr : w'.ownsRow 0 e size v' (n + m) (xs ++ news)) (hg : w.grownBy w' v.ownBlock) (hl : v'.ownBlock = v.ownBlock ∨ v'.ownBlock = Option.some w.heap.size) :
    ∃ Λ', Fr Λ Λ' (· = ρ) w w' ∧ Row w' Λ' ρ e size v' (n + m) (xs ++ news) := by
  have f : Fr Λ Λ (· = ρ) w w' := Fr.grown hg h.lab
  refine ⟨fun x => if x = w.heap.size then ρ else Λ x, f.relab fun x hx => if_neg (by omega), hr, fun b hb => ?_⟩
  by_cases e : b = w.heap.size
  · rw [if_pos e]
  · rw [if_neg e]
    rcases hl with z | z
    · exact h.lab b (z ▸ hb)
    · rw [z] at hb; cases hb; exact absurd rfl e
end
end
end Go.Mem
/- Rows made and copied whole, of elements of any size. -/
namespace Go.Mem
open Go
section
variable {P : Program} {w : World}
theorem alloc_setRow (w : World) (x y : Array Value) (e : TypeId) : (w.alloc (.cells x e)).setRow w.heap.size y = w.alloc (.cells y e) := by
  show ({ w with heap := (w.heap.push (.cells x e)).modify w.heap.size _ } : World) = { w with heap := w.heap.push (.cells y e) }
  congr 1
  apply Array.ext_getElem?
  intro i
  rw [Array.getElem?_modify, Array.getElem?_push, Array.getElem?_push]
  by_cases h : i = w.heap.size
  · subst h; simp
  · rw [if_neg h, if_neg h, if_neg (Ne.symm h)]
/-- A row copied whole onto a new one. -/
theorem run_copy_rows {dT sT ty e : TypeId} {size n c c' : Nat} {src : Addr} {x : Array Value} {cs : List Value} (hu : P.underlying dT = some (.slice e)) (hs : (P.info? e).map (·.size) = some size) (hl : cs.length = n * size) (hx : x.size = n * size)
    (hc : ∀ j v, cs[j]? = some v → (w.alloc (.cells x e)).cell? (src.add j) = some v) (h1 : ∀ v ∈ cs, v.oneCell' = true) :
    (Builtin.copy_ #[dT, sT] ty #[.slice (some ⟨w.heap.size, 0, none⟩) n c, .slice (some src) n c']).run P (w.alloc (.cells x e)) = .ok (goInt n) (w.alloc (.cells cs.toArray e)) := by
  have hld := run_loadCells_list (P := P) (w := w.alloc (.cells x e)) src cs hc
  have hg : (w.alloc (.cells x e)).heap[w.heap.size]? = some (.cells x e (0, 0)) := by rw [alloc_get, if_pos rfl]
  have hst := run_storeCells_at P w.heap.size 0 e cs 0 x (w.alloc (.cells x e)) hg (by omega) h1
  have hfin : (w.alloc (.cells x e)).setRow w.heap.size (x.toList.take (0 + 0) ++ cs ++ x.toList.drop (0 + 0 + cs.length)).toArray = w.alloc (.cells cs.toArray e) := by
    rw [alloc_setRow, Nat.zero_add, Nat.zero_add, List.take_zero, List.nil_append, hl, List.drop_of_length_le (by simp [hx]), List.append_nil]
  rw [hfin] at hst
  cases hq : P.info? e with
  | none => simp [hq] at hs
  | some i =>
    have hi : i.size = size := by simpa [hq] using hs
    simp [Builtin.copy_, run_underlying hu, Builtin.lenOf, Builtin.firstCells, sizeOf, typeInfo, hq, hi, ← hl, hld, hst]
theorem wpList_make_rows {ops : Array Oper} {rest : List Oper} {o : Oper} {a : Act} {Q : Exit → Act → World → Prop} (hg : o.guard = none) (l c : Operand) (t : TypeId) (hop : o.op = Op.makeSlice t l c)
    (e : TypeId) (i : TypeInfo) (z : Value) (size n : Nat) (h1 : P.underlying t = some (.slice e)) (h2 : P.info? e = some i) (h3 : i.zero = some z) (h4 : i.size = size) (kl kc : IntKind) (hl : a.eval l = .int kl n) (hc : a.eval c = .int kc n) (b2 : i.bytes * n ≤ 281474976710656) (b3 : n ≤ maxLen)
    (hK : wpList P ops Q rest (a.put o.dst (.slice (some ⟨w.heap.size, 0, none⟩) n n)) (w.alloc (.cells (madeCells z.cells (n * size)) e))) : wpList P ops Q (o :: rest) a w := by
  refine wpList_plain hg fun K hK' => ?_
  have h63 : (n : Int) ≤ 9223372036854775807 := by unfold maxLen at b3; omega
  have hb : (i.bytes : Int) * (n : Int) ≤ 281474976710656 := by
    have h : ((i.bytes * n : Nat) : Int) ≤ 281474976710656 := by omega
    rwa [Int.natCast_mul] at h
  have hr := run_make (P := P) w t e i z h1 h2 h3 kl kc n n (by omega) (Int.le_refl _) hb h63
  simp only [Int.toNat_natCast, h4] at hr
  unfold Oper.wp
  simp [execOp, hop, hl, hc, hr, Result.andThen]
  exact hK' _ _ hK
theorem wpList_copy_rows {ops : Array Oper} {rest : List Oper} {o : Oper} {a : Act} {Q : Exit → Act → World → Prop} (hgd : o.guard = none) (d s : Operand) (dT sT : TypeId)
    (ho : o.op = .call { callee := .builtin .copy, args := #[d, s], argTypes := #[dT, sT] }) (e : TypeId) (size n c c' : Nat) (src : Addr) (x : Array Value) (cs : List Value) (hu : P.underlying dT = some (.slice e)) (hs : (P.info? e).map (·.size) = some size) (hl : cs.length = n * size) (hx : x.size = n * size)
    (hd : a.eval d = .slice (some ⟨w.heap.size, 0, none⟩) n c) (hsv : a.eval s = .slice (some src) n c')
    (hc : ∀ j v, cs[j]? = some v → (w.alloc (.cells x e)).cell? (src.add j) = some v) (h1 : ∀ v ∈ cs, v.oneCell' = true)
    (h : wpList P ops Q rest (a.put o.dst (goInt n)) (w.alloc (.cells cs.toArray e))) : wpList P ops Q (o :: rest) a (w.alloc (.cells x e)) := by
  refine wpList_plain hgd fun K hK => ?_
  have hrun := run_copy_rows (P := P) (dT := dT) (sT := sT) (ty := o.type) (c := c) (c' := c') hu hs hl hx hc h1
  unfold Oper.wp
  simp [execOp, ho, resolve, invoke, builtin, hd, hsv, hrun, Result.andThen]
  exact hK _ _ h
theorem row_new {Λ : Lab} {ρ : Role} {e : TypeId} {size n : Nat} {xs : List Value} (hl : xs.length = n * size) (h63 : n ≤ maxLen) : Row (w.alloc (.cells xs.toArray e)) (fun x => if x = w.heap.size then ρ else Λ x) ρ e size (.slice (some ⟨w.heap.size, 0, none⟩) n n) n xs := by
  refine ⟨⟨hl, .inr ⟨_, n, xs.toArray, rfl, Nat.zero_le _, by rw [alloc_get, if_pos rfl], Nat.le_refl _, h63, by simp [hl], ?_⟩⟩, fun b hb => by cases hb; simp⟩
  rw [← hl]
  simp
end
end Go.Mem
/- The program as it is run alone: the mutex's two methods have stand-ins; what starts or ends goroutines is barred, and so is what nobody calls alone. -/
namespace Go.Proofs
open Go
/-- The first row of a stand-in: an end, if it has been handed more than two; what stands at the address is compared. -/
def standOps (k : Int) : Array Oper :=
  #[{ dst := some 2, op := .assign (.const (.bool true)), type := 4, pos := "", after := #[], guard := none }, { dst := none, op := .load 21 (.const (.pointer none)), type := 21, pos := "", after := #[], guard := some (0, true) },
    { dst := some 1, op := .load 21 (.tmp 0), type := 21, pos := "", after := #[], guard := none }, { dst := some 1, op := .binOp .eql 21 (.tmp 1) (.const (.int .i32 k)) 21, type := 4, pos := "", after := #[], guard := none }]
def standPut (n : Int) : Array Oper := #[{ dst := none, op := .store 21 (.tmp 0) (.const (.int .i32 n)), type := 0, pos := "", after := #[], guard := none }]
/-- A stand-in: what stands at the address must be k; then it is n. -/
def standIn (k n : Int) : Code := .seq (.region 0 (standOps k) false) (.cond (.tmp 1) (.seq (.region 1 (standPut n) false) .ret) (.refuse ""))
/-- Those with a body that must not be called alone. -/
def deadFn (f : Nat) : Bool := f == 25 || f == 32 || f == 34 || f == 38 || f == 41 || f == 121 || f == 130 || f == 141 || f == 250 || f == 123
/-- Those without a body that may be called alone. -/
def liveRow (f : Nat) : Bool := f == 84 || f == 85 || f == 86 || f == 88 || f == 118 || f == 119 || f == 288 || f == 303 || f == 304 || f == 305 || f == 306
def loneFn (f : Nat) (fn : Func) : Func :=
  if f == 90 then { fn with ntmps := 2, body := some (standIn 0 1) }
  else if f == 91 then { fn with ntmps := 2, body := some (standIn 1 0) }
  else match fn.body with
    | some c => { fn with body := some (if deadFn f then .refuse "" else c) }
    | none => if liveRow f then fn else { fn with name := "dead", origin := "dead" }
noncomputable def Tryz.FL : Array Func := Tryz.prog.funcs.mapIdx loneFn
noncomputable def Tryz.L : Program := Go.Tame.withFuncs Tryz.prog Tryz.FL
end Go.Proofs
/- What the loader says of the program, said of it as it is run alone. -/
namespace Go.Proofs
open Go
section
variable (P : Program) (F : Array Func)
theorem wf_funcs : (Go.Tame.withFuncs P F).funcs = F := rfl
theorem wf_underlying (t : TypeId) : (Go.Tame.withFuncs P F).underlying t = P.underlying t := rfl
theorem wf_rt : (Go.Tame.withFuncs P F).rt = P.rt := rfl
theorem wf_depth : (Go.Tame.withFuncs P F).depth = P.depth := rfl
theorem wf_types : (Go.Tame.withFuncs P F).types = P.types := rfl
theorem wf_globals : (Go.Tame.withFuncs P F).globals = P.globals := rfl
theorem wf_runUnderlying (t : TypeId) (w : World) : Sem.run (Go.Tame.withFuncs P F) (underlying t) w = Sem.run P (underlying t) w := by
  show (match P.underlying t with | some d => pure d | none => stuck _ : Sem TypeDesc).run (Go.Tame.withFuncs P F) w = (match P.underlying t with | some d => pure d | none => stuck _ : Sem TypeDesc).run P w
  cases P.underlying t <;> rfl
theorem wf_typeInfo (t : TypeId) (w : World) : Sem.run (Go.Tame.withFuncs P F) (typeInfo t) w = Sem.run P (typeInfo t) w := by
  show (match P.info? t with | some d => pure d | none => stuck _ : Sem TypeInfo).run (Go.Tame.withFuncs P F) w = (match P.info? t with | some d => pure d | none => stuck _ : Sem TypeInfo).run P w
  cases P.info? t <;> rfl
theorem wf_sizeOf (t : TypeId) (w : World) : Sem.run (Go.Tame.withFuncs P F) (Go.sizeOf t) w = Sem.run P (Go.sizeOf t) w := by
  unfold Go.sizeOf
  rw [Sem.run_bind, Sem.run_bind, wf_typeInfo]
  cases Sem.run P (typeInfo t) w <;> simp
theorem wf_isAgg (t : TypeId) (w : World) : Sem.run (Go.Tame.withFuncs P F) (Go.isAgg t) w = Sem.run P (Go.isAgg t) w := by
  unfold Go.isAgg
  rw [Sem.run_bind, Sem.run_bind, wf_runUnderlying]
  cases Sem.run P (Go.underlying t) w with
  | ok d w => cases d <;> simp
  | halt => simp
theorem wf_zeroValue (t : TypeId) (w : World) : Sem.run (Go.Tame.withFuncs P F) (Go.zeroValue t) w = Sem.run P (Go.zeroValue t) w := by
  unfold Go.zeroValue
  rw [Sem.run_bind, Sem.run_bind, wf_typeInfo]
  cases Sem.run P (typeInfo t) w with
  | ok d w => simp only [Result.andThen_ok]; cases d.zero <;> simp
  | halt => simp
end
@[go_sem] theorem LL.sizeOf (t : TypeId) (w : World) : Sem.run Tryz.L (Go.sizeOf t) w = Sem.run Tryz.prog (Go.sizeOf t) w := wf_sizeOf _ _ _ _
@[go_sem] theorem LL.isAgg (t : TypeId) (w : World) : Sem.run Tryz.L (Go.isAgg t) w = Sem.run Tryz.prog (Go.isAgg t) w := wf_isAgg _ _ _ _
@[go_sem] theorem LL.zeroValue (t : TypeId) (w : World) : Sem.run Tryz.L (Go.zeroValue t) w = Sem.run Tryz.prog (Go.zeroValue t) w := wf_zeroValue _ _ _ _
@[go_sem] theorem LL.underlying (t : TypeId) : Tryz.L.underlying t = Tryz.prog.underlying t := wf_underlying _ _ _
@[go_sem] theorem LL.rt : Tryz.L.rt = Tryz.prog.rt := wf_rt _ _
@[go_sem] theorem LL.runUnderlying (t : TypeId) (w : World) : Sem.run Tryz.L (Go.underlying t) w = Sem.run Tryz.prog (Go.underlying t) w := wf_runUnderlying _ _ _ _
@[go_sem] theorem LL.typeInfo (t : TypeId) (w : World) : Sem.run Tryz.L (Go.typeInfo t) w = Sem.run Tryz.prog (Go.typeInfo t) w := wf_typeInfo _ _ _ _
theorem LL.funcOf {k : Nat} {fn fn' : Func} (h : Tryz.prog.funcs[k]? = some fn) (he : loneFn k fn = fn') : Tryz.L.funcs[k]? = some fn' := by
  have e : Tryz.L.funcs = Tryz.FL := wf_funcs _ _
  rw [e]
  unfold Tryz.FL
  rw [Array.getElem?_mapIdx, h, Option.map_some, he]
theorem LL.callOf {f : FuncId} {fn : Func} (h : Tryz.L.funcs[f]? = some fn) (hb : fn.body.isNone = false) (hn : (fn.name == "runtime.NumGoroutine") = false) (args : Array Value) (w : World) : Sem.run Tryz.L (callFunc f args) w = .ok (.enter f args) w :=
  (Go.Tame.callFunc_enter h hb hn w).1
theorem LL.func15 : Tryz.L.funcs[15]? = some Tryz.f15 := LL.funcOf Tryz.func15 (by kernel_rfl)
@[go_sem] theorem LL.call15 (args : Array Value) (w : World) : Sem.run Tryz.L (callFunc 15 args) w = .ok (.enter 15 args) w := LL.callOf LL.func15 (by kernel_rfl) (by kernel_rfl) args w
theorem LL.func16 : Tryz.L.funcs[16]? = some Tryz.f16 := LL.funcOf Tryz.func16 (by kernel_rfl)
@[go_sem] theorem LL.call16 (args : Array Value) (w : World) : Sem.run Tryz.L (callFunc 16 args) w = .ok (.enter 16 args) w := LL.callOf LL.func16 (by kernel_rfl) (by kernel_rfl) args w
theorem LL.func17 : Tryz.L.funcs[17]? = some Tryz.f17 := LL.funcOf Tryz.func17 (by kernel_rfl)
@[go_sem] theorem LL.call17 (args : Array Value) (w : World) : Sem.run Tryz.L (callFunc 17 args) w = .ok (.enter 17 args) w := LL.callOf LL.func17 (by kernel_rfl) (by kernel_rfl) args w
theorem LL.func18 : Tryz.L.funcs[18]? = some Tryz.f18 := LL.funcOf Tryz.func18 (by kernel_rfl)
@[go_sem] theorem LL.call18 (args : Array Value) (w : World) : Sem.run Tryz.L (callFunc 18 args) w = .ok (.enter 18 args) w := LL.callOf LL.func18 (by kernel_rfl) (by kernel_rfl) args w
theorem LL.func19 : Tryz.L.funcs[19]? = some Tryz.f19 := LL.funcOf Tryz.func19 (by kernel_rfl)
@[go_sem] theorem LL.call19 (args : Array Value) (w : World) : Sem.run Tryz.L (callFunc 19 args) w = .ok (.enter 19 args) w := LL.callOf LL.func19 (by kernel_rfl) (by kernel_rfl) args w
theorem LL.func20 : Tryz.L.funcs[20]? = some Tryz.f20 := LL.funcOf Tryz.func20 (by kernel_rfl)
@[go_sem] theorem LL.call20 (args : Array Value) (w : World) : Sem.run Tryz.L (callFunc 20 args) w = .ok (.enter 20 args) w := LL.callOf LL.func20 (by kernel_rfl) (by kernel_rfl) args w
theorem LL.func22 : Tryz.L.funcs[22]? = some Tryz.f22 := LL.funcOf Tryz.func22 (by kernel_rfl)
@[go_sem] theorem LL.call22 (args : Array Value) (w : World) : Sem.run Tryz.L (callFunc 22 args) w = .ok (.enter 22 args) w := LL.callOf LL.func22 (by kernel_rfl) (by kernel_rfl) args w
theorem LL.func24 : Tryz.L.funcs[24]? = some Tryz.f24 := LL.funcOf Tryz.func24 (by kernel_rfl)
@[go_sem] theorem LL.call24 (args : Array Value) (w : World) : Sem.run Tryz.L (callFunc 24 args) w = .ok (.enter 24 args) w := LL.callOf LL.func24 (by kernel_rfl) (by kernel_rfl) args w
theorem LL.func26 : Tryz.L.funcs[26]? = some Tryz.f26 := LL.funcOf Tryz.func26 (by kernel_rfl)
@[go_sem] theorem LL.call26 (args : Array Value) (w : World) : Sem.run Tryz.L (callFunc 26 args) w = .ok (.enter 26 args) w := LL.callOf LL.func26 (by kernel_rfl) (by kernel_rfl) args w
theorem LL.func27 : Tryz.L.funcs[27]? = some Tryz.f27 := LL.funcOf Tryz.func27 (by kernel_rfl)
@[go_sem] theorem LL.call27 (args : Array Value) (w : World) : Sem.run Tryz.L (callFunc 27 args) w = .ok (.enter 27 args) w := LL.callOf LL.func27 (by kernel_rfl) (by kernel_rfl) args w
theorem LL.func28 : Tryz.L.funcs[28]? = some Tryz.f28 := LL.funcOf Tryz.func28 (by kernel_rfl)
@[go_sem] theorem LL.call28 (args : Array Value) (w : World) : Sem.run Tryz.L (callFunc 28 args) w = .ok (.enter 28 args) w := LL.callOf LL.func28 (by kernel_rfl) (by kernel_rfl) args w
theorem LL.func29 : Tryz.L.funcs[29]? = some Tryz.f29 := LL.funcOf Tryz.func29 (by kernel_rfl)
@[go_sem] theorem LL.call29 (args : Array Value) (w : World) : Sem.run Tryz.L (callFunc 29 args) w = .ok (.enter 29 args) w := LL.callOf LL.func29 (by kernel_rfl) (by kernel_rfl) args w
theorem LL.func30 : Tryz.L.funcs[30]? = some Tryz.f30 := LL.funcOf Tryz.func30 (by kernel_rfl)
@[go_sem] theorem LL.call30 (args : Array Value) (w : World) : Sem.run Tryz.L (callFunc 30 args) w = .ok (.enter 30 args) w := LL.callOf LL.func30 (by kernel_rfl) (by kernel_rfl) args w
theorem LL.func31 : Tryz.L.funcs[31]? = some Tryz.f31 := LL.funcOf Tryz.func31 (by kernel_rfl)
@[go_sem] theorem LL.call31 (args : Array Value) (w : World) : Sem.run Tryz.L (callFunc 31 args) w = .ok (.enter 31 args) w := LL.callOf LL.func31 (by kernel_rfl) (by kernel_rfl) args w
theorem LL.func33 : Tryz.L.funcs[33]? = some Tryz.f33 := LL.funcOf Tryz.func33 (by kernel_rfl)
@[go_sem] theorem LL.call33 (args : Array Value) (w : World) : Sem.run Tryz.L (callFunc 33 args) w = .ok (.enter 33 args) w := LL.callOf LL.func33 (by kernel_rfl) (by kernel_rfl) args w
theorem LL.func37 : Tryz.L.funcs[37]? = some Tryz.f37 := LL.funcOf Tryz.func37 (by kernel_rfl)
@[go_sem] theorem LL.call37 (args : Array Value) (w : World) : Sem.run Tryz.L (callFunc 37 args) w = .ok (.enter 37 args) w := LL.callOf LL.func37 (by kernel_rfl) (by kernel_rfl) args w
theorem LL.func42 : Tryz.L.funcs[42]? = some Tryz.f42 := LL.funcOf Tryz.func42 (by kernel_rfl)
@[go_sem] theorem LL.call42 (args : Array Value) (w : World) : Sem.run Tryz.L (callFunc 42 args) w = .ok (.enter 42 args) w := LL.callOf LL.func42 (by kernel_rfl) (by kernel_rfl) args w
theorem LL.func43 : Tryz.L.funcs[43]? = some Tryz.f43 := LL.funcOf Tryz.func43 (by kernel_rfl)
@[go_sem] theorem LL.call43 (args : Array Value) (w : World) : Sem.run Tryz.L (callFunc 43 args) w = .ok (.enter 43 args) w := LL.callOf LL.func43 (by kernel_rfl) (by kernel_rfl) args w
theorem LL.func44 : Tryz.L.funcs[44]? = some Tryz.f44 := LL.funcOf Tryz.func44 (by kernel_rfl)
@[go_sem] theorem LL.call44 (args : Array Value) (w : World) : Sem.run Tryz.L (callFunc 44 args) w = .ok (.enter 44 args) w := LL.callOf LL.func44 (by kernel_rfl) (by kernel_rfl) args w
theorem LL.func45 : Tryz.L.funcs[45]? = some Tryz.f45 := LL.funcOf Tryz.func45 (by kernel_rfl)
@[go_sem] theorem LL.call45 (args : Array Value) (w : World) : Sem.run Tryz.L (callFunc 45 args) w = .ok (.enter 45 args) w := LL.callOf LL.func45 (by kernel_rfl) (by kernel_rfl) args w
theorem LL.func46 : Tryz.L.funcs[46]? = some Tryz.f46 := LL.funcOf Tryz.func46 (by kernel_rfl)
@[go_sem] theorem LL.call46 (args : Array Value) (w : World) : Sem.run Tryz.L (callFunc 46 args) w = .ok (.enter 46 args) w := LL.callOf LL.func46 (by kernel_rfl) (by kernel_rfl) args w
theorem LL.func47 : Tryz.L.funcs[47]? = some Tryz.f47 := LL.funcOf Tryz.func47 (by kernel_rfl)
@[go_sem] theorem LL.call47 (args : Array Value) (w : World) : Sem.run Tryz.L (callFunc 47 args) w = .ok (.enter 47 args) w := LL.callOf LL.func47 (by kernel_rfl) (by kernel_rfl) args w
theorem LL.func48 : Tryz.L.funcs[48]? = some Tryz.f48 := LL.funcOf Tryz.func48 (by kernel_rfl)
@[go_sem] theorem LL.call48 (args : Array Value) (w : World) : Sem.run Tryz.L (callFunc 48 args) w = .ok (.enter 48 args) w := LL.callOf LL.func48 (by kernel_rfl) (by kernel_rfl) args w
theorem LL.func49 : Tryz.L.funcs[49]? = some Tryz.f49 := LL.funcOf Tryz.func49 (by kernel_rfl)
@[go_sem] theorem LL.call49 (args : Array Value) (w : World) : Sem.run Tryz.L (callFunc 49 args) w = .ok (.enter 49 args) w := LL.callOf LL.func49 (by kernel_rfl) (by kernel_rfl) args w
theorem LL.func50 : Tryz.L.funcs[50]? = some Tryz.f50 := LL.funcOf Tryz.func50 (by kernel_rfl)
@[go_sem] theorem LL.call50 (args : Array Value) (w : World) : Sem.run Tryz.L (callFunc 50 args) w = .ok (.enter 50 args) w := LL.callOf LL.func50 (by kernel_rfl) (by kernel_rfl) args w
theorem LL.func51 : Tryz.L.funcs[51]? = some Tryz.f51 := LL.funcOf Tryz.func51 (by kernel_rfl)
@[go_sem] theorem LL.call51 (args : Array Value) (w : World) : Sem.run Tryz.L (callFunc 51 args) w = .ok (.enter 51 args) w := LL.callOf LL.func51 (by kernel_rfl) (by kernel_rfl) args w
theorem LL.func52 : Tryz.L.funcs[52]? = some Tryz.f52 := LL.funcOf Tryz.func52 (by kernel_rfl)
@[go_sem] theorem LL.call52 (args : Array Value) (w : World) : Sem.run Tryz.L (callFunc 52 args) w = .ok (.enter 52 args) w := LL.callOf LL.func52 (by kernel_rfl) (by kernel_rfl) args w
theorem LL.func53 : Tryz.L.funcs[53]? = some Tryz.f53 := LL.funcOf Tryz.func53 (by kernel_rfl)
@[go_sem] theorem LL.call53 (args : Array Value) (w : World) : Sem.run Tryz.L (callFunc 53 args) w = .ok (.enter 53 args) w := LL.callOf LL.func53 (by kernel_rfl) (by kernel_rfl) args w
theorem LL.func54 : Tryz.L.funcs[54]? = some Tryz.f54 := LL.funcOf Tryz.func54 (by kernel_rfl)
@[go_sem] theorem LL.call54 (args : Array Value) (w : World) : Sem.run Tryz.L (callFunc 54 args) w = .ok (.enter 54 args) w := LL.callOf LL.func54 (by kernel_rfl) (by kernel_rfl) args w
theorem LL.func55 : Tryz.L.funcs[55]? = some Tryz.f55 := LL.funcOf Tryz.func55 (by kernel_rfl)
@[go_sem] theorem LL.call55 (args : Array Value) (w : World) : Sem.run Tryz.L (callFunc 55 args) w = .ok (.enter 55 args) w := LL.callOf LL.func55 (by kernel_rfl) (by kernel_rfl) args w
theorem LL.func56 : Tryz.L.funcs[56]? = some Tryz.f56 := LL.funcOf Tryz.func56 (by kernel_rfl)
@[go_sem] theorem LL.call56 (args : Array Value) (w : World) : Sem.run Tryz.L (callFunc 56 args) w = .ok (.enter 56 args) w := LL.callOf LL.func56 (by kernel_rfl) (by kernel_rfl) args w
theorem LL.func67 : Tryz.L.funcs[67]? = some Tryz.f67 := LL.funcOf Tryz.func67 (by kernel_rfl)
@[go_sem] theorem LL.call67 (args : Array Value) (w : World) : Sem.run Tryz.L (callFunc 67 args) w = .ok (.enter 67 args) w := LL.callOf LL.func67 (by kernel_rfl) (by kernel_rfl) args w
theorem LL.func68 : Tryz.L.funcs[68]? = some Tryz.f68 := LL.funcOf Tryz.func68 (by kernel_rfl)
@[go_sem] theorem LL.call68 (args : Array Value) (w : World) : Sem.run Tryz.L (callFunc 68 args) w = .ok (.enter 68 args) w := LL.callOf LL.func68 (by kernel_rfl) (by kernel_rfl) args w
theorem LL.func69 : Tryz.L.funcs[69]? = some Tryz.f69 := LL.funcOf Tryz.func69 (by kernel_rfl)
@[go_sem] theorem LL.call69 (args : Array Value) (w : World) : Sem.run Tryz.L (callFunc 69 args) w = .ok (.enter 69 args) w := LL.callOf LL.func69 (by kernel_rfl) (by kernel_rfl) args w
theorem LL.func70 : Tryz.L.funcs[70]? = some Tryz.f70 := LL.funcOf Tryz.func70 (by kernel_rfl)
@[go_sem] theorem LL.call70 (args : Array Value) (w : World) : Sem.run Tryz.L (callFunc 70 args) w = .ok (.enter 70 args) w := LL.callOf LL.func70 (by kernel_rfl) (by kernel_rfl) args w
theorem LL.func79 : Tryz.L.funcs[79]? = some Tryz.f79 := LL.funcOf Tryz.func79 (by kernel_rfl)
@[go_sem] theorem LL.call79 (args : Array Value) (w : World) : Sem.run Tryz.L (callFunc 79 args) w = .ok (.enter 79 args) w := LL.callOf LL.func79 (by kernel_rfl) (by kernel_rfl) args w
theorem LL.func80 : Tryz.L.funcs[80]? = some Tryz.f80 := LL.funcOf Tryz.func80 (by kernel_rfl)
@[go_sem] theorem LL.call80 (args : Array Value) (w : World) : Sem.run Tryz.L (callFunc 80 args) w = .ok (.enter 80 args) w := LL.callOf LL.func80 (by kernel_rfl) (by kernel_rfl) args w
theorem LL.func81 : Tryz.L.funcs[81]? = some Tryz.f81 := LL.funcOf Tryz.func81 (by kernel_rfl)
@[go_sem] theorem LL.call81 (args : Array Value) (w : World) : Sem.run Tryz.L (callFunc 81 args) w = .ok (.enter 81 args) w := LL.callOf LL.func81 (by kernel_rfl) (by kernel_rfl) args w
theorem LL.func82 : Tryz.L.funcs[82]? = some Tryz.f82 := LL.funcOf Tryz.func82 (by kernel_rfl)
@[go_sem] theorem LL.call82 (args : Array Value) (w : World) : Sem.run Tryz.L (callFunc 82 args) w = .ok (.enter 82 args) w := LL.callOf LL.func82 (by kernel_rfl) (by kernel_rfl) args w
theorem LL.func83 : Tryz.L.funcs[83]? = some Tryz.f83 := LL.funcOf Tryz.func83 (by kernel_rfl)
@[go_sem] theorem LL.call83 (args : Array Value) (w : World) : Sem.run Tryz.L (callFunc 83 args) w = .ok (.enter 83 args) w := LL.callOf LL.func83 (by kernel_rfl) (by kernel_rfl) args w
theorem LL.func87 : Tryz.L.funcs[87]? = some Tryz.f87 := LL.funcOf Tryz.func87 (by kernel_rfl)
@[go_sem] theorem LL.call87 (args : Array Value) (w : World) : Sem.run Tryz.L (callFunc 87 args) w = .ok (.enter 87 args) w := LL.callOf LL.func87 (by kernel_rfl) (by kernel_rfl) args w
theorem LL.func89 : Tryz.L.funcs[89]? = some Tryz.f89 := LL.funcOf Tryz.func89 (by kernel_rfl)
@[go_sem] theorem LL.call89 (args : Array Value) (w : World) : Sem.run Tryz.L (callFunc 89 args) w = .ok (.enter 89 args) w := LL.callOf LL.func89 (by kernel_rfl) (by kernel_rfl) args w
theorem LL.func94 : Tryz.L.funcs[94]? = some Tryz.f94 := LL.funcOf Tryz.func94 (by kernel_rfl)
@[go_sem] theorem LL.call94 (args : Array Value) (w : World) : Sem.run Tryz.L (callFunc 94 args) w = .ok (.enter 94 args) w := LL.callOf LL.func94 (by kernel_rfl) (by kernel_rfl) args w
theorem LL.func95 : Tryz.L.funcs[95]? = some Tryz.f95 := LL.funcOf Tryz.func95 (by kernel_rfl)
@[go_sem] theorem LL.call95 (args : Array Value) (w : World) : Sem.run Tryz.L (callFunc 95 args) w = .ok (.enter 95 args) w := LL.callOf LL.func95 (by kernel_rfl) (by kernel_rfl) args w
theorem LL.func96 : Tryz.L.funcs[96]? = some Tryz.f96 := LL.funcOf Tryz.func96 (by kernel_rfl)
@[go_sem] theorem LL.call96 (args : Array Value) (w : World) : Sem.run Tryz.L (callFunc 96 args) w = .ok (.enter 96 args) w := LL.callOf LL.func96 (by kernel_rfl) (by kernel_rfl) args w
theorem LL.func97 : Tryz.L.funcs[97]? = some Tryz.f97 := LL.funcOf Tryz.func97 (by kernel_rfl)
@[go_sem] theorem LL.call97 (args : Array Value) (w : World) : Sem.run Tryz.L (callFunc 97 args) w = .ok (.enter 97 args) w := LL.callOf LL.func97 (by kernel_rfl) (by kernel_rfl) args w
theorem LL.func98 : Tryz.L.funcs[98]? = some Tryz.f98 := LL.funcOf Tryz.func98 (by kernel_rfl)
@[go_sem] theorem LL.call98 (args : Array Value) (w : World) : Sem.run Tryz.L (callFunc 98 args) w = .ok (.enter 98 args) w := LL.callOf LL.func98 (by kernel_rfl) (by kernel_rfl) args w
theorem LL.func99 : Tryz.L.funcs[99]? = some Tryz.f99 := LL.funcOf Tryz.func99 (by kernel_rfl)
@[go_sem] theorem LL.call99 (args : Array Value) (w : World) : Sem.run Tryz.L (callFunc 99 args) w = .ok (.enter 99 args) w := LL.callOf LL.func99 (by kernel_rfl) (by kernel_rfl) args w
theorem LL.func100 : Tryz.L.funcs[100]? = some Tryz.f100 := LL.funcOf Tryz.func100 (by kernel_rfl)
@[go_sem] theorem LL.call100 (args : Array Value) (w : World) : Sem.run Tryz.L (callFunc 100 args) w = .ok (.enter 100 args) w := LL.callOf LL.func100 (by kernel_rfl) (by kernel_rfl) args w
theorem LL.func101 : Tryz.L.funcs[101]? = some Tryz.f101 := LL.funcOf Tryz.func101 (by kernel_rfl)
@[go_sem] theorem LL.call101 (args : Array Value) (w : World) : Sem.run Tryz.L (callFunc 101 args) w = .ok (.enter 101 args) w := LL.callOf LL.func101 (by kernel_rfl) (by kernel_rfl) args w
theorem LL.func102 : Tryz.L.funcs[102]? = some Tryz.f102 := LL.funcOf Tryz.func102 (by kernel_rfl)
@[go_sem] theorem LL.call102 (args : Array Value) (w : World) : Sem.run Tryz.L (callFunc 102 args) w = .ok (.enter 102 args) w := LL.callOf LL.func102 (by kernel_rfl) (by kernel_rfl) args w
theorem LL.func103 : Tryz.L.funcs[103]? = some Tryz.f103 := LL.funcOf Tryz.func103 (by kernel_rfl)
@[go_sem] theorem LL.call103 (args : Array Value) (w : World) : Sem.run Tryz.L (callFunc 103 args) w = .ok (.enter 103 args) w := LL.callOf LL.func103 (by kernel_rfl) (by kernel_rfl) args w
theorem LL.func104 : Tryz.L.funcs[104]? = some Tryz.f104 := LL.funcOf Tryz.func104 (by kernel_rfl)
@[go_sem] theorem LL.call104 (args : Array Value) (w : World) : Sem.run Tryz.L (callFunc 104 args) w = .ok (.enter 104 args) w := LL.callOf LL.func104 (by kernel_rfl) (by kernel_rfl) args w
theorem LL.func105 : Tryz.L.funcs[105]? = some Tryz.f105 := LL.funcOf Tryz.func105 (by kernel_rfl)
@[go_sem] theorem LL.call105 (args : Array Value) (w : World) : Sem.run Tryz.L (callFunc 105 args) w = .ok (.enter 105 args) w := LL.callOf LL.func105 (by kernel_rfl) (by kernel_rfl) args w
theorem LL.func106 : Tryz.L.funcs[106]? = some Tryz.f106 := LL.funcOf Tryz.func106 (by kernel_rfl)
@[go_sem] theorem LL.call106 (args : Array Value) (w : World) : Sem.run Tryz.L (callFunc 106 args) w = .ok (.enter 106 args) w := LL.callOf LL.func106 (by kernel_rfl) (by kernel_rfl) args w
theorem LL.func107 : Tryz.L.funcs[107]? = some Tryz.f107 := LL.funcOf Tryz.func107 (by kernel_rfl)
@[go_sem] theorem LL.call107 (args : Array Value) (w : World) : Sem.run Tryz.L (callFunc 107 args) w = .ok (.enter 107 args) w := LL.callOf LL.func107 (by kernel_rfl) (by kernel_rfl) args w
theorem LL.func108 : Tryz.L.funcs[108]? = some Tryz.f108 := LL.funcOf Tryz.func108 (by kernel_rfl)
@[go_sem] theorem LL.call108 (args : Array Value) (w : World) : Sem.run Tryz.L (callFunc 108 args) w = .ok (.enter 108 args) w := LL.callOf LL.func108 (by kernel_rfl) (by kernel_rfl) args w
theorem LL.func109 : Tryz.L.funcs[109]? = some Tryz.f109 := LL.funcOf Tryz.func109 (by kernel_rfl)
@[go_sem] theorem LL.call109 (args : Array Value) (w : World) : Sem.run Tryz.L (callFunc 109 args) w = .ok (.enter 109 args) w := LL.callOf LL.func109 (by kernel_rfl) (by kernel_rfl) args w
theorem LL.func110 : Tryz.L.funcs[110]? = some Tryz.f110 := LL.funcOf Tryz.func110 (by kernel_rfl)
@[go_sem] theorem LL.call110 (args : Array Value) (w : World) : Sem.run Tryz.L (callFunc 110 args) w = .ok (.enter 110 args) w := LL.callOf LL.func110 (by kernel_rfl) (by kernel_rfl) args w
theorem LL.func111 : Tryz.L.funcs[111]? = some Tryz.f111 := LL.funcOf Tryz.func111 (by kernel_rfl)
@[go_sem] theorem LL.call111 (args : Array Value) (w : World) : Sem.run Tryz.L (callFunc 111 args) w = .ok (.enter 111 args) w := LL.callOf LL.func111 (by kernel_rfl) (by kernel_rfl) args w
theorem LL.func112 : Tryz.L.funcs[112]? = some Tryz.f112 := LL.funcOf Tryz.func112 (by kernel_rfl)
@[go_sem] theorem LL.call112 (args : Array Value) (w : World) : Sem.run Tryz.L (callFunc 112 args) w = .ok (.enter 112 args) w := LL.callOf LL.func112 (by kernel_rfl) (by kernel_rfl) args w
theorem LL.func113 : Tryz.L.funcs[113]? = some Tryz.f113 := LL.funcOf Tryz.func113 (by kernel_rfl)
@[go_sem] theorem LL.call113 (args : Array Value) (w : World) : Sem.run Tryz.L (callFunc 113 args) w = .ok (.enter 113 args) w := LL.callOf LL.func113 (by kernel_rfl) (by kernel_rfl) args w
theorem LL.func114 : Tryz.L.funcs[114]? = some Tryz.f114 := LL.funcOf Tryz.func114 (by kernel_rfl)
@[go_sem] theorem LL.call114 (args : Array Value) (w : World) : Sem.run Tryz.L (callFunc 114 args) w = .ok (.enter 114 args) w := LL.callOf LL.func114 (by kernel_rfl) (by kernel_rfl) args w
theorem LL.func124 : Tryz.L.funcs[124]? = some Tryz.f124 := LL.funcOf Tryz.func124 (by kernel_rfl)
@[go_sem] theorem LL.call124 (args : Array Value) (w : World) : Sem.run Tryz.L (callFunc 124 args) w = .ok (.enter 124 args) w := LL.callOf LL.func124 (by kernel_rfl) (by kernel_rfl) args w
theorem LL.func125 : Tryz.L.funcs[125]? = some Tryz.f125 := LL.funcOf Tryz.func125 (by kernel_rfl)
@[go_sem] theorem LL.call125 (args : Array Value) (w : World) : Sem.run Tryz.L (callFunc 125 args) w = .ok (.enter 125 args) w := LL.callOf LL.func125 (by kernel_rfl) (by kernel_rfl) args w
theorem LL.func126 : Tryz.L.funcs[126]? = some Tryz.f126 := LL.funcOf Tryz.func126 (by kernel_rfl)
@[go_sem] theorem LL.call126 (args : Array Value) (w : World) : Sem.run Tryz.L (callFunc 126 args) w = .ok (.enter 126 args) w := LL.callOf LL.func126 (by kernel_rfl) (by kernel_rfl) args w
theorem LL.func127 : Tryz.L.funcs[127]? = some Tryz.f127 := LL.funcOf Tryz.func127 (by kernel_rfl)
@[go_sem] theorem LL.call127 (args : Array Value) (w : World) : Sem.run Tryz.L (callFunc 127 args) w = .ok (.enter 127 args) w := LL.callOf LL.func127 (by kernel_rfl) (by kernel_rfl) args w
theorem LL.func128 : Tryz.L.funcs[128]? = some Tryz.f128 := LL.funcOf Tryz.func128 (by kernel_rfl)
@[go_sem] theorem LL.call128 (args : Array Value) (w : World) : Sem.run Tryz.L (callFunc 128 args) w = .ok (.enter 128 args) w := LL.callOf LL.func128 (by kernel_rfl) (by kernel_rfl) args w
theorem LL.func129 : Tryz.L.funcs[129]? = some Tryz.f129 := LL.funcOf Tryz.func129 (by kernel_rfl)
@[go_sem] theorem LL.call129 (args : Array Value) (w : World) : Sem.run Tryz.L (callFunc 129 args) w = .ok (.enter 129 args) w := LL.callOf LL.func129 (by kernel_rfl) (by kernel_rfl) args w
theorem LL.func131 : Tryz.L.funcs[131]? = some Tryz.f131 := LL.funcOf Tryz.func131 (by kernel_rfl)
@[go_sem] theorem LL.call131 (args : Array Value) (w : World) : Sem.run Tryz.L (callFunc 131 args) w = .ok (.enter 131 args) w := LL.callOf LL.func131 (by kernel_rfl) (by kernel_rfl) args w
theorem LL.func132 : Tryz.L.funcs[132]? = some Tryz.f132 := LL.funcOf Tryz.func132 (by kernel_rfl)
@[go_sem] theorem LL.call132 (args : Array Value) (w : World) : Sem.run Tryz.L (callFunc 132 args) w = .ok (.enter 132 args) w := LL.callOf LL.func132 (by kernel_rfl) (by kernel_rfl) args w
theorem LL.func133 : Tryz.L.funcs[133]? = some Tryz.f133 := LL.funcOf Tryz.func133 (by kernel_rfl)
@[go_sem] theorem LL.call133 (args : Array Value) (w : World) : Sem.run Tryz.L (callFunc 133 args) w = .ok (.enter 133 args) w := LL.callOf LL.func133 (by kernel_rfl) (by kernel_rfl) args w
theorem LL.func134 : Tryz.L.funcs[134]? = some Tryz.f134 := LL.funcOf Tryz.func134 (by kernel_rfl)
@[go_sem] theorem LL.call134 (args : Array Value) (w : World) : Sem.run Tryz.L (callFunc 134 args) w = .ok (.enter 134 args) w := LL.callOf LL.func134 (by kernel_rfl) (by kernel_rfl) args w
theorem LL.func135 : Tryz.L.funcs[135]? = some Tryz.f135 := LL.funcOf Tryz.func135 (by kernel_rfl)
@[go_sem] theorem LL.call135 (args : Array Value) (w : World) : Sem.run Tryz.L (callFunc 135 args) w = .ok (.enter 135 args) w := LL.callOf LL.func135 (by kernel_rfl) (by kernel_rfl) args w
theorem LL.func136 : Tryz.L.funcs[136]? = some Tryz.f136 := LL.funcOf Tryz.func136 (by kernel_rfl)
@[go_sem] theorem LL.call136 (args : Array Value) (w : World) : Sem.run Tryz.L (callFunc 136 args) w = .ok (.enter 136 args) w := LL.callOf LL.func136 (by kernel_rfl) (by kernel_rfl) args w
theorem LL.func137 : Tryz.L.funcs[137]? = some Tryz.f137 := LL.funcOf Tryz.func137 (by kernel_rfl)
@[go_sem] theorem LL.call137 (args : Array Value) (w : World) : Sem.run Tryz.L (callFunc 137 args) w = .ok (.enter 137 args) w := LL.callOf LL.func137 (by kernel_rfl) (by kernel_rfl) args w
theorem LL.func138 : Tryz.L.funcs[138]? = some Tryz.f138 := LL.funcOf Tryz.func138 (by kernel_rfl)
@[go_sem] theorem LL.call138 (args : Array Value) (w : World) : Sem.run Tryz.L (callFunc 138 args) w = .ok (.enter 138 args) w := LL.callOf LL.func138 (by kernel_rfl) (by kernel_rfl) args w
theorem LL.func139 : Tryz.L.funcs[139]? = some Tryz.f139 := LL.funcOf Tryz.func139 (by kernel_rfl)
@[go_sem] theorem LL.call139 (args : Array Value) (w : World) : Sem.run Tryz.L (callFunc 139 args) w = .ok (.enter 139 args) w := LL.callOf LL.func139 (by kernel_rfl) (by kernel_rfl) args w
theorem LL.func140 : Tryz.L.funcs[140]? = some Tryz.f140 := LL.funcOf Tryz.func140 (by kernel_rfl)
@[go_sem] theorem LL.call140 (args : Array Value) (w : World) : Sem.run Tryz.L (callFunc 140 args) w = .ok (.enter 140 args) w := LL.callOf LL.func140 (by kernel_rfl) (by kernel_rfl) args w
theorem LL.func142 : Tryz.L.funcs[142]? = some Tryz.f142 := LL.funcOf Tryz.func142 (by kernel_rfl)
@[go_sem] theorem LL.call142 (args : Array Value) (w : World) : Sem.run Tryz.L (callFunc 142 args) w = .ok (.enter 142 args) w := LL.callOf LL.func142 (by kernel_rfl) (by kernel_rfl) args w
theorem LL.func143 : Tryz.L.funcs[143]? = some Tryz.f143 := LL.funcOf Tryz.func143 (by kernel_rfl)
@[go_sem] theorem LL.call143 (args : Array Value) (w : World) : Sem.run Tryz.L (callFunc 143 args) w = .ok (.enter 143 args) w := LL.callOf LL.func143 (by kernel_rfl) (by kernel_rfl) args w
theorem LL.func144 : Tryz.L.funcs[144]? = some Tryz.f144 := LL.funcOf Tryz.func144 (by kernel_rfl)
@[go_sem] theorem LL.call144 (args : Array Value) (w : World) : Sem.run Tryz.L (callFunc 144 args) w = .ok (.enter 144 args) w := LL.callOf LL.func144 (by kernel_rfl) (by kernel_rfl) args w
theorem LL.func145 : Tryz.L.funcs[145]? = some Tryz.f145 := LL.funcOf Tryz.func145 (by kernel_rfl)
@[go_sem] theorem LL.call145 (args : Array Value) (w : World) : Sem.run Tryz.L (callFunc 145 args) w = .ok (.enter 145 args) w := LL.callOf LL.func145 (by kernel_rfl) (by kernel_rfl) args w
theorem LL.func146 : Tryz.L.funcs[146]? = some Tryz.f146 := LL.funcOf Tryz.func146 (by kernel_rfl)
@[go_sem] theorem LL.call146 (args : Array Value) (w : World) : Sem.run Tryz.L (callFunc 146 args) w = .ok (.enter 146 args) w := LL.callOf LL.func146 (by kernel_rfl) (by kernel_rfl) args w
theorem LL.func147 : Tryz.L.funcs[147]? = some Tryz.f147 := LL.funcOf Tryz.func147 (by kernel_rfl)
@[go_sem] theorem LL.call147 (args : Array Value) (w : World) : Sem.run Tryz.L (callFunc 147 args) w = .ok (.enter 147 args) w := LL.callOf LL.func147 (by kernel_rfl) (by kernel_rfl) args w
theorem LL.func148 : Tryz.L.funcs[148]? = some Tryz.f148 := LL.funcOf Tryz.func148 (by kernel_rfl)
@[go_sem] theorem LL.call148 (args : Array Value) (w : World) : Sem.run Tryz.L (callFunc 148 args) w = .ok (.enter 148 args) w := LL.callOf LL.func148 (by kernel_rfl) (by kernel_rfl) args w
theorem LL.func149 : Tryz.L.funcs[149]? = some Tryz.f149 := LL.funcOf Tryz.func149 (by kernel_rfl)
@[go_sem] theorem LL.call149 (args : Array Value) (w : World) : Sem.run Tryz.L (callFunc 149 args) w = .ok (.enter 149 args) w := LL.callOf LL.func149 (by kernel_rfl) (by kernel_rfl) args w
theorem LL.func150 : Tryz.L.funcs[150]? = some Tryz.f150 := LL.funcOf Tryz.func150 (by kernel_rfl)
@[go_sem] theorem LL.call150 (args : Array Value) (w : World) : Sem.run Tryz.L (callFunc 150 args) w = .ok (.enter 150 args) w := LL.callOf LL.func150 (by kernel_rfl) (by kernel_rfl) args w
theorem LL.func151 : Tryz.L.funcs[151]? = some Tryz.f151 := LL.funcOf Tryz.func151 (by kernel_rfl)
@[go_sem] theorem LL.call151 (args : Array Value) (w : World) : Sem.run Tryz.L (callFunc 151 args) w = .ok (.enter 151 args) w := LL.callOf LL.func151 (by kernel_rfl) (by kernel_rfl) args w
theorem LL.func152 : Tryz.L.funcs[152]? = some Tryz.f152 := LL.funcOf Tryz.func152 (by kernel_rfl)
@[go_sem] theorem LL.call152 (args : Array Value) (w : World) : Sem.run Tryz.L (callFunc 152 args) w = .ok (.enter 152 args) w := LL.callOf LL.func152 (by kernel_rfl) (by kernel_rfl) args w
theorem LL.func153 : Tryz.L.funcs[153]? = some Tryz.f153 := LL.funcOf Tryz.func153 (by kernel_rfl)
@[go_sem] theorem LL.call153 (args : Array Value) (w : World) : Sem.run Tryz.L (callFunc 153 args) w = .ok (.enter 153 args) w := LL.callOf LL.func153 (by kernel_rfl) (by kernel_rfl) args w
theorem LL.func154 : Tryz.L.funcs[154]? = some Tryz.f154 := LL.funcOf Tryz.func154 (by kernel_rfl)
@[go_sem] theorem LL.call154 (args : Array Value) (w : World) : Sem.run Tryz.L (callFunc 154 args) w = .ok (.enter 154 args) w := LL.callOf LL.func154 (by kernel_rfl) (by kernel_rfl) args w
theorem LL.func155 : Tryz.L.funcs[155]? = some Tryz.f155 := LL.funcOf Tryz.func155 (by kernel_rfl)
@[go_sem] theorem LL.call155 (args : Array Value) (w : World) : Sem.run Tryz.L (callFunc 155 args) w = .ok (.enter 155 args) w := LL.callOf LL.func155 (by kernel_rfl) (by kernel_rfl) args w
theorem LL.func156 : Tryz.L.funcs[156]? = some Tryz.f156 := LL.funcOf Tryz.func156 (by kernel_rfl)
@[go_sem] theorem LL.call156 (args : Array Value) (w : World) : Sem.run Tryz.L (callFunc 156 args) w = .ok (.enter 156 args) w := LL.callOf LL.func156 (by kernel_rfl) (by kernel_rfl) args w
theorem LL.func157 : Tryz.L.funcs[157]? = some Tryz.f157 := LL.funcOf Tryz.func157 (by kernel_rfl)
@[go_sem] theorem LL.call157 (args : Array Value) (w : World) : Sem.run Tryz.L (callFunc 157 args) w = .ok (.enter 157 args) w := LL.callOf LL.func157 (by kernel_rfl) (by kernel_rfl) args w
theorem LL.func158 : Tryz.L.funcs[158]? = some Tryz.f158 := LL.funcOf Tryz.func158 (by kernel_rfl)
@[go_sem] theorem LL.call158 (args : Array Value) (w : World) : Sem.run Tryz.L (callFunc 158 args) w = .ok (.enter 158 args) w := LL.callOf LL.func158 (by kernel_rfl) (by kernel_rfl) args w
theorem LL.func159 : Tryz.L.funcs[159]? = some Tryz.f159 := LL.funcOf Tryz.func159 (by kernel_rfl)
@[go_sem] theorem LL.call159 (args : Array Value) (w : World) : Sem.run Tryz.L (callFunc 159 args) w = .ok (.enter 159 args) w := LL.callOf LL.func159 (by kernel_rfl) (by kernel_rfl) args w
theorem LL.func167 : Tryz.L.funcs[167]? = some Tryz.f167 := LL.funcOf Tryz.func167 (by kernel_rfl)
@[go_sem] theorem LL.call167 (args : Array Value) (w : World) : Sem.run Tryz.L (callFunc 167 args) w = .ok (.enter 167 args) w := LL.callOf LL.func167 (by kernel_rfl) (by kernel_rfl) args w
theorem LL.func168 : Tryz.L.funcs[168]? = some Tryz.f168 := LL.funcOf Tryz.func168 (by kernel_rfl)
@[go_sem] theorem LL.call168 (args : Array Value) (w : World) : Sem.run Tryz.L (callFunc 168 args) w = .ok (.enter 168 args) w := LL.callOf LL.func168 (by kernel_rfl) (by kernel_rfl) args w
theorem LL.func169 : Tryz.L.funcs[169]? = some Tryz.f169 := LL.funcOf Tryz.func169 (by kernel_rfl)
@[go_sem] theorem LL.call169 (args : Array Value) (w : World) : Sem.run Tryz.L (callFunc 169 args) w = .ok (.enter 169 args) w := LL.callOf LL.func169 (by kernel_rfl) (by kernel_rfl) args w
theorem LL.func170 : Tryz.L.funcs[170]? = some Tryz.f170 := LL.funcOf Tryz.func170 (by kernel_rfl)
@[go_sem] theorem LL.call170 (args : Array Value) (w : World) : Sem.run Tryz.L (callFunc 170 args) w = .ok (.enter 170 args) w := LL.callOf LL.func170 (by kernel_rfl) (by kernel_rfl) args w
theorem LL.func171 : Tryz.L.funcs[171]? = some Tryz.f171 := LL.funcOf Tryz.func171 (by kernel_rfl)
@[go_sem] theorem LL.call171 (args : Array Value) (w : World) : Sem.run Tryz.L (callFunc 171 args) w = .ok (.enter 171 args) w := LL.callOf LL.func171 (by kernel_rfl) (by kernel_rfl) args w
theorem LL.func172 : Tryz.L.funcs[172]? = some Tryz.f172 := LL.funcOf Tryz.func172 (by kernel_rfl)
@[go_sem] theorem LL.call172 (args : Array Value) (w : World) : Sem.run Tryz.L (callFunc 172 args) w = .ok (.enter 172 args) w := LL.callOf LL.func172 (by kernel_rfl) (by kernel_rfl) args w
theorem LL.func173 : Tryz.L.funcs[173]? = some Tryz.f173 := LL.funcOf Tryz.func173 (by kernel_rfl)
@[go_sem] theorem LL.call173 (args : Array Value) (w : World) : Sem.run Tryz.L (callFunc 173 args) w = .ok (.enter 173 args) w := LL.callOf LL.func173 (by kernel_rfl) (by kernel_rfl) args w
theorem LL.func174 : Tryz.L.funcs[174]? = some Tryz.f174 := LL.funcOf Tryz.func174 (by kernel_rfl)
@[go_sem] theorem LL.call174 (args : Array Value) (w : World) : Sem.run Tryz.L (callFunc 174 args) w = .ok (.enter 174 args) w := LL.callOf LL.func174 (by kernel_rfl) (by kernel_rfl) args w
theorem LL.func175 : Tryz.L.funcs[175]? = some Tryz.f175 := LL.funcOf Tryz.func175 (by kernel_rfl)
@[go_sem] theorem LL.call175 (args : Array Value) (w : World) : Sem.run Tryz.L (callFunc 175 args) w = .ok (.enter 175 args) w := LL.callOf LL.func175 (by kernel_rfl) (by kernel_rfl) args w
theorem LL.func176 : Tryz.L.funcs[176]? = some Tryz.f176 := LL.funcOf Tryz.func176 (by kernel_rfl)
@[go_sem] theorem LL.call176 (args : Array Value) (w : World) : Sem.run Tryz.L (callFunc 176 args) w = .ok (.enter 176 args) w := LL.callOf LL.func176 (by kernel_rfl) (by kernel_rfl) args w
theorem LL.func177 : Tryz.L.funcs[177]? = some Tryz.f177 := LL.funcOf Tryz.func177 (by kernel_rfl)
@[go_sem] theorem LL.call177 (args : Array Value) (w : World) : Sem.run Tryz.L (callFunc 177 args) w = .ok (.enter 177 args) w := LL.callOf LL.func177 (by kernel_rfl) (by kernel_rfl) args w
theorem LL.func178 : Tryz.L.funcs[178]? = some Tryz.f178 := LL.funcOf Tryz.func178 (by kernel_rfl)
@[go_sem] theorem LL.call178 (args : Array Value) (w : World) : Sem.run Tryz.L (callFunc 178 args) w = .ok (.enter 178 args) w := LL.callOf LL.func178 (by kernel_rfl) (by kernel_rfl) args w
theorem LL.func179 : Tryz.L.funcs[179]? = some Tryz.f179 := LL.funcOf Tryz.func179 (by kernel_rfl)
@[go_sem] theorem LL.call179 (args : Array Value) (w : World) : Sem.run Tryz.L (callFunc 179 args) w = .ok (.enter 179 args) w := LL.callOf LL.func179 (by kernel_rfl) (by kernel_rfl) args w
theorem LL.func180 : Tryz.L.funcs[180]? = some Tryz.f180 := LL.funcOf Tryz.func180 (by kernel_rfl)
@[go_sem] theorem LL.call180 (args : Array Value) (w : World) : Sem.run Tryz.L (callFunc 180 args) w = .ok (.enter 180 args) w := LL.callOf LL.func180 (by kernel_rfl) (by kernel_rfl) args w
theorem LL.func181 : Tryz.L.funcs[181]? = some Tryz.f181 := LL.funcOf Tryz.func181 (by kernel_rfl)
@[go_sem] theorem LL.call181 (args : Array Value) (w : World) : Sem.run Tryz.L (callFunc 181 args) w = .ok (.enter 181 args) w := LL.callOf LL.func181 (by kernel_rfl) (by kernel_rfl) args w
theorem LL.func182 : Tryz.L.funcs[182]? = some Tryz.f182 := LL.funcOf Tryz.func182 (by kernel_rfl)
@[go_sem] theorem LL.call182 (args : Array Value) (w : World) : Sem.run Tryz.L (callFunc 182 args) w = .ok (.enter 182 args) w := LL.callOf LL.func182 (by kernel_rfl) (by kernel_rfl) args w
theorem LL.func183 : Tryz.L.funcs[183]? = some Tryz.f183 := LL.funcOf Tryz.func183 (by kernel_rfl)
@[go_sem] theorem LL.call183 (args : Array Value) (w : World) : Sem.run Tryz.L (callFunc 183 args) w = .ok (.enter 183 args) w := LL.callOf LL.func183 (by kernel_rfl) (by kernel_rfl) args w
theorem LL.func184 : Tryz.L.funcs[184]? = some Tryz.f184 := LL.funcOf Tryz.func184 (by kernel_rfl)
@[go_sem] theorem LL.call184 (args : Array Value) (w : World) : Sem.run Tryz.L (callFunc 184 args) w = .ok (.enter 184 args) w := LL.callOf LL.func184 (by kernel_rfl) (by kernel_rfl) args w
theorem LL.func185 : Tryz.L.funcs[185]? = some Tryz.f185 := LL.funcOf Tryz.func185 (by kernel_rfl)
@[go_sem] theorem LL.call185 (args : Array Value) (w : World) : Sem.run Tryz.L (callFunc 185 args) w = .ok (.enter 185 args) w := LL.callOf LL.func185 (by kernel_rfl) (by kernel_rfl) args w
theorem LL.func186 : Tryz.L.funcs[186]? = some Tryz.f186 := LL.funcOf Tryz.func186 (by kernel_rfl)
@[go_sem] theorem LL.call186 (args : Array Value) (w : World) : Sem.run Tryz.L (callFunc 186 args) w = .ok (.enter 186 args) w := LL.callOf LL.func186 (by kernel_rfl) (by kernel_rfl) args w
theorem LL.func187 : Tryz.L.funcs[187]? = some Tryz.f187 := LL.funcOf Tryz.func187 (by kernel_rfl)
@[go_sem] theorem LL.call187 (args : Array Value) (w : World) : Sem.run Tryz.L (callFunc 187 args) w = .ok (.enter 187 args) w := LL.callOf LL.func187 (by kernel_rfl) (by kernel_rfl) args w
theorem LL.func188 : Tryz.L.funcs[188]? = some Tryz.f188 := LL.funcOf Tryz.func188 (by kernel_rfl)
@[go_sem] theorem LL.call188 (args : Array Value) (w : World) : Sem.run Tryz.L (callFunc 188 args) w = .ok (.enter 188 args) w := LL.callOf LL.func188 (by kernel_rfl) (by kernel_rfl) args w
theorem LL.func189 : Tryz.L.funcs[189]? = some Tryz.f189 := LL.funcOf Tryz.func189 (by kernel_rfl)
@[go_sem] theorem LL.call189 (args : Array Value) (w : World) : Sem.run Tryz.L (callFunc 189 args) w = .ok (.enter 189 args) w := LL.callOf LL.func189 (by kernel_rfl) (by kernel_rfl) args w
theorem LL.func190 : Tryz.L.funcs[190]? = some Tryz.f190 := LL.funcOf Tryz.func190 (by kernel_rfl)
@[go_sem] theorem LL.call190 (args : Array Value) (w : World) : Sem.run Tryz.L (callFunc 190 args) w = .ok (.enter 190 args) w := LL.callOf LL.func190 (by kernel_rfl) (by kernel_rfl) args w
theorem LL.func191 : Tryz.L.funcs[191]? = some Tryz.f191 := LL.funcOf Tryz.func191 (by kernel_rfl)
@[go_sem] theorem LL.call191 (args : Array Value) (w : World) : Sem.run Tryz.L (callFunc 191 args) w = .ok (.enter 191 args) w := LL.callOf LL.func191 (by kernel_rfl) (by kernel_rfl) args w
theorem LL.func192 : Tryz.L.funcs[192]? = some Tryz.f192 := LL.funcOf Tryz.func192 (by kernel_rfl)
@[go_sem] theorem LL.call192 (args : Array Value) (w : World) : Sem.run Tryz.L (callFunc 192 args) w = .ok (.enter 192 args) w := LL.callOf LL.func192 (by kernel_rfl) (by kernel_rfl) args w
theorem LL.func193 : Tryz.L.funcs[193]? = some Tryz.f193 := LL.funcOf Tryz.func193 (by kernel_rfl)
@[go_sem] theorem LL.call193 (args : Array Value) (w : World) : Sem.run Tryz.L (callFunc 193 args) w = .ok (.enter 193 args) w := LL.callOf LL.func193 (by kernel_rfl) (by kernel_rfl) args w
theorem LL.func194 : Tryz.L.funcs[194]? = some Tryz.f194 := LL.funcOf Tryz.func194 (by kernel_rfl)
@[go_sem] theorem LL.call194 (args : Array Value) (w : World) : Sem.run Tryz.L (callFunc 194 args) w = .ok (.enter 194 args) w := LL.callOf LL.func194 (by kernel_rfl) (by kernel_rfl) args w
theorem LL.func195 : Tryz.L.funcs[195]? = some Tryz.f195 := LL.funcOf Tryz.func195 (by kernel_rfl)
@[go_sem] theorem LL.call195 (args : Array Value) (w : World) : Sem.run Tryz.L (callFunc 195 args) w = .ok (.enter 195 args) w := LL.callOf LL.func195 (by kernel_rfl) (by kernel_rfl) args w
theorem LL.func196 : Tryz.L.funcs[196]? = some Tryz.f196 := LL.funcOf Tryz.func196 (by kernel_rfl)
@[go_sem] theorem LL.call196 (args : Array Value) (w : World) : Sem.run Tryz.L (callFunc 196 args) w = .ok (.enter 196 args) w := LL.callOf LL.func196 (by kernel_rfl) (by kernel_rfl) args w
theorem LL.func197 : Tryz.L.funcs[197]? = some Tryz.f197 := LL.funcOf Tryz.func197 (by kernel_rfl)
@[go_sem] theorem LL.call197 (args : Array Value) (w : World) : Sem.run Tryz.L (callFunc 197 args) w = .ok (.enter 197 args) w := LL.callOf LL.func197 (by kernel_rfl) (by kernel_rfl) args w
theorem LL.func198 : Tryz.L.funcs[198]? = some Tryz.f198 := LL.funcOf Tryz.func198 (by kernel_rfl)
@[go_sem] theorem LL.call198 (args : Array Value) (w : World) : Sem.run Tryz.L (callFunc 198 args) w = .ok (.enter 198 args) w := LL.callOf LL.func198 (by kernel_rfl) (by kernel_rfl) args w
theorem LL.func199 : Tryz.L.funcs[199]? = some Tryz.f199 := LL.funcOf Tryz.func199 (by kernel_rfl)
@[go_sem] theorem LL.call199 (args : Array Value) (w : World) : Sem.run Tryz.L (callFunc 199 args) w = .ok (.enter 199 args) w := LL.callOf LL.func199 (by kernel_rfl) (by kernel_rfl) args w
theorem LL.func200 : Tryz.L.funcs[200]? = some Tryz.f200 := LL.funcOf Tryz.func200 (by kernel_rfl)
@[go_sem] theorem LL.call200 (args : Array Value) (w : World) : Sem.run Tryz.L (callFunc 200 args) w = .ok (.enter 200 args) w := LL.callOf LL.func200 (by kernel_rfl) (by kernel_rfl) args w
theorem LL.func201 : Tryz.L.funcs[201]? = some Tryz.f201 := LL.funcOf Tryz.func201 (by kernel_rfl)
@[go_sem] theorem LL.call201 (args : Array Value) (w : World) : Sem.run Tryz.L (callFunc 201 args) w = .ok (.enter 201 args) w := LL.callOf LL.func201 (by kernel_rfl) (by kernel_rfl) args w
theorem LL.func202 : Tryz.L.funcs[202]? = some Tryz.f202 := LL.funcOf Tryz.func202 (by kernel_rfl)
@[go_sem] theorem LL.call202 (args : Array Value) (w : World) : Sem.run Tryz.L (callFunc 202 args) w = .ok (.enter 202 args) w := LL.callOf LL.func202 (by kernel_rfl) (by kernel_rfl) args w
theorem LL.func203 : Tryz.L.funcs[203]? = some Tryz.f203 := LL.funcOf Tryz.func203 (by kernel_rfl)
@[go_sem] theorem LL.call203 (args : Array Value) (w : World) : Sem.run Tryz.L (callFunc 203 args) w = .ok (.enter 203 args) w := LL.callOf LL.func203 (by kernel_rfl) (by kernel_rfl) args w
theorem LL.func204 : Tryz.L.funcs[204]? = some Tryz.f204 := LL.funcOf Tryz.func204 (by kernel_rfl)
@[go_sem] theorem LL.call204 (args : Array Value) (w : World) : Sem.run Tryz.L (callFunc 204 args) w = .ok (.enter 204 args) w := LL.callOf LL.func204 (by kernel_rfl) (by kernel_rfl) args w
theorem LL.func205 : Tryz.L.funcs[205]? = some Tryz.f205 := LL.funcOf Tryz.func205 (by kernel_rfl)
@[go_sem] theorem LL.call205 (args : Array Value) (w : World) : Sem.run Tryz.L (callFunc 205 args) w = .ok (.enter 205 args) w := LL.callOf LL.func205 (by kernel_rfl) (by kernel_rfl) args w
theorem LL.func206 : Tryz.L.funcs[206]? = some Tryz.f206 := LL.funcOf Tryz.func206 (by kernel_rfl)
@[go_sem] theorem LL.call206 (args : Array Value) (w : World) : Sem.run Tryz.L (callFunc 206 args) w = .ok (.enter 206 args) w := LL.callOf LL.func206 (by kernel_rfl) (by kernel_rfl) args w
theorem LL.func207 : Tryz.L.funcs[207]? = some Tryz.f207 := LL.funcOf Tryz.func207 (by kernel_rfl)
@[go_sem] theorem LL.call207 (args : Array Value) (w : World) : Sem.run Tryz.L (callFunc 207 args) w = .ok (.enter 207 args) w := LL.callOf LL.func207 (by kernel_rfl) (by kernel_rfl) args w
theorem LL.func208 : Tryz.L.funcs[208]? = some Tryz.f208 := LL.funcOf Tryz.func208 (by kernel_rfl)
@[go_sem] theorem LL.call208 (args : Array Value) (w : World) : Sem.run Tryz.L (callFunc 208 args) w = .ok (.enter 208 args) w := LL.callOf LL.func208 (by kernel_rfl) (by kernel_rfl) args w
theorem LL.func209 : Tryz.L.funcs[209]? = some Tryz.f209 := LL.funcOf Tryz.func209 (by kernel_rfl)
@[go_sem] theorem LL.call209 (args : Array Value) (w : World) : Sem.run Tryz.L (callFunc 209 args) w = .ok (.enter 209 args) w := LL.callOf LL.func209 (by kernel_rfl) (by kernel_rfl) args w
theorem LL.func210 : Tryz.L.funcs[210]? = some Tryz.f210 := LL.funcOf Tryz.func210 (by kernel_rfl)
@[go_sem] theorem LL.call210 (args : Array Value) (w : World) : Sem.run Tryz.L (callFunc 210 args) w = .ok (.enter 210 args) w := LL.callOf LL.func210 (by kernel_rfl) (by kernel_rfl) args w
theorem LL.func211 : Tryz.L.funcs[211]? = some Tryz.f211 := LL.funcOf Tryz.func211 (by kernel_rfl)
@[go_sem] theorem LL.call211 (args : Array Value) (w : World) : Sem.run Tryz.L (callFunc 211 args) w = .ok (.enter 211 args) w := LL.callOf LL.func211 (by kernel_rfl) (by kernel_rfl) args w
theorem LL.func212 : Tryz.L.funcs[212]? = some Tryz.f212 := LL.funcOf Tryz.func212 (by kernel_rfl)
@[go_sem] theorem LL.call212 (args : Array Value) (w : World) : Sem.run Tryz.L (callFunc 212 args) w = .ok (.enter 212 args) w := LL.callOf LL.func212 (by kernel_rfl) (by kernel_rfl) args w
theorem LL.func213 : Tryz.L.funcs[213]? = some Tryz.f213 := LL.funcOf Tryz.func213 (by kernel_rfl)
@[go_sem] theorem LL.call213 (args : Array Value) (w : World) : Sem.run Tryz.L (callFunc 213 args) w = .ok (.enter 213 args) w := LL.callOf LL.func213 (by kernel_rfl) (by kernel_rfl) args w
theorem LL.func214 : Tryz.L.funcs[214]? = some Tryz.f214 := LL.funcOf Tryz.func214 (by kernel_rfl)
@[go_sem] theorem LL.call214 (args : Array Value) (w : World) : Sem.run Tryz.L (callFunc 214 args) w = .ok (.enter 214 args) w := LL.callOf LL.func214 (by kernel_rfl) (by kernel_rfl) args w
theorem LL.func215 : Tryz.L.funcs[215]? = some Tryz.f215 := LL.funcOf Tryz.func215 (by kernel_rfl)
@[go_sem] theorem LL.call215 (args : Array Value) (w : World) : Sem.run Tryz.L (callFunc 215 args) w = .ok (.enter 215 args) w := LL.callOf LL.func215 (by kernel_rfl) (by kernel_rfl) args w
theorem LL.func216 : Tryz.L.funcs[216]? = some Tryz.f216 := LL.funcOf Tryz.func216 (by kernel_rfl)
@[go_sem] theorem LL.call216 (args : Array Value) (w : World) : Sem.run Tryz.L (callFunc 216 args) w = .ok (.enter 216 args) w := LL.callOf LL.func216 (by kernel_rfl) (by kernel_rfl) args w
theorem LL.func217 : Tryz.L.funcs[217]? = some Tryz.f217 := LL.funcOf Tryz.func217 (by kernel_rfl)
@[go_sem] theorem LL.call217 (args : Array Value) (w : World) : Sem.run Tryz.L (callFunc 217 args) w = .ok (.enter 217 args) w := LL.callOf LL.func217 (by kernel_rfl) (by kernel_rfl) args w
theorem LL.func218 : Tryz.L.funcs[218]? = some Tryz.f218 := LL.funcOf Tryz.func218 (by kernel_rfl)
@[go_sem] theorem LL.call218 (args : Array Value) (w : World) : Sem.run Tryz.L (callFunc 218 args) w = .ok (.enter 218 args) w := LL.callOf LL.func218 (by kernel_rfl) (by kernel_rfl) args w
theorem LL.func219 : Tryz.L.funcs[219]? = some Tryz.f219 := LL.funcOf Tryz.func219 (by kernel_rfl)
@[go_sem] theorem LL.call219 (args : Array Value) (w : World) : Sem.run Tryz.L (callFunc 219 args) w = .ok (.enter 219 args) w := LL.callOf LL.func219 (by kernel_rfl) (by kernel_rfl) args w
theorem LL.func220 : Tryz.L.funcs[220]? = some Tryz.f220 := LL.funcOf Tryz.func220 (by kernel_rfl)
@[go_sem] theorem LL.call220 (args : Array Value) (w : World) : Sem.run Tryz.L (callFunc 220 args) w = .ok (.enter 220 args) w := LL.callOf LL.func220 (by kernel_rfl) (by kernel_rfl) args w
theorem LL.func221 : Tryz.L.funcs[221]? = some Tryz.f221 := LL.funcOf Tryz.func221 (by kernel_rfl)
@[go_sem] theorem LL.call221 (args : Array Value) (w : World) : Sem.run Tryz.L (callFunc 221 args) w = .ok (.enter 221 args) w := LL.callOf LL.func221 (by kernel_rfl) (by kernel_rfl) args w
theorem LL.func222 : Tryz.L.funcs[222]? = some Tryz.f222 := LL.funcOf Tryz.func222 (by kernel_rfl)
@[go_sem] theorem LL.call222 (args : Array Value) (w : World) : Sem.run Tryz.L (callFunc 222 args) w = .ok (.enter 222 args) w := LL.callOf LL.func222 (by kernel_rfl) (by kernel_rfl) args w
theorem LL.func223 : Tryz.L.funcs[223]? = some Tryz.f223 := LL.funcOf Tryz.func223 (by kernel_rfl)
@[go_sem] theorem LL.call223 (args : Array Value) (w : World) : Sem.run Tryz.L (callFunc 223 args) w = .ok (.enter 223 args) w := LL.callOf LL.func223 (by kernel_rfl) (by kernel_rfl) args w
theorem LL.func224 : Tryz.L.funcs[224]? = some Tryz.f224 := LL.funcOf Tryz.func224 (by kernel_rfl)
@[go_sem] theorem LL.call224 (args : Array Value) (w : World) : Sem.run Tryz.L (callFunc 224 args) w = .ok (.enter 224 args) w := LL.callOf LL.func224 (by kernel_rfl) (by kernel_rfl) args w
theorem LL.func225 : Tryz.L.funcs[225]? = some Tryz.f225 := LL.funcOf Tryz.func225 (by kernel_rfl)
@[go_sem] theorem LL.call225 (args : Array Value) (w : World) : Sem.run Tryz.L (callFunc 225 args) w = .ok (.enter 225 args) w := LL.callOf LL.func225 (by kernel_rfl) (by kernel_rfl) args w
theorem LL.func226 : Tryz.L.funcs[226]? = some Tryz.f226 := LL.funcOf Tryz.func226 (by kernel_rfl)
@[go_sem] theorem LL.call226 (args : Array Value) (w : World) : Sem.run Tryz.L (callFunc 226 args) w = .ok (.enter 226 args) w := LL.callOf LL.func226 (by kernel_rfl) (by kernel_rfl) args w
theorem LL.func227 : Tryz.L.funcs[227]? = some Tryz.f227 := LL.funcOf Tryz.func227 (by kernel_rfl)
@[go_sem] theorem LL.call227 (args : Array Value) (w : World) : Sem.run Tryz.L (callFunc 227 args) w = .ok (.enter 227 args) w := LL.callOf LL.func227 (by kernel_rfl) (by kernel_rfl) args w
theorem LL.func228 : Tryz.L.funcs[228]? = some Tryz.f228 := LL.funcOf Tryz.func228 (by kernel_rfl)
@[go_sem] theorem LL.call228 (args : Array Value) (w : World) : Sem.run Tryz.L (callFunc 228 args) w = .ok (.enter 228 args) w := LL.callOf LL.func228 (by kernel_rfl) (by kernel_rfl) args w
theorem LL.func229 : Tryz.L.funcs[229]? = some Tryz.f229 := LL.funcOf Tryz.func229 (by kernel_rfl)
@[go_sem] theorem LL.call229 (args : Array Value) (w : World) : Sem.run Tryz.L (callFunc 229 args) w = .ok (.enter 229 args) w := LL.callOf LL.func229 (by kernel_rfl) (by kernel_rfl) args w
theorem LL.func230 : Tryz.L.funcs[230]? = some Tryz.f230 := LL.funcOf Tryz.func230 (by kernel_rfl)
@[go_sem] theorem LL.call230 (args : Array Value) (w : World) : Sem.run Tryz.L (callFunc 230 args) w = .ok (.enter 230 args) w := LL.callOf LL.func230 (by kernel_rfl) (by kernel_rfl) args w
theorem LL.func231 : Tryz.L.funcs[231]? = some Tryz.f231 := LL.funcOf Tryz.func231 (by kernel_rfl)
@[go_sem] theorem LL.call231 (args : Array Value) (w : World) : Sem.run Tryz.L (callFunc 231 args) w = .ok (.enter 231 args) w := LL.callOf LL.func231 (by kernel_rfl) (by kernel_rfl) args w
theorem LL.func232 : Tryz.L.funcs[232]? = some Tryz.f232 := LL.funcOf Tryz.func232 (by kernel_rfl)
@[go_sem] theorem LL.call232 (args : Array Value) (w : World) : Sem.run Tryz.L (callFunc 232 args) w = .ok (.enter 232 args) w := LL.callOf LL.func232 (by kernel_rfl) (by kernel_rfl) args w
theorem LL.func233 : Tryz.L.funcs[233]? = some Tryz.f233 := LL.funcOf Tryz.func233 (by kernel_rfl)
@[go_sem] theorem LL.call233 (args : Array Value) (w : World) : Sem.run Tryz.L (callFunc 233 args) w = .ok (.enter 233 args) w := LL.callOf LL.func233 (by kernel_rfl) (by kernel_rfl) args w
theorem LL.func234 : Tryz.L.funcs[234]? = some Tryz.f234 := LL.funcOf Tryz.func234 (by kernel_rfl)
@[go_sem] theorem LL.call234 (args : Array Value) (w : World) : Sem.run Tryz.L (callFunc 234 args) w = .ok (.enter 234 args) w := LL.callOf LL.func234 (by kernel_rfl) (by kernel_rfl) args w
theorem LL.func235 : Tryz.L.funcs[235]? = some Tryz.f235 := LL.funcOf Tryz.func235 (by kernel_rfl)
@[go_sem] theorem LL.call235 (args : Array Value) (w : World) : Sem.run Tryz.L (callFunc 235 args) w = .ok (.enter 235 args) w := LL.callOf LL.func235 (by kernel_rfl) (by kernel_rfl) args w
theorem LL.func236 : Tryz.L.funcs[236]? = some Tryz.f236 := LL.funcOf Tryz.func236 (by kernel_rfl)
@[go_sem] theorem LL.call236 (args : Array Value) (w : World) : Sem.run Tryz.L (callFunc 236 args) w = .ok (.enter 236 args) w := LL.callOf LL.func236 (by kernel_rfl) (by kernel_rfl) args w
theorem LL.func237 : Tryz.L.funcs[237]? = some Tryz.f237 := LL.funcOf Tryz.func237 (by kernel_rfl)
@[go_sem] theorem LL.call237 (args : Array Value) (w : World) : Sem.run Tryz.L (callFunc 237 args) w = .ok (.enter 237 args) w := LL.callOf LL.func237 (by kernel_rfl) (by kernel_rfl) args w
theorem LL.func238 : Tryz.L.funcs[238]? = some Tryz.f238 := LL.funcOf Tryz.func238 (by kernel_rfl)
@[go_sem] theorem LL.call238 (args : Array Value) (w : World) : Sem.run Tryz.L (callFunc 238 args) w = .ok (.enter 238 args) w := LL.callOf LL.func238 (by kernel_rfl) (by kernel_rfl) args w
theorem LL.func239 : Tryz.L.funcs[239]? = some Tryz.f239 := LL.funcOf Tryz.func239 (by kernel_rfl)
@[go_sem] theorem LL.call239 (args : Array Value) (w : World) : Sem.run Tryz.L (callFunc 239 args) w = .ok (.enter 239 args) w := LL.callOf LL.func239 (by kernel_rfl) (by kernel_rfl) args w
theorem LL.func240 : Tryz.L.funcs[240]? = some Tryz.f240 := LL.funcOf Tryz.func240 (by kernel_rfl)
@[go_sem] theorem LL.call240 (args : Array Value) (w : World) : Sem.run Tryz.L (callFunc 240 args) w = .ok (.enter 240 args) w := LL.callOf LL.func240 (by kernel_rfl) (by kernel_rfl) args w
theorem LL.func241 : Tryz.L.funcs[241]? = some Tryz.f241 := LL.funcOf Tryz.func241 (by kernel_rfl)
@[go_sem] theorem LL.call241 (args : Array Value) (w : World) : Sem.run Tryz.L (callFunc 241 args) w = .ok (.enter 241 args) w := LL.callOf LL.func241 (by kernel_rfl) (by kernel_rfl) args w
theorem LL.func242 : Tryz.L.funcs[242]? = some Tryz.f242 := LL.funcOf Tryz.func242 (by kernel_rfl)
@[go_sem] theorem LL.call242 (args : Array Value) (w : World) : Sem.run Tryz.L (callFunc 242 args) w = .ok (.enter 242 args) w := LL.callOf LL.func242 (by kernel_rfl) (by kernel_rfl) args w
theorem LL.func243 : Tryz.L.funcs[243]? = some Tryz.f243 := LL.funcOf Tryz.func243 (by kernel_rfl)
@[go_sem] theorem LL.call243 (args : Array Value) (w : World) : Sem.run Tryz.L (callFunc 243 args) w = .ok (.enter 243 args) w := LL.callOf LL.func243 (by kernel_rfl) (by kernel_rfl) args w
theorem LL.func244 : Tryz.L.funcs[244]? = some Tryz.f244 := LL.funcOf Tryz.func244 (by kernel_rfl)
@[go_sem] theorem LL.call244 (args : Array Value) (w : World) : Sem.run Tryz.L (callFunc 244 args) w = .ok (.enter 244 args) w := LL.callOf LL.func244 (by kernel_rfl) (by kernel_rfl) args w
theorem LL.func245 : Tryz.L.funcs[245]? = some Tryz.f245 := LL.funcOf Tryz.func245 (by kernel_rfl)
@[go_sem] theorem LL.call245 (args : Array Value) (w : World) : Sem.run Tryz.L (callFunc 245 args) w = .ok (.enter 245 args) w := LL.callOf LL.func245 (by kernel_rfl) (by kernel_rfl) args w
theorem LL.func246 : Tryz.L.funcs[246]? = some Tryz.f246 := LL.funcOf Tryz.func246 (by kernel_rfl)
@[go_sem] theorem LL.call246 (args : Array Value) (w : World) : Sem.run Tryz.L (callFunc 246 args) w = .ok (.enter 246 args) w := LL.callOf LL.func246 (by kernel_rfl) (by kernel_rfl) args w
theorem LL.func247 : Tryz.L.funcs[247]? = some Tryz.f247 := LL.funcOf Tryz.func247 (by kernel_rfl)
@[go_sem] theorem LL.call247 (args : Array Value) (w : World) : Sem.run Tryz.L (callFunc 247 args) w = .ok (.enter 247 args) w := LL.callOf LL.func247 (by kernel_rfl) (by kernel_rfl) args w
theorem LL.func248 : Tryz.L.funcs[248]? = some Tryz.f248 := LL.funcOf Tryz.func248 (by kernel_rfl)
@[go_sem] theorem LL.call248 (args : Array Value) (w : World) : Sem.run Tryz.L (callFunc 248 args) w = .ok (.enter 248 args) w := LL.callOf LL.func248 (by kernel_rfl) (by kernel_rfl) args w
theorem LL.func249 : Tryz.L.funcs[249]? = some Tryz.f249 := LL.funcOf Tryz.func249 (by kernel_rfl)
@[go_sem] theorem LL.call249 (args : Array Value) (w : World) : Sem.run Tryz.L (callFunc 249 args) w = .ok (.enter 249 args) w := LL.callOf LL.func249 (by kernel_rfl) (by kernel_rfl) args w
theorem LL.func251 : Tryz.L.funcs[251]? = some Tryz.f251 := LL.funcOf Tryz.func251 (by kernel_rfl)
@[go_sem] theorem LL.call251 (args : Array Value) (w : World) : Sem.run Tryz.L (callFunc 251 args) w = .ok (.enter 251 args) w := LL.callOf LL.func251 (by kernel_rfl) (by kernel_rfl) args w
theorem LL.func252 : Tryz.L.funcs[252]? = some Tryz.f252 := LL.funcOf Tryz.func252 (by kernel_rfl)
@[go_sem] theorem LL.call252 (args : Array Value) (w : World) : Sem.run Tryz.L (callFunc 252 args) w = .ok (.enter 252 args) w := LL.callOf LL.func252 (by kernel_rfl) (by kernel_rfl) args w
theorem LL.func253 : Tryz.L.funcs[253]? = some Tryz.f253 := LL.funcOf Tryz.func253 (by kernel_rfl)
@[go_sem] theorem LL.call253 (args : Array Value) (w : World) : Sem.run Tryz.L (callFunc 253 args) w = .ok (.enter 253 args) w := LL.callOf LL.func253 (by kernel_rfl) (by kernel_rfl) args w
theorem LL.func254 : Tryz.L.funcs[254]? = some Tryz.f254 := LL.funcOf Tryz.func254 (by kernel_rfl)
@[go_sem] theorem LL.call254 (args : Array Value) (w : World) : Sem.run Tryz.L (callFunc 254 args) w = .ok (.enter 254 args) w := LL.callOf LL.func254 (by kernel_rfl) (by kernel_rfl) args w
theorem LL.func255 : Tryz.L.funcs[255]? = some Tryz.f255 := LL.funcOf Tryz.func255 (by kernel_rfl)
@[go_sem] theorem LL.call255 (args : Array Value) (w : World) : Sem.run Tryz.L (callFunc 255 args) w = .ok (.enter 255 args) w := LL.callOf LL.func255 (by kernel_rfl) (by kernel_rfl) args w
theorem LL.func256 : Tryz.L.funcs[256]? = some Tryz.f256 := LL.funcOf Tryz.func256 (by kernel_rfl)
@[go_sem] theorem LL.call256 (args : Array Value) (w : World) : Sem.run Tryz.L (callFunc 256 args) w = .ok (.enter 256 args) w := LL.callOf LL.func256 (by kernel_rfl) (by kernel_rfl) args w
theorem LL.func257 : Tryz.L.funcs[257]? = some Tryz.f257 := LL.funcOf Tryz.func257 (by kernel_rfl)
@[go_sem] theorem LL.call257 (args : Array Value) (w : World) : Sem.run Tryz.L (callFunc 257 args) w = .ok (.enter 257 args) w := LL.callOf LL.func257 (by kernel_rfl) (by kernel_rfl) args w
theorem LL.func258 : Tryz.L.funcs[258]? = some Tryz.f258 := LL.funcOf Tryz.func258 (by kernel_rfl)
@[go_sem] theorem LL.call258 (args : Array Value) (w : World) : Sem.run Tryz.L (callFunc 258 args) w = .ok (.enter 258 args) w := LL.callOf LL.func258 (by kernel_rfl) (by kernel_rfl) args w
theorem LL.func259 : Tryz.L.funcs[259]? = some Tryz.f259 := LL.funcOf Tryz.func259 (by kernel_rfl)
@[go_sem] theorem LL.call259 (args : Array Value) (w : World) : Sem.run Tryz.L (callFunc 259 args) w = .ok (.enter 259 args) w := LL.callOf LL.func259 (by kernel_rfl) (by kernel_rfl) args w
theorem LL.func260 : Tryz.L.funcs[260]? = some Tryz.f260 := LL.funcOf Tryz.func260 (by kernel_rfl)
@[go_sem] theorem LL.call260 (args : Array Value) (w : World) : Sem.run Tryz.L (callFunc 260 args) w = .ok (.enter 260 args) w := LL.callOf LL.func260 (by kernel_rfl) (by kernel_rfl) args w
theorem LL.func261 : Tryz.L.funcs[261]? = some Tryz.f261 := LL.funcOf Tryz.func261 (by kernel_rfl)
@[go_sem] theorem LL.call261 (args : Array Value) (w : World) : Sem.run Tryz.L (callFunc 261 args) w = .ok (.enter 261 args) w := LL.callOf LL.func261 (by kernel_rfl) (by kernel_rfl) args w
theorem LL.func262 : Tryz.L.funcs[262]? = some Tryz.f262 := LL.funcOf Tryz.func262 (by kernel_rfl)
@[go_sem] theorem LL.call262 (args : Array Value) (w : World) : Sem.run Tryz.L (callFunc 262 args) w = .ok (.enter 262 args) w := LL.callOf LL.func262 (by kernel_rfl) (by kernel_rfl) args w
theorem LL.func263 : Tryz.L.funcs[263]? = some Tryz.f263 := LL.funcOf Tryz.func263 (by kernel_rfl)
@[go_sem] theorem LL.call263 (args : Array Value) (w : World) : Sem.run Tryz.L (callFunc 263 args) w = .ok (.enter 263 args) w := LL.callOf LL.func263 (by kernel_rfl) (by kernel_rfl) args w
theorem LL.func264 : Tryz.L.funcs[264]? = some Tryz.f264 := LL.funcOf Tryz.func264 (by kernel_rfl)
@[go_sem] theorem LL.call264 (args : Array Value) (w : World) : Sem.run Tryz.L (callFunc 264 args) w = .ok (.enter 264 args) w := LL.callOf LL.func264 (by kernel_rfl) (by kernel_rfl) args w
theorem LL.func265 : Tryz.L.funcs[265]? = some Tryz.f265 := LL.funcOf Tryz.func265 (by kernel_rfl)
@[go_sem] theorem LL.call265 (args : Array Value) (w : World) : Sem.run Tryz.L (callFunc 265 args) w = .ok (.enter 265 args) w := LL.callOf LL.func265 (by kernel_rfl) (by kernel_rfl) args w
theorem LL.func266 : Tryz.L.funcs[266]? = some Tryz.f266 := LL.funcOf Tryz.func266 (by kernel_rfl)
@[go_sem] theorem LL.call266 (args : Array Value) (w : World) : Sem.run Tryz.L (callFunc 266 args) w = .ok (.enter 266 args) w := LL.callOf LL.func266 (by kernel_rfl) (by kernel_rfl) args w
theorem LL.func267 : Tryz.L.funcs[267]? = some Tryz.f267 := LL.funcOf Tryz.func267 (by kernel_rfl)
@[go_sem] theorem LL.call267 (args : Array Value) (w : World) : Sem.run Tryz.L (callFunc 267 args) w = .ok (.enter 267 args) w := LL.callOf LL.func267 (by kernel_rfl) (by kernel_rfl) args w
theorem LL.func268 : Tryz.L.funcs[268]? = some Tryz.f268 := LL.funcOf Tryz.func268 (by kernel_rfl)
@[go_sem] theorem LL.call268 (args : Array Value) (w : World) : Sem.run Tryz.L (callFunc 268 args) w = .ok (.enter 268 args) w := LL.callOf LL.func268 (by kernel_rfl) (by kernel_rfl) args w
theorem LL.func269 : Tryz.L.funcs[269]? = some Tryz.f269 := LL.funcOf Tryz.func269 (by kernel_rfl)
@[go_sem] theorem LL.call269 (args : Array Value) (w : World) : Sem.run Tryz.L (callFunc 269 args) w = .ok (.enter 269 args) w := LL.callOf LL.func269 (by kernel_rfl) (by kernel_rfl) args w
theorem LL.func270 : Tryz.L.funcs[270]? = some Tryz.f270 := LL.funcOf Tryz.func270 (by kernel_rfl)
@[go_sem] theorem LL.call270 (args : Array Value) (w : World) : Sem.run Tryz.L (callFunc 270 args) w = .ok (.enter 270 args) w := LL.callOf LL.func270 (by kernel_rfl) (by kernel_rfl) args w
theorem LL.func271 : Tryz.L.funcs[271]? = some Tryz.f271 := LL.funcOf Tryz.func271 (by kernel_rfl)
@[go_sem] theorem LL.call271 (args : Array Value) (w : World) : Sem.run Tryz.L (callFunc 271 args) w = .ok (.enter 271 args) w := LL.callOf LL.func271 (by kernel_rfl) (by kernel_rfl) args w
theorem LL.func272 : Tryz.L.funcs[272]? = some Tryz.f272 := LL.funcOf Tryz.func272 (by kernel_rfl)
@[go_sem] theorem LL.call272 (args : Array Value) (w : World) : Sem.run Tryz.L (callFunc 272 args) w = .ok (.enter 272 args) w := LL.callOf LL.func272 (by kernel_rfl) (by kernel_rfl) args w
theorem LL.func273 : Tryz.L.funcs[273]? = some Tryz.f273 := LL.funcOf Tryz.func273 (by kernel_rfl)
@[go_sem] theorem LL.call273 (args : Array Value) (w : World) : Sem.run Tryz.L (callFunc 273 args) w = .ok (.enter 273 args) w := LL.callOf LL.func273 (by kernel_rfl) (by kernel_rfl) args w
theorem LL.func292 : Tryz.L.funcs[292]? = some Tryz.f292 := LL.funcOf Tryz.func292 (by kernel_rfl)
@[go_sem] theorem LL.call292 (args : Array Value) (w : World) : Sem.run Tryz.L (callFunc 292 args) w = .ok (.enter 292 args) w := LL.callOf LL.func292 (by kernel_rfl) (by kernel_rfl) args w
theorem LL.func293 : Tryz.L.funcs[293]? = some Tryz.f293 := LL.funcOf Tryz.func293 (by kernel_rfl)
@[go_sem] theorem LL.call293 (args : Array Value) (w : World) : Sem.run Tryz.L (callFunc 293 args) w = .ok (.enter 293 args) w := LL.callOf LL.func293 (by kernel_rfl) (by kernel_rfl) args w
theorem LL.func294 : Tryz.L.funcs[294]? = some Tryz.f294 := LL.funcOf Tryz.func294 (by kernel_rfl)
@[go_sem] theorem LL.call294 (args : Array Value) (w : World) : Sem.run Tryz.L (callFunc 294 args) w = .ok (.enter 294 args) w := LL.callOf LL.func294 (by kernel_rfl) (by kernel_rfl) args w
theorem LL.func314 : Tryz.L.funcs[314]? = some Tryz.f314 := LL.funcOf Tryz.func314 (by kernel_rfl)
@[go_sem] theorem LL.call314 (args : Array Value) (w : World) : Sem.run Tryz.L (callFunc 314 args) w = .ok (.enter 314 args) w := LL.callOf LL.func314 (by kernel_rfl) (by kernel_rfl) args w
theorem LL.func315 : Tryz.L.funcs[315]? = some Tryz.f315 := LL.funcOf Tryz.func315 (by kernel_rfl)
@[go_sem] theorem LL.call315 (args : Array Value) (w : World) : Sem.run Tryz.L (callFunc 315 args) w = .ok (.enter 315 args) w := LL.callOf LL.func315 (by kernel_rfl) (by kernel_rfl) args w
theorem LL.func316 : Tryz.L.funcs[316]? = some Tryz.f316 := LL.funcOf Tryz.func316 (by kernel_rfl)
@[go_sem] theorem LL.call316 (args : Array Value) (w : World) : Sem.run Tryz.L (callFunc 316 args) w = .ok (.enter 316 args) w := LL.callOf LL.func316 (by kernel_rfl) (by kernel_rfl) args w
theorem LL.func317 : Tryz.L.funcs[317]? = some Tryz.f317 := LL.funcOf Tryz.func317 (by kernel_rfl)
@[go_sem] theorem LL.call317 (args : Array Value) (w : World) : Sem.run Tryz.L (callFunc 317 args) w = .ok (.enter 317 args) w := LL.callOf LL.func317 (by kernel_rfl) (by kernel_rfl) args w
theorem LL.func318 : Tryz.L.funcs[318]? = some Tryz.f318 := LL.funcOf Tryz.func318 (by kernel_rfl)
@[go_sem] theorem LL.call318 (args : Array Value) (w : World) : Sem.run Tryz.L (callFunc 318 args) w = .ok (.enter 318 args) w := LL.callOf LL.func318 (by kernel_rfl) (by kernel_rfl) args w
theorem LL.func319 : Tryz.L.funcs[319]? = some Tryz.f319 := LL.funcOf Tryz.func319 (by kernel_rfl)
@[go_sem] theorem LL.call319 (args : Array Value) (w : World) : Sem.run Tryz.L (callFunc 319 args) w = .ok (.enter 319 args) w := LL.callOf LL.func319 (by kernel_rfl) (by kernel_rfl) args w
theorem LL.func320 : Tryz.L.funcs[320]? = some Tryz.f320 := LL.funcOf Tryz.func320 (by kernel_rfl)
@[go_sem] theorem LL.call320 (args : Array Value) (w : World) : Sem.run Tryz.L (callFunc 320 args) w = .ok (.enter 320 args) w := LL.callOf LL.func320 (by kernel_rfl) (by kernel_rfl) args w
theorem LL.func321 : Tryz.L.funcs[321]? = some Tryz.f321 := LL.funcOf Tryz.func321 (by kernel_rfl)
@[go_sem] theorem LL.call321 (args : Array Value) (w : World) : Sem.run Tryz.L (callFunc 321 args) w = .ok (.enter 321 args) w := LL.callOf LL.func321 (by kernel_rfl) (by kernel_rfl) args w
theorem LL.func322 : Tryz.L.funcs[322]? = some Tryz.f322 := LL.funcOf Tryz.func322 (by kernel_rfl)
@[go_sem] theorem LL.call322 (args : Array Value) (w : World) : Sem.run Tryz.L (callFunc 322 args) w = .ok (.enter 322 args) w := LL.callOf LL.func322 (by kernel_rfl) (by kernel_rfl) args w
theorem LL.func323 : Tryz.L.funcs[323]? = some Tryz.f323 := LL.funcOf Tryz.func323 (by kernel_rfl)
@[go_sem] theorem LL.call323 (args : Array Value) (w : World) : Sem.run Tryz.L (callFunc 323 args) w = .ok (.enter 323 args) w := LL.callOf LL.func323 (by kernel_rfl) (by kernel_rfl) args w
theorem LL.func324 : Tryz.L.funcs[324]? = some Tryz.f324 := LL.funcOf Tryz.func324 (by kernel_rfl)
@[go_sem] theorem LL.call324 (args : Array Value) (w : World) : Sem.run Tryz.L (callFunc 324 args) w = .ok (.enter 324 args) w := LL.callOf LL.func324 (by kernel_rfl) (by kernel_rfl) args w
theorem LL.func325 : Tryz.L.funcs[325]? = some Tryz.f325 := LL.funcOf Tryz.func325 (by kernel_rfl)
@[go_sem] theorem LL.call325 (args : Array Value) (w : World) : Sem.run Tryz.L (callFunc 325 args) w = .ok (.enter 325 args) w := LL.callOf LL.func325 (by kernel_rfl) (by kernel_rfl) args w
theorem LL.func326 : Tryz.L.funcs[326]? = some Tryz.f326 := LL.funcOf Tryz.func326 (by kernel_rfl)
@[go_sem] theorem LL.call326 (args : Array Value) (w : World) : Sem.run Tryz.L (callFunc 326 args) w = .ok (.enter 326 args) w := LL.callOf LL.func326 (by kernel_rfl) (by kernel_rfl) args w
theorem LL.func327 : Tryz.L.funcs[327]? = some Tryz.f327 := LL.funcOf Tryz.func327 (by kernel_rfl)
@[go_sem] theorem LL.call327 (args : Array Value) (w : World) : Sem.run Tryz.L (callFunc 327 args) w = .ok (.enter 327 args) w := LL.callOf LL.func327 (by kernel_rfl) (by kernel_rfl) args w
theorem LL.func328 : Tryz.L.funcs[328]? = some Tryz.f328 := LL.funcOf Tryz.func328 (by kernel_rfl)
@[go_sem] theorem LL.call328 (args : Array Value) (w : World) : Sem.run Tryz.L (callFunc 328 args) w = .ok (.enter 328 args) w := LL.callOf LL.func328 (by kernel_rfl) (by kernel_rfl) args w
theorem LL.func331 : Tryz.L.funcs[331]? = some Tryz.f331 := LL.funcOf Tryz.func331 (by kernel_rfl)
@[go_sem] theorem LL.call331 (args : Array Value) (w : World) : Sem.run Tryz.L (callFunc 331 args) w = .ok (.enter 331 args) w := LL.callOf LL.func331 (by kernel_rfl) (by kernel_rfl) args w
end Go.Proofs
/- Which operations are a transaction: the document's function and the program's, alone. -/
namespace Go.Proofs.Shardlog
open Go Go.Conc Go.Tame Go.Proofs Go.RowKit
/-- An operation. -/
structure OpD where
  wr : Bool
  key : Int
  val : Int
def OpD.good (o : OpD) : Prop := 97 ≤ o.key ∧ o.key ≤ 122 ∧ (o.wr = true ∨ o.val = 0)
/-- The first k are such, and no two of them alike. -/
def firstOk (o : Nat → OpD) (k : Nat) : Prop := ∀ i, i < k → (o i).good ∧ ∀ j, j < i → (o j).key ≠ (o i).key
def isTx (n : Nat) (o : Nat → OpD) : Prop := 1 ≤ n ∧ n ≤ 6 ∧ firstOk o n
/-- Operations as the document's answer has them. -/
structure RefOps (w : World) (b off n : Nat) (o : Nat → OpD) : Prop where
  wr : ∀ i, i < n → w.cell? ⟨b, off + i * 3, none⟩ = some (.bool (o i).wr)
  key : ∀ i, i < n → w.cell? ⟨b, off + i * 3 + 1, none⟩ = some (.int .i64 (o i).key)
  val : ∀ i, i < n → w.cell? ⟨b, off + i * 3 + 2, none⟩ = some (.int .i64 (o i).val)
structure Same (w w' : World) : Prop where
  heap : w'.heap = w.heap
  os : w'.os = w.os
theorem Same.refl (w : World) : Same w w := ⟨rfl, rfl⟩
theorem Same.cell {w w' : World} (h : Same w w') (a : Addr) : w'.cell? a = w.cell? a := by
  unfold World.cell?
  rw [h.heap]
theorem Same.drew {w w' : World} (h : Same w w') : Same w w'.drew := ⟨h.heap, h.os⟩
theorem Same.trans {u v w : World} (h : Same u v) (k : Same v w) : Same u w := ⟨k.heap.trans h.heap, k.os.trans h.os⟩
section
variable {b off n cap : Nat} {o : Nat → OpD} {w : World}
set_option maxHeartbeats 2000000 in
theorem lone_right (h : RefOps w b off n o) (hn : n ≤ 5864062014805) : Calls Tryz.L 29 #[.slice (some ⟨b, off, none⟩) n cap] w fun e w' => Same w w' ∧ ((isTx n o ∧ e = .returned (.bool true)) ∨ (¬ isTx n o ∧ e = .returned (.bool false))) := by
  go_enter LL.func29, Tryz.ntmps29
  go_wp2
  go_loopw [3] (fun i wr => ∃ k : Nat, k ≤ n ∧ i = .int .i64 k ∧ firstOk o k ∧ Same w wr) (fun i _ => n - (intOf i).toNat)
  case atStart => exact ⟨0, by omega, rfl, fun i hi => by omega, Same.refl w⟩
  case round =>
    obtain ⟨k, hk, rfl, hok, hs⟩ := hrel
    by_cases hlt : k < n
    · have h1 := (hs.cell _).trans (h.wr k hlt)
      have h2 := (hs.cell _).trans (h.key k hlt)
      have h3 := (hs.cell _).trans (h.val k hlt)
      have hcase : ((o k).key < 97 ∨ 122 < (o k).key ∨ ((o k).wr = false ∧ ¬ (o k).val = 0)) ∨ (¬ (o k).key < 97 ∧ ¬ 122 < (o k).key ∧ ((o k).wr = true ∨ ((o k).wr = false ∧ (o k).val = 0))) := by
        cases (o k).wr <;> simp <;> omega
      have bad : ¬ (o k).good → ¬ isTx n o := fun hg hx => hg (hx.2.2 k hlt).1
      rcases hcase with hb | ⟨e1, e2, hb⟩
      · have hng : ¬ isTx n o := bad fun hg => by
          obtain ⟨g1, g2, g3⟩ := hg
          rcases hb with h | h | ⟨h, h'⟩
          · omega
          · omega
          · rcases g3 with g | g
            · rw [h] at g; cases g
            · exact h' g
        rcases hb with e1 | e2 | ⟨hw, e3⟩
        · go_wp2
          go_ret
          first | exact ⟨hs, .inr ⟨hng, rfl⟩⟩ | exact ⟨hs, rfl⟩
        · have e1 : ¬ (o k).key < 97 := by omega
          go_wp2
          go_ret
          first | exact ⟨hs, .inr ⟨hng, rfl⟩⟩ | exact ⟨hs, rfl⟩
        · by_cases e1 : (o k).key < 97
          · go_wp2
            go_ret
            first | exact ⟨hs, .inr ⟨hng, rfl⟩⟩ | exact ⟨hs, rfl⟩
          · by_cases e2 : 122 < (o k).key
            · go_wp2
              go_ret
              first | exact ⟨hs, .inr ⟨hng, rfl⟩⟩ | exact ⟨hs, rfl⟩
            · rw [hw] at h1
              go_wp2
              go_ret
              first | exact ⟨hs, .inr ⟨hng, rfl⟩⟩ | exact ⟨hs, rfl⟩
      · have hg : (o k).good := ⟨by omega, by omega, hb.imp id (·.2)⟩
        rcases hb with hw | ⟨hw, e3⟩
        all_goals
          rw [hw] at h1
          go_wp2
          go_loopw [4] (fun j wr' => ∃ m : Nat, m ≤ k ∧ j = .int .i64 m ∧ (∀ i, i < m → (o i).key ≠ (o k).key) ∧ Same w wr') (fun j _ => k - (intOf j).toNat)
          case atStart => exact ⟨0, by omega, rfl, fun i hi => by omega, hs⟩
          case round =>
            clear h1 h2 h3
            obtain ⟨m, hm, rfl, hdis, hs'⟩ := hrel
            by_cases hmk : m < k
            · have k1 := (hs'.cell _).trans (h.key m (by omega))
              have k2 := (hs'.cell _).trans (h.key k hlt)
              by_cases he : (o m).key = (o k).key
              · go_wp2
                go_region
                all_goals go_wp2
                all_goals go_ret
                all_goals exact ⟨hs'.drew, .inr ⟨fun hx => (hx.2.2 k hlt).2 m hmk he, rfl⟩⟩
              · go_wp2
                go_region
                all_goals go_wp2
                all_goals go_roundw
                all_goals first
                  | exact ⟨m + 1, by omega, by go_num, fun i hi => by
                      by_cases hi' : i = m
                      · rw [hi']; exact he
                      · exact hdis i (by omega), hs'.drew⟩
                  | (simp [intOf]; omega)
            · go_wp2
              go_roundw
              case rel => exact ⟨k + 1, by omega, by go_num, fun i hi => by
                by_cases hik : i = k
                · subst hik
                  exact ⟨hg, fun j hj => hdis j (by omega)⟩
                · exact hok i (by omega), hs'⟩
              case measure => simp [intOf]; omega
    · have hkn : k = n := by omega
      subst hkn
      by_cases e1 : 1 ≤ k
      · by_cases e6 : k ≤ 6
        · have hx : isTx k o := ⟨e1, e6, hok⟩
          go_wp2
          go_ret
          first | exact ⟨hs, .inl ⟨hx, rfl⟩⟩ | exact ⟨hs, rfl⟩ | exact ⟨hs, .inl ⟨hx, by simp; omega⟩⟩
        · have hx : ¬ isTx k o := fun hx => e6 hx.2.1
          go_wp2
          go_ret
          first | exact ⟨hs, .inr ⟨hx, rfl⟩⟩ | exact ⟨hs, rfl⟩ | exact ⟨hs, .inr ⟨hx, by simp; omega⟩⟩
      · have hx : ¬ isTx k o := fun hx => e1 hx.1
        go_wp2
        go_ret
        first | exact ⟨hs, .inr ⟨hx, rfl⟩⟩ | exact ⟨hs, rfl⟩ | exact ⟨hs, .inr ⟨hx, by simp; omega⟩⟩
theorem lone_right' (h : RefOps w b off n o) (hn : n ≤ 5864062014805) : Calls Tryz.L 29 #[.slice (some ⟨b, off, none⟩) n cap] w fun e w' => ∃ t : Bool, e = .returned (.bool t) ∧ (t = true ↔ isTx n o) ∧ Same w w' := by
  refine (lone_right h hn).mono fun e w' hr => ?_
  obtain ⟨hs, ⟨hx, rfl⟩ | ⟨hx, rfl⟩⟩ := hr
  · exact ⟨true, rfl, by simp [hx], hs⟩
  · exact ⟨false, rfl, by simp [hx], hs⟩
theorem isTx_zero : ¬ isTx 0 o := fun h => by have := h.1; omega
theorem lone_right_nil (a : Option Addr) (c : Nat) : Calls Tryz.L 29 #[.slice a 0 c] w fun e w' => ∃ t : Bool, e = .returned (.bool t) ∧ (t = true ↔ isTx 0 o) ∧ Same w w' := by
  go_enter LL.func29, Tryz.ntmps29
  go_wp2
  refine wp_loop_rounds 1 ?_
  rw [rounds_succ]
  go_wp2
  go_ret
  exact ⟨false, rfl, by simp [isTx_zero], Same.refl w⟩
end
end Go.Proofs.Shardlog
/- The document, as functions over plain lists: shards, records, timers, the bag. -/
namespace Go.Proofs.Shardlog
structure Msg where
  kind : Nat
  frm : Int
  to : Int
  tx : Nat
  yes : Bool := false
  ops : List OpD := []
  reads : List Int := []
structure Rcd where
  kind : Nat
  tx : Nat
  yes : Bool := false
  home : Int := 0
  ops : List OpD := []
  reads : List Int := []
structure Vote where
  frm : Int
  reads : List Int
structure Und where
  tx : Nat
  ops : List OpD
  votes : List Vote := []
  dec : Bool := false
  yes : Bool := false
  acks : List Int := []
structure Tmr where
  due : Nat
  again : Bool
  tx : Nat
structure Shd where
  me : Nat
  n : Nat
  up : Bool := true
  log : List Rcd := []
  good : Nat := 0
  vals : List Int := List.replicate 26 0
  locks : List (Int × Nat) := []
  under : List Und := []
  tmrs : List Tmr := []
  waits : List Msg := []
  clock : Nat := 0
structure Txn where
  ops : List OpD
  state : Nat := 1
  reads : List Int := []
structure Wld where
  shards : List Shd
  bag : List Msg := []
  txs : List Txn := []
  stopped : Bool := false

/-- The shard of a key. -/
def plc (key : Int) (n : Nat) : Nat := (key - 97).toNat % n
def part (ops : List OpD) (s n : Nat) : List OpD := ops.filter fun o => plc o.key n == s
def takes (ops : List OpD) (s n : Nat) : Bool := !(part ops s n).isEmpty
/-- The place of the last record of a kind of a transaction. -/
def findTo (log : List Rcd) (kind tx : Nat) : Nat → Option Nat
  | 0 => none
  | i + 1 => match log[i]? with
    | some r => if r.kind = kind ∧ r.tx = tx then some i else findTo log kind tx i
    | none => findTo log kind tx i
def find (log : List Rcd) (kind tx : Nat) : Option Nat := findTo log kind tx log.length
def ready (log : List Rcd) (tx : Nat) : Option Nat := match find log 3 tx with
  | some _ => none
  | none => find log 1 tx
def Shd.undAt (s : Shd) (tx : Nat) : Option Nat := s.under.findIdx? fun u => u.tx == tx
def voted (u : Und) (k : Int) : Option Vote := u.votes.find? fun v => v.frm == k
/-- What all its reads have read, in the order of its operations. -/
def readsGo (n : Nat) (u : Und) : List OpD → (Nat → Nat) → List Int
  | [], _ => []
  | o :: l, used => if o.wr then readsGo n u l used else
      (((voted u (plc o.key n : Int)).map (·.reads)).getD [])[used (plc o.key n)]?.getD 0 :: readsGo n u l fun j => if j = plc o.key n then used j + 1 else used j
def Und.all (u : Und) (n : Nat) : List Int := readsGo n u u.ops fun _ => 0
/-- To each that takes part and of whom p holds, in their order. -/
def toParts (ops : List OpD) (n : Nat) (p : Nat → Bool) (f : Nat → Msg) : List Msg := ((List.range n).filter fun k => takes ops k n && p k).map f
abbrev Step := Shd × List Msg
def takeBegin (s : Shd) (m : Msg) : Step := match find s.log 2 m.tx with
  | some d => (s, if d < s.good then match s.log[d]? with
      | some r => [{ kind := 7, frm := s.me, to := -1, tx := m.tx, yes := r.yes, reads := r.reads }]
      | none => [] else [])
  | none => match s.undAt m.tx with
    | some _ => (s, [])
    | none => ({ s with under := s.under ++ [{ tx := m.tx, ops := m.ops }], tmrs := s.tmrs ++ [{ due := s.clock + 4, again := true, tx := m.tx }] },
        toParts m.ops s.n (fun _ => true) fun k => { kind := 2, frm := s.me, to := k, tx := m.tx, ops := part m.ops k s.n })
/-- A transaction under way is decided. -/
def decideAll (s : Shd) (i : Nat) (u : Und) (yes : Bool) : Step :=
  ({ s with
      under := s.under.set i { u with dec := true, yes := yes }
      log := s.log ++ [{ kind := 2, tx := u.tx, yes := yes, reads := if yes then u.all s.n else [] }]
      waits := s.waits ++ toParts u.ops s.n (fun _ => true) (fun k => { kind := 4, frm := s.me, to := k, tx := u.tx, yes := yes }) ++ [{ kind := 7, frm := s.me, to := -1, tx := u.tx, yes := yes, reads := if yes then u.all s.n else [] }] }, [])
def Und.full (u : Und) (n : Nat) : Bool := (List.range n).all fun k => !takes u.ops k n || (voted u k).isSome
def takeVote (s : Shd) (m : Msg) : Step := match s.undAt m.tx with
  | none => (s, [])
  | some i => match s.under[i]? with
    | none => (s, [])
    | some u => if u.dec then (s, []) else
        if m.yes then
          let u' := if (voted u m.frm).isSome then u else { u with votes := u.votes ++ [⟨m.frm, m.reads⟩] }
          if u'.full s.n then decideAll s i u' true else ({ s with under := s.under.set i u' }, [])
        else decideAll s i u false
def Und.done (u : Und) (n : Nat) : Bool := (List.range n).all fun k => !takes u.ops k n || u.acks.contains (k : Int)
def takeAck (s : Shd) (m : Msg) : Step := match s.undAt m.tx with
  | none => (s, [])
  | some i => match s.under[i]? with
    | none => (s, [])
    | some u => if u.dec then
        let u' := { u with acks := u.acks ++ [m.frm] }
        if u'.done s.n then ({ s with under := s.under.eraseIdx i }, []) else ({ s with under := s.under.set i u' }, [])
      else (s, [])
def takeAsk (s : Shd) (m : Msg) : Step := match find s.log 2 m.tx with
  | some d => (s, if d < s.good then match s.log[d]? with
      | some r => [{ kind := 4, frm := s.me, to := m.frm, tx := m.tx, yes := r.yes }]
      | none => [] else [])
  | none => match s.undAt m.tx with
    | some _ => (s, [])
    | none => ({ s with log := s.log ++ [{ kind := 2, tx := m.tx }], waits := s.waits ++ [{ kind := 4, frm := s.me, to := m.frm, tx := m.tx }] }, [])
def locked (locks : List (Int × Nat)) (key : Int) : Bool := locks.any fun l => l.1 == key
def seen (vals : List Int) (ops : List OpD) : List Int := (ops.filter fun o => !o.wr).map fun o => vals.getD (o.key - 97).toNat 0
def takePrepare (s : Shd) (m : Msg) : Step := match ready s.log m.tx with
  | some r => (s, if r < s.good then match s.log[r]? with
      | some q => [{ kind := 3, frm := s.me, to := m.frm, tx := m.tx, yes := true, reads := seen s.vals q.ops }]
      | none => [] else [])
  | none => match find s.log 3 m.tx with
    | some d => (s, match s.log[d]? with
        | some r => if r.yes then [] else [{ kind := 3, frm := s.me, to := m.frm, tx := m.tx }]
        | none => [])
    | none => if m.ops.any fun o => locked s.locks o.key then (s, [{ kind := 3, frm := s.me, to := m.frm, tx := m.tx }]) else
        ({ s with
            locks := s.locks ++ m.ops.map fun o => (o.key, m.tx)
            log := s.log ++ [{ kind := 1, tx := m.tx, home := m.frm, ops := m.ops }]
            waits := s.waits ++ [{ kind := 3, frm := s.me, to := m.frm, tx := m.tx, yes := true, reads := seen s.vals m.ops }]
            tmrs := s.tmrs ++ [{ due := s.clock + 3, again := false, tx := m.tx }] }, [])
def written (vals : List Int) (ops : List OpD) : List Int := ops.foldl (fun v o => if o.wr then v.set (o.key - 97).toNat o.val else v) vals
def freed (locks : List (Int × Nat)) (tx : Nat) : List (Int × Nat) := locks.filter fun l => !(l.2 == tx)
def opsAt (log : List Rcd) (i : Nat) : List OpD := ((log[i]?).map (·.ops)).getD []
def takeDecide (s : Shd) (m : Msg) : Step := match ready s.log m.tx with
  | some r => ({ s with
      vals := if m.yes then written s.vals (opsAt s.log r) else s.vals
      locks := freed s.locks m.tx
      log := s.log ++ [{ kind := 3, tx := m.tx, yes := m.yes }]
      waits := s.waits ++ [{ kind := 5, frm := s.me, to := m.frm, tx := m.tx }] }, [])
  | none => match find s.log 3 m.tx with
    | some d => (s, if d < s.good then [{ kind := 5, frm := s.me, to := m.frm, tx := m.tx }] else [])
    | none => if m.yes then (s, []) else
        ({ s with log := s.log ++ [{ kind := 3, tx := m.tx, yes := false }], waits := s.waits ++ [{ kind := 5, frm := s.me, to := m.frm, tx := m.tx }] }, [])
/-- P5, P6: a message comes in. -/
def take (s : Shd) (m : Msg) : Step := match m.kind with
  | 1 => takeBegin s m
  | 2 => takePrepare s m
  | 3 => takeVote s m
  | 4 => takeDecide s m
  | 5 => takeAck s m
  | 6 => takeAsk s m
  | _ => (s, [])
def doSync (s : Shd) : Step := ({ s with good := s.log.length, waits := [] }, s.waits)
/-- A timer goes off. -/
def off (s : Shd) (t : Tmr) : Step :=
  if t.again then match s.undAt t.tx with
    | none => (s, [])
    | some i => match s.under[i]? with
      | none => (s, [])
      | some u =>
        ({ s with tmrs := s.tmrs ++ [{ due := s.clock + 4, again := true, tx := t.tx }] },
          if u.dec then
            if ((find s.log 2 t.tx).map fun d => decide (d < s.good)).getD false then toParts u.ops s.n (fun k => !u.acks.contains (k : Int)) fun k => { kind := 4, frm := s.me, to := k, tx := t.tx, yes := u.yes } else []
          else toParts u.ops s.n (fun k => !(voted u k).isSome) fun k => { kind := 2, frm := s.me, to := k, tx := t.tx, ops := part u.ops k s.n })
  else match ready s.log t.tx with
    | none => (s, [])
    | some r => match s.log[r]? with
      | none => (s, [])
      | some q => ({ s with tmrs := s.tmrs ++ [{ due := s.clock + 3, again := false, tx := t.tx }] }, [{ kind := 6, frm := s.me, to := q.home, tx := t.tx }])
/-- The place of the timer that goes off next: the earliest, of one time the first. -/
def nextDue (l : List Tmr) (clock : Nat) : Nat → Option Nat
  | 0 => none
  | i + 1 => match nextDue l clock i, l[i]? with
    | k, none => k
    | none, some t => if t.due ≤ clock then some i else none
    | some k, some t => if t.due < ((l[k]?).map (·.due)).getD 0 then some i else some k
def tickGo : Nat → Shd → Step
  | 0, s => (s, [])
  | f + 1, s => match nextDue s.tmrs s.clock s.tmrs.length with
    | none => (s, [])
    | some k => match s.tmrs[k]? with
      | none => (s, [])
      | some t =>
        let a := off { s with tmrs := s.tmrs.eraseIdx k } t
        let b := tickGo f a.1
        (b.1, a.2 ++ b.2)
def doTick (s : Shd) : Step := tickGo s.tmrs.length { s with clock := s.clock + 1 }
def forget (s : Shd) : Shd := { s with vals := List.replicate 26 0, locks := [], under := [], tmrs := [], waits := [], clock := 0 }
def doCrash (s : Shd) (keep : Int) : Shd :=
  let g := s.good + min keep.toNat (s.log.length - s.good)
  forget { s with up := false, good := g, log := s.log.take g }
/-- What a record of the log tells, behind those ahead of it. -/
def learn (log : List Rcd) (i : Nat) (s : Shd) (r : Rcd) : Shd := match r.kind with
  | 1 => { s with locks := s.locks ++ r.ops.map fun o => (o.key, r.tx) }
  | 3 => { s with vals := if r.yes then (match findTo log 1 r.tx i with | some p => written s.vals (opsAt log p) | none => s.vals) else s.vals, locks := freed s.locks r.tx }
  | _ => s
def learnTo (log : List Rcd) (s : Shd) : Nat → Shd
  | 0 => s
  | i + 1 => match log[i]? with
    | some r => learn log i (learnTo log s i) r
    | none => learnTo log s i
def doRestart (s : Shd) : Shd :=
  let a := learnTo s.log (forget { s with up := true }) s.log.length
  { a with tmrs := ((List.range 60).filter fun tx => (ready s.log tx).isSome).map fun tx => ⟨3, false, tx⟩ }
def newShd (k n : Nat) : Shd := { me := k, n := n }
def newWld (n : Nat) : Wld := { shards := (List.range n).map fun k => newShd k n }
def nthOp (l : List OpD) (i : Nat) : OpD := l.getD i ⟨false, 0, 0⟩
/-- It is a transaction. -/
def TxL (l : List OpD) : Prop := isTx l.length (nthOp l)
def beginOf (w : Wld) (tx : Nat) : Msg :=
  let ops := ((w.txs[tx]?).map (·.ops)).getD []
  { kind := 1, frm := -1, to := (plc ((ops.map (·.key)).getD 0 97) w.shards.length : Int), tx := tx, ops := ops }
open Classical in
/-- P3. -/
noncomputable def submit (w : Wld) (ops : List OpD) : Wld × Nat × Nat :=
  if w.stopped then (w, 0, 9) else if ¬ TxL ops then (w, 0, 2) else if w.txs.length = 60 ∨ 400 ≤ w.bag.length then (w, 0, 3) else
    let w' : Wld := { w with txs := w.txs ++ [{ ops := ops }] }
    ({ w' with bag := w'.bag ++ [beginOf w' w.txs.length] }, w.txs.length, 0)
/-- The client takes a reply in. -/
def hear (txs : List Txn) (m : Msg) : List Txn := match txs[m.tx]? with
  | some t => if t.state = 1 then txs.set m.tx { t with state := if m.yes then 2 else 3, reads := if m.yes then m.reads else t.reads } else txs
  | none => txs
def onShard (w : Wld) (s : Nat) (f : Shd → Step) : Wld := match w.shards[s]? with
  | some x => let a := f x; { w with shards := w.shards.set s a.1, bag := w.bag ++ a.2 }
  | none => w
/-- A call by its number. -/
def doCall (w : Wld) (k : Int) (a b : Int) : Wld × Nat :=
  if k < 1 ∨ 8 < k then (w, 0) else if w.stopped then (w, 9) else
  if k = 1 then if a < 0 ∨ w.txs.length ≤ a then (w, 4) else if 400 ≤ w.bag.length then (w, 3) else ({ w with bag := w.bag ++ [beginOf w a.toNat] }, 0)
  else if k ≤ 4 then
    if a < 0 ∨ w.bag.length ≤ a then (w, 5) else match w.bag[a.toNat]? with
    | none => (w, 5)
    | some m =>
      if k = 4 then if 400 ≤ w.bag.length then (w, 3) else ({ w with bag := w.bag ++ [m] }, 0)
      else
        let w' : Wld := { w with bag := w.bag.eraseIdx a.toNat }
        if k = 3 then (w', 0) else if m.to = -1 then ({ w' with txs := hear w'.txs m }, 0) else
          (onShard w' m.to.toNat fun x => if x.up then take x m else (x, []), 0)
  else if a < 0 ∨ w.shards.length ≤ a then (w, 6) else match w.shards[a.toNat]? with
    | none => (w, 6)
    | some x =>
      if k = 8 then if x.up then (w, 8) else ({ w with shards := w.shards.set a.toNat (doRestart x) }, 0)
      else if !x.up then (w, 7) else
      if k = 5 then (onShard w a.toNat doSync, 0) else if k = 6 then if 150 < w.bag.length then (w, 3) else (onShard w a.toNat doTick, 0)
      else ({ w with shards := w.shards.set a.toNat (doCrash x b) }, 0)
end Go.Proofs.Shardlog
/- How lists lie in memory: operations, appended rows; the laws for 'append' in both kinds of regions. -/
namespace Go.Proofs.Shardlog
open Go Go.Conc Go.Tame Go.Proofs Go.RowKit Go.Mem
/-- Operations as the program has them, and as the document's answer has them. -/
def clL (l : List OpD) : List Value := l.flatMap fun o => [.bool o.wr, .int .u8 o.key, .int .i32 o.val]
def refL (l : List OpD) : List Value := l.flatMap fun o => [.bool o.wr, .int .i64 o.key, .int .i64 o.val]
theorem len_clL (l : List OpD) : (clL l).length = l.length * 3 := by
  induction l with
  | nil => rfl
  | cons o l ih =>
    show ([Value.bool o.wr, .int .u8 o.key, .int .i32 o.val] ++ clL l).length = _
    rw [List.length_append, ih]
    simp
    omega
theorem len_refL (l : List OpD) : (refL l).length = l.length * 3 := by
  induction l with
  | nil => rfl
  | cons o l ih =>
    show ([Value.bool o.wr, .int .i64 o.key, .int .i64 o.val] ++ refL l).length = _
    rw [List.length_append, ih]
    simp
    omega
theorem one_clL (l : List OpD) : ∀ u ∈ clL l, u.oneCell' = true := by
  intro u hu
  obtain ⟨o, _, h⟩ := List.mem_flatMap.1 hu
  simp at h
  rcases h with rfl | rfl | rfl <;> rfl
theorem one_refL (l : List OpD) : ∀ u ∈ refL l, u.oneCell' = true := by
  intro u hu
  obtain ⟨o, _, h⟩ := List.mem_flatMap.1 hu
  simp at h
  rcases h with rfl | rfl | rfl <;> rfl
theorem clL_get (l : List OpD) (i : Nat) (o : OpD) (h : l[i]? = some o) : (clL l)[i * 3]? = some (.bool o.wr) ∧ (clL l)[i * 3 + 1]? = some (.int .u8 o.key) ∧ (clL l)[i * 3 + 2]? = some (.int .i32 o.val) := by
  induction l generalizing i with
  | nil => simp at h
  | cons x l ih =>
    cases i with
    | zero =>
      simp at h
      subst h
      exact ⟨rfl, rfl, rfl⟩
    | succ i =>
      simp at h
      obtain ⟨h1, h2, h3⟩ := ih i h
      have e : ∀ j, (clL (x :: l))[(i + 1) * 3 + j]? = (clL l)[i * 3 + j]? := fun j => by
        show ([Value.bool x.wr, .int .u8 x.key, .int .i32 x.val] ++ clL l)[(i + 1) * 3 + j]? = _
        rw [List.getElem?_append_right (by simp; omega)]
        congr 1
        simp
        omega
      exact ⟨(e 0).trans h1, (e 1).trans h2, (e 2).trans h3⟩
theorem refL_get (l : List OpD) (i : Nat) (o : OpD) (h : l[i]? = some o) : (refL l)[i * 3]? = some (.bool o.wr) ∧ (refL l)[i * 3 + 1]? = some (.int .i64 o.key) ∧ (refL l)[i * 3 + 2]? = some (.int .i64 o.val) := by
  induction l generalizing i with
  | nil => simp at h
  | cons x l ih =>
    cases i with
    | zero =>
      simp at h
      subst h
      exact ⟨rfl, rfl, rfl⟩
    | succ i =>
      simp at h
      obtain ⟨h1, h2, h3⟩ := ih i h
      have e : ∀ j, (refL (x :: l))[(i + 1) * 3 + j]? = (refL l)[i * 3 + j]? := fun j => by
        show ([Value.bool x.wr, .int .i64 x.key, .int .i64 x.val] ++ refL l)[(i + 1) * 3 + j]? = _
        rw [List.getElem?_append_right (by simp; omega)]
        congr 1
        simp
        omega
      exact ⟨(e 0).trans h1, (e 1).trans h2, (e 2).trans h3⟩
/-- What is known of an element's type. -/
structure Slot (t e : TypeId) (size bytes : Nat) : Prop where
  und : Tryz.L.underlying t = some (.slice e)
  info : (Tryz.L.info? e).map (fun i => (i.size, i.bytes, i.zero.map (·.cells.size))) = some (size, bytes, some size)
  pos : 0 < size
theorem Slot.get {t e : TypeId} {size bytes : Nat} (h : Slot t e size bytes) : ∃ i z, Tryz.L.info? e = some i ∧ i.zero = some z ∧ i.size = size ∧ i.bytes = bytes ∧ z.cells.size = size := by
  obtain ⟨i, hi, hb⟩ := Option.map_eq_some_iff.1 h.info
  simp only [Prod.mk.injEq] at hb
  obtain ⟨z, hz, hc⟩ := Option.map_eq_some_iff.1 hb.2.2
  exact ⟨i, z, hi, hz, hb.1, hb.2.1, hc⟩
theorem append_types {P : Program} {t t' ty e e' : TypeId} (h : P.underlying t = some (.slice e)) (h' : P.underlying t' = some (.slice e')) (a b : Value) (w : World) : (Builtin.append_ #[t, t'] ty #[a, b]).run P w = (Builtin.append_ #[t, t] ty #[a, b]).run P w := by
  unfold Builtin.append_
  simp only [List.getElem?_toArray, List.getElem?_cons_zero, List.getElem?_cons_succ, Sem.run_bind, run_underlying h, run_underlying h', Result.andThen_ok]
  cases a <;> simp only [Sem.run_bind, run_underlying h, run_underlying h', Result.andThen_ok]
section
variable {w : World} {Λ : Lab} {ρ : Role} {t t' e e' : TypeId} {size bytes n m c : Nat} {v : Value} {xs news : List Value} {p : Addr}
/-- 'append', by the run. -/
theorem run_append_row (sl : Slot t e size bytes) (ht' : Tryz.L.underlying t' = some (.slice e')) (hr : Row w Λ ρ e size v n xs) (hl : news.length = m * size) (hn : ∀ j u, news[j]? = some u → w.cell? (p.add j) = some u) (h1 : ∀ u ∈ news, u.oneCell' = true) (hm : n + m ≤ maxLen) (hb : (n + m) * bytes ≤ 140737488355328) (ty : TypeId) :
    ∃ v' w' Λ', (Builtin.append_ #[t, t'] ty #[v, .slice (some p) m c]).run Tryz.L w = .ok v' w' ∧ Fr Λ Λ' (· = ρ) w w' ∧ Row w' Λ' ρ e size v' (n + m) (xs ++ news) := by
  obtain ⟨i, z, s1, s2, s3, s4, s5⟩ := sl.get
  obtain ⟨v', w', h1, h2, h3, _, h5⟩ := run_append_own_at (P := Tryz.L) w 0 t ty e i z size bytes sl.und s1 s2 s3 s4 s5 sl.pos v n xs hr.own p m c news hl hn h1 hm hb (Nat.zero_le _)
  obtain ⟨Λ', h6, h7⟩ := hr.append h2 h3 h5
  exact ⟨v', w', Λ', (append_types sl.und ht' _ _ _).trans h1, h6, h7⟩
theorem exec_append {ρ : Operand → Value} {o : Oper} {x y : Operand} {ty : TypeId} {v : Value} (hop : o.op = .call { callee := .builtin .append, args := #[x, y], argTypes := #[t, t'] }) (hx : ρ x = v) (hy : ρ y = .slice (some p) m c) :
    execOp ρ o = (do pure (Next.value (← Builtin.append_ #[t, t'] o.type #[v, .slice (some p) m c])) : Sem Next) := by
  unfold execOp
  rw [hop]
  show builtin .append #[t, t'] o.type (#[x, y].map fun | .const _ => true | _ => false) (#[x, y].map ρ) = _
  have : (#[x, y].map ρ) = #[v, .slice (some p) m c] := by simp [hx, hy]
  rw [this]
  rfl
/-- 'append' where the region draws its order. -/
theorem append_draw {ops : Array Oper} {o : Oper} {a : Act} {K : Act → World → Prop} {Q : Exit → Act → World → Prop} (sl : Slot t e size bytes) (ht' : Tryz.L.underlying t' = some (.slice e')) (x y : Operand) (hop : o.op = .call { callee := .builtin .append, args := #[x, y], argTypes := #[t, t'] }) (hg : o.guard = none)
    (hr : Row w Λ ρ e size v n xs) (hx : a.eval x = v) (hy : a.eval y = .slice (some p) m c) (hl : news.length = m * size) (hn : ∀ j u, news[j]? = some u → w.cell? (p.add j) = some u) (h1 : ∀ u ∈ news, u.oneCell' = true) (hm : n + m ≤ maxLen) (hb : (n + m) * bytes ≤ 140737488355328)
    (hK : ∀ v' w' Λ', Fr Λ Λ' (· = ρ) w w' → Row w' Λ' ρ e size v' (n + m) (xs ++ news) → K (a.put o.dst v') w') :
    (if Region.wanted o (yielded ops a.tmps) = true then Oper.wp Tryz.L o a w K Q else K (a.put o.dst undef) w) := by
  rw [if_pos (by simp [Region.wanted, hg])]
  obtain ⟨v', w', Λ', h1, h2, h3⟩ := run_append_row (c := c) sl ht' hr hl hn h1 hm hb o.type
  unfold Oper.wp
  rw [exec_append (ty := o.type) hop hx hy, Sem.run_bind, h1]
  exact hK v' w' Λ' h2 h3
/-- 'append' where the order is the text's. -/
theorem append_list {ops : Array Oper} {rest : List Oper} {o : Oper} {a : Act} {Q : Exit → Act → World → Prop} (sl : Slot t e size bytes) (ht' : Tryz.L.underlying t' = some (.slice e')) (x y : Operand) (hg : o.guard = none) (hop : o.op = .call { callee := .builtin .append, args := #[x, y], argTypes := #[t, t'] })
    (hr : Row w Λ ρ e size v n xs) (hx : a.eval x = v) (hy : a.eval y = .slice (some p) m c) (hl : news.length = m * size) (hn : ∀ j u, news[j]? = some u → w.cell? (p.add j) = some u) (h1 : ∀ u ∈ news, u.oneCell' = true) (hm : n + m ≤ maxLen) (hb : (n + m) * bytes ≤ 140737488355328)
    (hK : ∀ v' w' Λ', Fr Λ Λ' (· = ρ) w w' → Row w' Λ' ρ e size v' (n + m) (xs ++ news) → wpList Tryz.L ops Q rest (a.put o.dst v') w') : wpList Tryz.L ops Q (o :: rest) a w := by
  refine wpList_plain hg fun K hK' => ?_
  obtain ⟨v', w', Λ', h1, h2, h3⟩ := run_append_row (c := c) sl ht' hr hl hn h1 hm hb o.type
  unfold Oper.wp
  rw [exec_append (ty := o.type) hop hx hy, Sem.run_bind, h1]
  exact hK' _ _ (hK v' w' Λ' h2 h3)
end
/-- A call within a region that draws. -/
theorem call_draw {ops : Array Oper} {o : Oper} {a : Act} {w : World} {K : Act → World → Prop} {Q : Exit → Act → World → Prop} {f : FuncId} {xs : Array Operand} {ts : Array TypeId} {args : Array Value} {fn : Func} {R : Value → World → Prop} (hop : o.op = .call { callee := .value (.func f), args := xs, argTypes := ts }) (hg : o.guard = none) (ha : xs.map a.eval = args)
    (hf : Tryz.L.funcs[f]? = some fn) (hb : fn.body.isNone = false) (hn : (fn.name == "runtime.NumGoroutine") = false) (hc : Calls Tryz.L f args w fun e w' => ∃ y, e = .returned y ∧ R y w') (hK : ∀ y w', R y w' → K (a.put o.dst y) w') :
    (if Region.wanted o (yielded ops a.tmps) = true then Oper.wp Tryz.L o a w K Q else K (a.put o.dst undef) w) := by
  rw [if_pos (by simp [Region.wanted, hg])]
  have hr : (execOp a.eval o).run Tryz.L w = .ok (.enter f args) w := by
    have e : execOp a.eval o = callFunc f args := by
      unfold execOp
      rw [hop]
      show (do let d ← Deferred.ofValue (.func (.func f) #[] #[]) (xs.map a.eval); invoke d.target d.args : Sem Next) = _
      rw [ha]
      show callFunc f (#[] ++ args ++ #[]) = _
      simp
    rw [e]
    exact (callFunc_enter (args := args) hf hb hn w).1
  unfold Oper.wp
  rw [hr]
  exact hc.mono fun e w' ⟨y, he, hR⟩ => by subst he; exact hK y w' hR
end Go.Proofs.Shardlog
