/- Several texts in one: TameRow, TameFuncs, TamePre, LoneLock, TameStop. -/
import Derived.Test.YtblcigmggdiccaaGreatDoorPart02
import Derived.Test.YtblcigmggdiccaaGreatDoorPart10
import Derived.Test.YtblcigmggdiccaaGreatDoorPart04
import Derived.WalkKit
set_option linter.unusedSectionVars false
set_option linter.unusedSimpArgs false
set_option linter.unusedVariables false
set_option maxRecDepth 100000
/- The library's rows that the program meets do the same in two such worlds: package errors' looks at types and values. -/
namespace Go.Tame
section
variable {α β : Type} {S : Prot} {P : Program} {F : Array Func} {L : List Nat}
theorem mayEmbed_with (ms : Array (String × TypeId)) : (withFuncs P F).mayEmbedAPacks ms = P.mayEmbedAPacks ms := rfl
theorem namesPacked_with (d : Nat) (t : TypeId) : (withFuncs P F).namesPacked d t = P.namesPacked d t := by
  induction d generalizing t with
  | zero => rfl
  | succ d ih => simp only [Program.namesPacked, ih, packed_with]; rfl
theorem methodsOfAPack_with (d : Nat) (t : TypeId) : (withFuncs P F).methodsOfAPack d t = P.methodsOfAPack d t := by
  induction d generalizing t with
  | zero => rfl
  | succ d ih => simp only [Program.methodsOfAPack, ih, packed_with]; rfl

theorem t_cutType (n : String) : T1 S P F L (cutType n) := by
  unfold cutType
  repeat' first
    | with_reducible exact t_pure _
    | with_reducible exact t_stuck _
    | with_reducible refine t_program ?_ ?_
    | rfl
    | split

theorem t_panicString (n : String) : T1 S P F L ((panicString n : Sem α)) := by
  unfold panicString
  repeat' first
    | with_reducible exact t_goPanic _
    | with_reducible refine t_program ?_ ?_
    | rfl

theorem t_ofHandle (v : Value) : T1 S P F L (Extern.Rtype.ofHandle v) := by
  unfold Extern.Rtype.ofHandle
  repeat' first
    | with_reducible exact t_pure _
    | with_reducible exact t_stuck _
    | with_reducible refine t_program ?_ ?_
    | rfl
    | split

theorem t_handle (t : TypeId) : T1 S P F L (Extern.Rtype.handle t) := by
  unfold Extern.Rtype.handle
  repeat' first
    | with_reducible exact t_pure _
    | with_reducible refine t_program ?_ ?_
    | rfl

theorem t_noPack (n : String) (t : TypeId) : T1 S P F L (Extern.Rtype.noPack n t) := by
  unfold Extern.Rtype.noPack
  repeat' first
    | with_reducible exact t_pure _
    | with_reducible refine t_unsupported _ ?_
    | with_reducible refine t_program ?_ ?_
    | (simp only [packed_with]; try rfl; done)
    | rfl
    | with_reducible refine t_ite _ ?_ ?_

theorem t_noPackNamed (n : String) (t : TypeId) : T1 S P F L (Extern.Rtype.noPackNamed n t) := by
  unfold Extern.Rtype.noPackNamed
  repeat' first
    | with_reducible exact t_pure _
    | with_reducible refine t_unsupported _ ?_
    | with_reducible refine t_program ?_ ?_
    | (simp only [namesPacked_with]; try rfl; done)
    | rfl
    | with_reducible refine t_ite _ ?_ ?_

theorem t_noPackMethods (n : String) (t : TypeId) : T1 S P F L (Extern.Rtype.noPackMethods n t) := by
  unfold Extern.Rtype.noPackMethods
  repeat' first
    | with_reducible exact t_pure _
    | with_reducible refine t_unsupported _ ?_
    | with_reducible refine t_program ?_ ?_
    | (simp only [methodsOfAPack_with]; try rfl; done)
    | rfl
    | with_reducible refine t_ite _ ?_ ?_

theorem t_spelt (t : TypeId) : T1 S P F L (Extern.Rtype.spelt t) := by
  unfold Extern.Rtype.spelt
  repeat' first
    | with_reducible exact t_typeStr _
    | with_reducible exact t_noPackNamed _ _
    | with_reducible refine t_bind ?_ (fun _ => ?_)

theorem t_under (t : TypeId) : T1 S P F L (Extern.Rtype.under t) := by
  unfold Extern.Rtype.under
  repeat' first
    | with_reducible exact t_pure _
    | with_reducible exact t_typeInfo _
    | with_reducible refine t_bind ?_ (fun _ => ?_)
    | split

theorem t_kind (t : TypeId) : T1 S P F L (Extern.Rtype.kind t) := by
  unfold Extern.Rtype.kind
  repeat' first
    | with_reducible exact t_pure _
    | with_reducible exact t_stuck _
    | with_reducible exact t_under _
    | with_reducible refine t_bind ?_ (fun _ => ?_)
    | (simp only [byteOfCell_with]; try rfl; done)
    | split

theorem t_hasName (t : TypeId) : T1 S P F L (Extern.Rtype.hasName t) := by
  unfold Extern.Rtype.hasName
  repeat' first
    | with_reducible exact t_pure _
    | with_reducible exact t_typeInfo _
    | with_reducible refine t_bind ?_ (fun _ => ?_)
    | split

theorem t_elem? (t : TypeId) : T1 S P F L (Extern.Rtype.elem? t) := by
  unfold Extern.Rtype.elem?
  repeat' first
    | with_reducible exact t_pure _
    | with_reducible exact t_under _
    | with_reducible refine t_bind ?_ (fun _ => ?_)
    | split

theorem t_implements (t u : TypeId) : T1 S P F L (Extern.Rtype.implements t u) := by
  unfold Extern.Rtype.implements
  repeat' first
    | with_reducible exact t_pure _
    | with_reducible exact t_typeInfo _
    | with_reducible exact t_noPackMethods _ _
    | with_reducible exact t_under _
    | with_reducible refine t_bind ?_ (fun _ => ?_)
    | split

theorem t_directly (t u : TypeId) : T1 S P F L (Extern.Rtype.directlyAssignable t u) := by
  unfold Extern.Rtype.directlyAssignable
  repeat' first
    | with_reducible exact t_pure _
    | with_reducible exact t_under _
    | with_reducible exact t_hasName _
    | with_reducible refine t_bind ?_ (fun _ => ?_)
    | (simp only [byteOfCell_with]; try rfl; done)
    | with_reducible refine t_ite _ ?_ ?_
    | split

theorem t_toType (t : TypeId) : T1 S P F L (Extern.ReflectliteType.toType t) := by
  unfold Extern.ReflectliteType.toType
  repeat' first
    | with_reducible exact t_pure _
    | with_reducible exact t_cutType _
    | with_reducible exact t_handle _
    | with_reducible refine t_bind ?_ (fun _ => ?_)

theorem t_rtElem (t : TypeId) : T1 S P F L (Extern.ReflectliteType.elem t) := by
  unfold Extern.ReflectliteType.elem
  repeat' first
    | with_reducible exact t_panicString _
    | with_reducible exact t_spelt _
    | with_reducible exact t_elem? _
    | with_reducible exact t_toType _
    | with_reducible refine t_bind ?_ (fun _ => ?_)
    | split

theorem t_rtImplements (t u : TypeId) : T1 S P F L (Extern.ReflectliteType.implements_ t u) := by
  unfold Extern.ReflectliteType.implements_
  repeat' first
    | with_reducible exact t_panicString _
    | with_reducible exact t_noPack _ _
    | with_reducible exact t_noPackMethods _ _
    | with_reducible exact t_kind _
    | with_reducible exact t_implements _ _
    | with_reducible refine t_bind ?_ (fun _ => ?_)
    | (simp only [byteOfCell_with]; try rfl; done)
    | with_reducible refine t_ite _ ?_ ?_

theorem t_rtAssignable (t u : TypeId) : T1 S P F L (Extern.ReflectliteType.assignableTo t u) := by
  unfold Extern.ReflectliteType.assignableTo
  repeat' first
    | with_reducible exact t_pure _
    | with_reducible exact t_noPackMethods _ _
    | with_reducible exact t_implements _ _
    | with_reducible exact t_directly _ _
    | with_reducible refine t_bind ?_ (fun _ => ?_)
    | (simp only [byteOfCell_with]; try rfl; done)
    | with_reducible refine t_ite _ ?_ ?_

theorem t_mkV (t : TypeId) (a : Addr) (n : Nat) : T1 S P F L (Extern.ReflectliteValue.mk t a n) := by
  unfold Extern.ReflectliteValue.mk
  repeat' first
    | with_reducible exact t_pure _
    | with_reducible exact t_handle _
    | with_reducible exact t_kind _
    | with_reducible refine t_bind ?_ (fun _ => ?_)

theorem t_unpack (v : Value) : T1 S P F L (Extern.ReflectliteValue.unpack v) := by
  unfold Extern.ReflectliteValue.unpack
  repeat' first
    | with_reducible exact t_pure _
    | with_reducible exact t_stuck _
    | with_reducible exact t_newVar _ _
    | with_reducible exact t_mkV _ _ _
    | with_reducible refine t_bind ?_ (fun _ => ?_)
    | split

theorem t_valueError (n : String) (k : Nat) : T1 S P F L ((Extern.ReflectliteValue.valueError n k : Sem α)) := by
  unfold Extern.ReflectliteValue.valueError
  repeat' first
    | with_reducible exact t_goPanic _
    | with_reducible exact t_elemOf _
    | with_reducible exact t_newVar _ _
    | with_reducible exact t_cutType _
    | with_reducible refine t_bind ?_ (fun _ => ?_)

theorem t_rvIsNil (t : TypeId) (a : Addr) (x k : Nat) : T1 S P F L (Extern.ReflectliteValue.isNil t a x k) := by
  unfold Extern.ReflectliteValue.isNil
  repeat' first
    | with_reducible exact t_pure _
    | with_reducible exact t_loadVar _ _
    | with_reducible exact t_valueError _ _
    | with_reducible refine t_bind ?_ (fun _ => ?_)
    | (simp only [byteOfCell_with]; try rfl; done)
    | with_reducible refine t_ite _ ?_ ?_
    | split

theorem t_rvElem (t : TypeId) (a : Addr) (x k : Nat) : T1 S P F L (Extern.ReflectliteValue.elem t a x k) := by
  unfold Extern.ReflectliteValue.elem
  repeat' first
    | with_reducible exact t_pure _
    | with_reducible exact t_loadVar _ _
    | with_reducible exact t_elem? _
    | with_reducible exact t_mkV _ _ _
    | with_reducible exact t_unpack _
    | with_reducible exact t_valueError _ _
    | with_reducible refine t_bind ?_ (fun _ => ?_)
    | (simp only [byteOfCell_with]; try rfl; done)
    | with_reducible refine t_ite _ ?_ ?_
    | split

end

set_option linter.unusedSimpArgs false
section
variable {α β : Type} {S : Prot} {P : Program} {F : Array Func} {L : List Nat}
theorem t_partsAny (v : Value) : T1 S P F L (Extern.ReflectliteValue.partsAny v) := by
  cases v <;> first | exact t_stuck _ | skip
  rename_i cs
  obtain ⟨l⟩ := cs
  match l with
  | [] => exact t_stuck _
  | [_] => exact t_stuck _
  | [_, _] => exact t_stuck _
  | _ :: _ :: _ :: _ :: _ => exact t_stuck _
  | [h, y, z] =>
    cases z <;> first | exact t_stuck _ | skip
    rename_i k n
    cases k <;> first | exact t_stuck _ | skip
    match n with
    | .ofNat 0 => exact t_pure _
    | .ofNat (m + 1) =>
      cases y <;> first | exact t_stuck _ | skip
      rename_i o
      cases o with
      | none => exact t_stuck _
      | some a => exact t_bind (t_ofHandle _) fun _ => t_pure _
    | .negSucc m =>
      cases y <;> first | exact t_stuck _ | skip
      rename_i o
      cases o with
      | none => exact t_stuck _
      | some a => exact t_bind (t_ofHandle _) fun _ => t_pure _
theorem t_ofRtype (v : Value) : T1 S P F L (Extern.ReflectliteType.ofRtype v) := by
  cases v <;> first | exact t_stuck _ | skip
  rename_i cs
  obtain ⟨l⟩ := cs
  match l with
  | [] => exact t_stuck _
  | _ :: _ :: _ => exact t_stuck _
  | [h] => exact t_bind (t_ofHandle _) fun _ => t_bind (t_noPack _ _) fun _ => t_pure _
theorem t_parts (v : Value) : T1 S P F L (Extern.ReflectliteValue.parts v) := by
  unfold Extern.ReflectliteValue.parts
  refine t_bind (t_partsAny v) fun r => ?_
  split
  · exact t_bind (t_noPack _ _) fun _ => t_pure _
  · exact t_pure _
theorem t_vMethod {zero : Sem Value} {f : TypeId → Addr → Nat → Nat → Sem Value} (hz : T1 S P F L zero) (hf : ∀ t a x k, T1 S P F L (f t a x k)) (args : Array Value) : T1 S P F L (Extern.ReflectliteValue.method zero f args) := by
  obtain ⟨l⟩ := args
  match l with
  | [] => exact t_stuck _
  | _ :: _ :: _ => exact t_stuck _
  | [v] =>
    refine t_bind (t_parts v) fun r => ?_
    cases r with
    | none => exact hz
    | some p => exact hf _ _ _ _
theorem t_vMethodAny {zero : Sem Value} {f : TypeId → Addr → Nat → Nat → Sem Value} (hz : T1 S P F L zero) (hf : ∀ t a x k, T1 S P F L (f t a x k)) (args : Array Value) : T1 S P F L (Extern.ReflectliteValue.methodAny zero f args) := by
  obtain ⟨l⟩ := args
  match l with
  | [] => exact t_stuck _
  | _ :: _ :: _ => exact t_stuck _
  | [v] =>
    refine t_bind (t_partsAny v) fun r => ?_
    cases r with
    | none => exact hz
    | some p => exact hf _ _ _ _
theorem t_rMethod {f : TypeId → Sem Value} (hf : ∀ t, T1 S P F L (f t)) (args : Array Value) : T1 S P F L (Extern.ReflectliteType.method f args) := by
  obtain ⟨l⟩ := args
  match l with
  | [] => exact t_stuck _
  | _ :: _ :: _ => exact t_stuck _
  | [v] => exact t_bind (t_ofRtype v) fun r => hf r
theorem t_relation (w : String) {f : TypeId → TypeId → Sem Bool} (hf : ∀ t u, T1 S P F L (f t u)) (args : Array Value) : T1 S P F L (Extern.ReflectliteType.relation w f args) := by
  obtain ⟨l⟩ := args
  match l with
  | [] => exact t_stuck _
  | [_] => exact t_stuck _
  | _ :: _ :: _ :: _ => exact t_stuck _
  | [r, u] =>
    cases u <;> first | exact t_stuck _ | exact t_panicString _ | skip
    exact t_bind (t_ofRtype _) fun _ => t_bind (t_ofRtype _) fun _ => t_bind (hf _ _) fun _ => t_pure _
theorem t_typeOf (args : Array Value) : T1 S P F L (Extern.ReflectliteType.typeOf args) := by
  obtain ⟨l⟩ := args
  match l with
  | [] => exact t_stuck _
  | _ :: _ :: _ => exact t_stuck _
  | [v] => cases v <;> first | exact t_stuck _ | exact t_pure _ | exact t_toType _
theorem t_set (args : Array Value) : T1 S P F L (Extern.ReflectliteValue.set args) := by
  obtain ⟨l⟩ := args
  match l with
  | [] => exact t_stuck _
  | [_] => exact t_stuck _
  | _ :: _ :: _ :: _ => exact t_stuck _
  | [v, x] =>
    refine t_bind (t_parts _) fun p => ?_
    refine t_bind (t_parts _) fun r => ?_
    cases p with
    | none => exact t_unsupported _ rfl
    | some p =>
      cases r with
      | none => exact t_unsupported _ rfl
      | some r =>
        obtain ⟨dst, a, fl⟩ := p
        obtain ⟨src, b, g⟩ := r
        refine t_ite _ (t_bind (t_unsupported _ rfl) fun _ => ?_) ?_
        all_goals
          refine t_bind (t_loadVar _ _) fun val => t_bind (t_directly _ _) fun c => ?_
          refine t_ite _ (t_bind (t_storeVar _ _ _) fun _ => t_pure _) ?_
          refine t_bind (t_implements _ _) fun c => ?_
          refine t_ite _ ?_ (t_bind (t_spelt _) fun _ => t_bind (t_spelt _) fun _ => t_bind (t_panicString _) fun _ => t_pure _)
          refine t_bind (t_kind _) fun k => ?_
          refine t_ite _ ?_ (t_bind (t_storeVar _ _ _) fun _ => t_pure _)
          split
          · exact t_bind (t_unsupported _ rfl) fun _ => t_pure _
          · exact t_bind (t_storeVar _ _ _) fun _ => t_pure _

/-- A row of the library's, called. -/
theorem t_row {f : FuncId} {fn : Func} {e : Array Value → Sem Value} (hf : F[f]? = some fn) (hp : P.funcs[f]? = some fn) (hn : (fn.name == "runtime.NumGoroutine") = false) (hb : fn.body.isNone = true) (h1 : Extern.findNext fn = none) (h2 : Extern.find fn = some e)
    (args : Array Value) (he : T1 S P F L (e args)) : T1 S P F L (callFunc f args) := by
  have hk : T1 S P F L (do mark (.extern f); pure (Next.value (← e args)) : Sem Next) := t_bind (t_mark _ (by simp)) fun _ => t_bind he fun _ => t_pure _
  have eq : ∀ Q : Program, Q.funcs[f]? = some fn → ∀ x, (callFunc f args).run Q x = (do mark (.extern f); pure (Next.value (← e args)) : Sem Next).run Q x ∧ (callFunc f args).events Q x #[] = (do mark (.extern f); pure (Next.value (← e args)) : Sem Next).events Q x #[] := by
    intro Q hq x
    have h0 : (callFunc f args).run Q x = (match Q.funcs[f]? with
      | none => (stuck "call: no such function" : Sem Next)
      | some fn => if fn.name == "runtime.NumGoroutine" then pure .numGoroutine else if fn.body.isNone then _ else _).run Q x := rfl
    constructor
    · unfold callFunc
      show (match Q.funcs[f]? with | none => _ | some fn => _ : Sem Next).run Q x = _
      rw [hq]; simp [hb, hn, h1, h2]
    · unfold callFunc
      show (match Q.funcs[f]? with | none => _ | some fn => _ : Sem Next).events Q x #[] = _
      rw [hq]; simp [hb, hn, h1, h2]
  intro w v hl hL
  obtain ⟨t, r, g1, g2, g3, g4⟩ := hk w v hl hL
  refine ⟨t, r, g1, g2, fun t' ht' => by rw [(eq (withFuncs P F) hf _).1]; exact g3 t' ht', ?_⟩
  match r, g4 with
  | .ok x v', ⟨w', a, b, c, d⟩ => exact ⟨w', (eq P hp w).1.trans a, b, c, by rw [(eq P hp w).2]; exact d⟩
  | .halt (.panic x) v', ⟨w', a, b, c, d⟩ => exact ⟨w', (eq P hp w).1.trans a, b, c, by rw [(eq P hp w).2]; exact d⟩
  | .halt .blocked _, d | .halt .waiting _, d | .halt .goexit _, d | .halt (.exit _) _, d | .halt (.fatal _) _, d | .halt (.throw _) _, d => exact d.elim
  | .halt (.unsupported _) _, d | .halt (.stuck _) _, d => exact d
end
end Go.Tame
/- The functions without a body that may be called alone do the same in both worlds; the others are at an end. -/
namespace Go.Tame
section
variable {α β : Type} {S : Prot} {P : Program} {F : Array Func} {L : List Nat}
theorem t_noPackHeld (n : String) (t : TypeId) : T1 S P F L (Extern.Rtype.noPackHeld n t) := by
  unfold Extern.Rtype.noPackHeld
  repeat' first
    | with_reducible exact t_pure _
    | with_reducible exact t_unsupported _ rfl
    | with_reducible refine t_program ?_ ?_
    | with_reducible refine t_bind ?_ (fun _ => ?_)
    | (simp only [holdsPacked_with]; try rfl; done)
    | rfl
    | with_reducible refine t_ite _ ?_ ?_
    | dsimp only
    | split
theorem t_abi {f : TypeId → Sem Value} (hf : ∀ t, T1 S P F L (f t)) (args : Array Value) : T1 S P F L (Extern.ReflectliteType.abiMethod f args) := by
  obtain ⟨l⟩ := args
  match l with
  | [] => exact t_stuck _
  | _ :: _ :: _ => exact t_stuck _
  | [v] => exact t_bind (t_ofHandle _) fun t => t_bind (t_noPack _ _) fun _ => hf t
end
end Go.Tame

namespace Go.Proofs.Shardlog
open Go Go.Conc Go.Tame Go.Proofs
variable {Ω : World}
theorem look1 : Extern.allGenericRows.lookup "dead" = none := by kernel_rfl
theorem look2 : Extern.allTypedRows.lookup "dead" = none := by kernel_rfl
theorem look3 : Extern.allRows.lookup "dead" = none := by kernel_rfl
theorem look4 : Extern.allNextRows.lookup "dead" = none := by kernel_rfl
theorem find_dead (fn : Func) (h1 : fn.name = "dead") (h2 : fn.origin = "dead") : Extern.find fn = none ∧ Extern.findNext fn = none := by
  constructor
  · unfold Extern.find
    simp only [h1, h2, look1, look2, look3]
    rfl
  · unfold Extern.findNext
    simp only [h1, h2, look4]
    rfl
theorem namesB : (Tryz.prog.funcs.toList.all fun fn => !(fn.name == "runtime.NumGoroutine")) = true := by kernel_rfl

theorem callFunc_row {Q : Program} {f : FuncId} {fn : Func} {e : Array Value → Sem Value} (h : Q.funcs[f]? = some fn) (hn : (fn.name == "runtime.NumGoroutine") = false) (hb : fn.body.isNone = true) (h1 : Extern.findNext fn = none) (h2 : Extern.find fn = some e) (args : Array Value) (x : World) :
    (callFunc f args).run Q x = (do mark (.extern f); pure (Next.value (← e args)) : Sem Next).run Q x := by
  unfold callFunc
  show (match Q.funcs[f]? with | none => _ | some fn => _ : Sem Next).run Q x = _
  rw [h]; simp [hb, hn, h1, h2]
theorem callFunc_dead {Q : Program} {f : FuncId} {fn : Func} (h : Q.funcs[f]? = some fn) (hn : fn.name = "dead") (ho : fn.origin = "dead") (hb : fn.body.isNone = true) (args : Array Value) (x : World) :
    (callFunc f args).run Q x = .halt (.unsupported (.extern "dead")) x := by
  have h0 : ("dead" == "runtime.NumGoroutine") = false := by decide
  have h3 : ("dead".endsWith ".init") = false := by kernel_rfl
  unfold callFunc
  show (match Q.funcs[f]? with | none => _ | some fn => _ : Sem Next).run Q x = _
  rw [h]
  simp [hb, hn, h0, (find_dead fn hn ho).1, (find_dead fn hn ho).2, h3]
/-- The rows that may be called. -/
structure LiveRow (S : Prot) (f : Nat) : Prop where
  row : ∃ (fn : Func) (e : Array Value → Sem Value), Tryz.prog.funcs[f]? = some fn ∧ Extern.findNext fn = none ∧ Extern.find fn = some e ∧ ∀ (L : List Nat) (args : Array Value), T1 S Tryz.prog Tryz.FL L (e args)
theorem liveRows (S : Prot) (f : Nat) (h : liveRow f = true) : LiveRow S f := by
  simp only [liveRow, Bool.or_eq_true, beq_iff_eq] at h
  rcases h with (((((((((h | h) | h) | h) | h) | h) | h) | h) | h) | h) | h <;> subst h
  · exact ⟨_, fun args => Extern.ReflectliteValue.unpack (args.getD 0 (.tuple #[])), Tryz.func84, by kernel_rfl, by kernel_rfl, fun L args => t_unpack _⟩
  · exact ⟨_, Extern.ReflectliteValue.methodAny (Extern.ReflectliteValue.valueError "reflectlite.Value.Type" 0) fun t _ _ _ => Extern.ReflectliteType.toType t, Tryz.func85, by kernel_rfl, by kernel_rfl, fun L args => t_vMethodAny (t_valueError _ _) (fun _ _ _ _ => t_toType _) _⟩
  · exact ⟨_, Extern.ReflectliteValue.method (Extern.ReflectliteValue.valueError "reflectlite.Value.IsNil" 0) Extern.ReflectliteValue.isNil, Tryz.func86, by kernel_rfl, by kernel_rfl, fun L args => t_vMethod (t_valueError _ _) (fun _ _ _ _ => t_rvIsNil _ _ _ _) _⟩
  · exact ⟨_, Extern.ReflectliteType.typeOf, Tryz.func88, by kernel_rfl, by kernel_rfl, fun L args => t_typeOf _⟩
  · exact ⟨_, Extern.ReflectliteValue.method (Extern.ReflectliteValue.valueError "reflectlite.Value.Elem" 0) Extern.ReflectliteValue.elem, Tryz.func118, by kernel_rfl, by kernel_rfl, fun L args => t_vMethod (t_valueError _ _) (fun _ _ _ _ => t_rvElem _ _ _ _) _⟩
  · exact ⟨_, Extern.ReflectliteValue.set, Tryz.func119, by kernel_rfl, by kernel_rfl, fun L args => t_set _⟩
  · exact ⟨_, Extern.ReflectliteType.abiMethod fun t => do pure (.int .u8 (← Extern.Rtype.kind t)), Tryz.func288, by kernel_rfl, by kernel_rfl, fun L args => t_abi (fun _ => t_bind (t_kind _) fun _ => t_pure _) _⟩
  · exact ⟨_, Extern.ReflectliteType.relation "AssignableTo" Extern.ReflectliteType.assignableTo, Tryz.func303, by kernel_rfl, by kernel_rfl, fun L args => t_relation _ (fun _ _ => t_rtAssignable _ _) _⟩
  · exact ⟨_, Extern.ReflectliteType.method fun t => do Extern.Rtype.noPackHeld "Comparable" t; pure (.bool (← typeInfo t).comparable), Tryz.func304, by kernel_rfl, by kernel_rfl, fun L args => t_rMethod (fun _ => t_bind (t_noPackHeld _ _) fun _ => t_bind (t_typeInfo _) fun _ => t_pure _) _⟩
  · exact ⟨_, Extern.ReflectliteType.method Extern.ReflectliteType.elem, Tryz.func305, by kernel_rfl, by kernel_rfl, fun L args => t_rMethod (fun _ => t_rtElem _) _⟩
  · exact ⟨_, Extern.ReflectliteType.relation "Implements" Extern.ReflectliteType.implements_, Tryz.func306, by kernel_rfl, by kernel_rfl, fun L args => t_relation _ (fun _ _ => t_rtImplements _ _) _⟩

theorem fl_get (f : Nat) : Tryz.FL[f]? = (Tryz.prog.funcs[f]?).map (loneFn f) := by unfold Tryz.FL; rw [Array.getElem?_mapIdx]
theorem name_prog {f : Nat} {fn : Func} (h : Tryz.prog.funcs[f]? = some fn) : (fn.name == "runtime.NumGoroutine") = false := by
  have := List.all_eq_true.1 namesB fn (by
    have : Tryz.prog.funcs.toList[f]? = some fn := by simpa using h
    exact List.mem_of_getElem? this)
  simpa using this
/-- A function without a body is as it was, and may be called; or it is at an end. -/
theorem bodiless {f : Nat} {fn : Func} (h : Tryz.FL[f]? = some fn) (hb : fn.body.isNone = true) : (liveRow f = true ∧ Tryz.prog.funcs[f]? = some fn) ∨ (fn.name = "dead" ∧ fn.origin = "dead") := by
  rw [fl_get] at h
  cases hp : Tryz.prog.funcs[f]? with
  | none => rw [hp] at h; cases h
  | some fp =>
    rw [hp, Option.map_some] at h
    have h := Option.some.inj h
    rw [← h] at hb ⊢
    unfold loneFn at hb ⊢
    by_cases h90 : (f == 90) = true
    · simp [h90] at hb
    · by_cases h91 : (f == 91) = true
      · simp [h90, h91] at hb
      · simp only [h90, h91, Bool.false_eq_true, if_false] at hb ⊢
        cases hbp : fp.body with
        | some c => simp [hbp] at hb
        | none =>
          simp only [hbp]
          by_cases hlv : liveRow f = true
          · simp [hlv]
          · simp [hlv]
theorem funcsOk (S : Prot) : Funcs S Tryz.prog Tryz.FL := by
  have numF : ∀ (f : FuncId) (fn : Func), Tryz.FL[f]? = some fn → (fn.name == "runtime.NumGoroutine") = false := by
    intro f fn h
    rw [fl_get] at h
    cases hp : Tryz.prog.funcs[f]? with
    | none => rw [hp] at h; cases h
    | some fp =>
      rw [hp, Option.map_some] at h
      have h := Option.some.inj h
      have hn := name_prog hp
      rw [← h]
      unfold loneFn
      split
      · exact hn
      · split
        · exact hn
        · split
          · exact hn
          · split
            · exact hn
            · show ("dead" == "runtime.NumGoroutine") = false
              decide
  refine ⟨numF, fun f fn h hb => ?_, fun f fn args v h hb n v' hr => ?_, fun f fn L args h hb => ?_⟩
  · rw [fl_get] at h
    cases hp : Tryz.prog.funcs[f]? with
    | none => rw [hp] at h; cases h
    | some fp =>
      refine ⟨fp, rfl, ?_, name_prog hp⟩
      rw [hp, Option.map_some] at h
      have h := Option.some.inj h
      cases hbp : fp.body with
      | some c => rfl
      | none =>
        by_cases h90 : f = 90
        · subst h90
          rw [Tryz.func90] at hp
          cases hp
          exact absurd hbp (by
            intro e
            have : Tryz.f90.body.isNone = true := by rw [e]; rfl
            rw [show Tryz.f90.body.isNone = false from by kernel_rfl] at this
            cases this)
        · by_cases h91 : f = 91
          · subst h91
            rw [Tryz.func91] at hp
            cases hp
            exact absurd hbp (by
              intro e
              have : Tryz.f91.body.isNone = true := by rw [e]; rfl
              rw [show Tryz.f91.body.isNone = false from by kernel_rfl] at this
              cases this)
          · rw [← h] at hb
            unfold loneFn at hb
            simp only [beq_eq_false_iff_ne.2 h90, beq_eq_false_iff_ne.2 h91, Bool.false_eq_true, if_false, hbp] at hb
            split at hb
            · rw [hbp] at hb; cases hb
            · simp [hbp] at hb
  · have h' : (withFuncs Tryz.prog Tryz.FL).funcs[f]? = some fn := by rw [wf_funcs]; exact h
    rcases bodiless h hb with ⟨hlv, hp⟩ | ⟨hn, ho⟩
    · obtain ⟨fn', e, g1, g2, g3, _⟩ := (liveRows S f hlv).row
      rw [hp] at g1
      cases g1
      rw [callFunc_row (Q := withFuncs Tryz.prog Tryz.FL) h' (numF f fn h) hb g2 g3] at hr
      obtain ⟨_, v₁, _, h2⟩ := run_bind_ok hr
      obtain ⟨y, v₂, _, h4⟩ := run_bind_ok h2
      cases h4
      exact ⟨y, rfl⟩
    · rw [callFunc_dead (Q := withFuncs Tryz.prog Tryz.FL) h' hn ho hb] at hr
      cases hr
  · have h' : (withFuncs Tryz.prog Tryz.FL).funcs[f]? = some fn := by rw [wf_funcs]; exact h
    rcases bodiless h hb with ⟨hlv, hp⟩ | ⟨hn, ho⟩
    · obtain ⟨fn', e, g1, g2, g3, g4⟩ := (liveRows S f hlv).row
      rw [hp] at g1
      cases g1
      exact t_row h hp (numF f fn h) hb g2 g3 args (g4 L args)
    · intro w v hl hL
      refine ⟨v.tape, .halt (.unsupported (.extern "dead")) v, Agree.refl _ _, Nat.le_refl _, fun t' _ => ?_, trivial⟩
      exact callFunc_dead (Q := withFuncs Tryz.prog Tryz.FL) h' hn ho hb args _

/-- What the walks stand on. -/
noncomputable def ZZ (Ω : World) : Setting Tryz.prog :=
  { Gh := List Rec, S := protOf Ω, F := fun _ => Tryz.FL, C := fun g cs => macrosOf (protOf Ω g) cs, top := fun _ _ => (), J := fun g _ _ w In => Held g w In, Jt := Held }
set_option maxRecDepth 100000 in
theorem ZZ.ok {Ω : World} : (ZZ Ω).Ok :=
  { hand := fun _ _ => rfl
    cs := fun _ _ => rfl
    low := fun _ _ => rfl
    only := fun _ _ _ _ => rfl
    jt := fun _ _ _ _ => Iff.rfl
    keep := fun _ _ _ _ _ _ k h => Held.kept h k
    tick := fun _ _ _ _ _ d h => Held.at h d
    runs := fun g cs => macroRuns (g := g) cs
    funcs := fun g => funcsOk (protOf Ω g)
    codes := fun g cs => codesOk (g := g) cs
    macros := fun g cs => macrosOk (g := g) cs }
end Go.Proofs.Shardlog
/- Walks of the first goroutine: a row of operations alone, with a rest that is walked in the house. -/
namespace Go.Tame
open Go.Conc
section
variable {P : Program} {Z : Setting P} {g : Z.Gh} {fr : Frame} {cs : List Frame} {v : World} {X : Z.Gh → Frame → List Frame → World → Prop} {b : Frame} {a : Act} {k : List Item}
/-- The end of a body without a return statement. -/
theorem CW.atEnd (ok : Z.Ok) (h : CW Z g { b.at a [] with mode := .returning } cs v X) : CW Z g (b.at a []) cs v X :=
  .ctl ok (fun w => by simp [stepG, stepG.exec, Frame.at, G]) h

theorem CW.preK (ok : Z.Ok) {ops : Array Oper} {rest : List Nat} (hk : b.kind ≠ .early) :
    ∀ (l : List Oper) (k0 : Nat) (a : Act) (v : World), (∀ j, j < l.length → l[j]? = ops[k0 + j]?) → (∀ o ∈ l, valOp o.op = true ∧ okOp P o.op = true) →
      (∀ t, Agree t v.tape v.drawn → wpList (withFuncs P (Z.F g)) ops (fun e a' v' => e = .normal ∧ CW Z g (b.at a' (.inRegion ops rest :: k)) cs v' X) l a (retape v t)) → CW Z g (b.at a (.inRegion ops (List.range' k0 l.length ++ rest) :: k)) cs v X
  | [], k0, a, v, _, _, h => (h v.tape (Agree.refl _ _)).2
  | o :: l, k0, a, v, hl, hops, h => by
    have ho : ops[k0]? = some o := (hl 0 (by simp)).symm
    have hnext : ∀ j, j < l.length → l[j]? = ops[k0 + 1 + j]? := fun j hj => by
      have := hl (j + 1) (by simp; omega)
      rw [List.getElem?_cons_succ] at this
      rw [this]
      congr 1
      omega
    have hops' : ∀ o ∈ l, valOp o.op = true ∧ okOp P o.op = true := fun o ho => hops o (List.mem_cons_of_mem _ ho)
    simp only [List.length_cons, List.range'_succ, List.cons_append]
    by_cases hw : Region.wanted o (yielded ops a.tmps) = true
    · refine .valK ok ho hw (hops o (List.mem_cons_self ..)).1 (hops o (List.mem_cons_self ..)).2 hk (K := wpList (withFuncs P (Z.F g)) ops (fun e a' v' => e = .normal ∧ CW Z g (b.at a' (.inRegion ops rest :: k)) cs v' X) l) (fun a' v' hv' => CW.preK ok hk l (k0 + 1) a' v' hnext hops' hv') fun t ht => ?_
      have := h t ht
      simp only [wpList, hw, if_true] at this
      rcases this with this | ⟨_, _, _, hz⟩
      · unfold Oper.wp at this ⊢
        revert this
        generalize (execOp a.eval o).run (withFuncs P (Z.F g)) (retape v t) = r
        intro this
        match r, this with
        | .ok (.value _) _, this => exact this
        | .ok .skip _, this => exact this
        | .ok (.defer _) _, this => exact this
        | .ok (.enter f args) w, this =>
          refine Calls.mono (R := fun | .returned v, w'' => _ | .panicked chain, w'' => _ | .outgrown, _ => _) this fun e w' he => ?_
          cases e with
          | returned y => exact he
          | panicked ch => exact absurd he.1 (by simp)
          | outgrown => obtain ⟨_, _, hz⟩ := he; exact absurd hz.1 (by simp)
        | .ok (.row _ _) _, this => exact this
        | .halt (.panic _) _, this => exact absurd this.1 (by simp)
      · exact absurd hz.1 (by simp)
    · have hw' : Region.wanted o (yielded ops a.tmps) = false := by simpa using hw
      refine .opSkip ok ho hw' (CW.preK ok hk l (k0 + 1) _ v hnext hops' fun t ht => ?_)
      have := h t ht
      simp only [wpList, hw', Bool.false_eq_true, if_false] at this
      exact this

/-- The first operations of a region, walked alone. -/
theorem CW.pre (ok : Z.Ok) {id : Nat} {l m : List Oper} (hk : b.kind ≠ .early) (hops : (l.all fun o => valOp o.op && okOp P o.op) = true)
    (h : ∀ (Q : _root_.Go.Exit → Act → World → Prop) (u : World), u.heap = v.heap → u.os = v.os → (∀ a' v', CW Z g (b.at a' (.inRegion (l ++ m).toArray (List.range' l.length m.length) :: k)) cs v' X → Q .normal a' v') → wpList (withFuncs P (Z.F g)) (l ++ m).toArray Q l a u) : CW Z g (b.at a (.code (.region id (l ++ m).toArray false) :: k)) cs v X := by
  refine .region ok ?_
  have e : List.range (l ++ m).toArray.size = List.range' 0 l.length ++ List.range' l.length m.length := by
    rw [List.size_toArray, List.length_append, List.range_eq_range', ← List.range'_append_1]
    simp
  rw [e]
  refine CW.preK ok hk l 0 a v (fun j hj => ?_) (fun o ho => ?_) fun t _ => h _ (retape v t) rfl rfl fun a' v' hx => ⟨rfl, hx⟩
  · simp [List.getElem?_append_left hj]
  · have := List.all_eq_true.1 hops o ho
    simpa using this
/-- A region of such. -/
theorem CW.plain (ok : Z.Ok) {id : Nat} {l : List Oper} (hk : b.kind ≠ .early) (hops : (l.all fun o => valOp o.op && okOp P o.op) = true)
    (h : ∀ (Q : _root_.Go.Exit → Act → World → Prop) (u : World), u.heap = v.heap → u.os = v.os → (∀ a' v', CW Z g (b.at a' k) cs v' X → Q .normal a' v') → wpList (withFuncs P (Z.F g)) l.toArray Q l a u) : CW Z g (b.at a (.code (.region id l.toArray false) :: k)) cs v X := by
  have e : l = l ++ [] := by simp
  have : CW Z g (b.at a (.code (.region id (l ++ []).toArray false) :: k)) cs v X := .pre ok hk hops fun Q u h1 h2 h3 => by
    rw [← e]
    exact h Q u h1 h2 fun a' v' hx => h3 a' v' (by
      rw [← e]
      exact .regionEnd ok hx)
  rwa [← e] at this
/-- An operation that calls a function: what it hands over. -/
theorem call_enters {Q : Program} {ρ : Operand → Value} {o : Oper} {c : Call} {x : Operand} {f : FuncId} {fn : Func} {first captured args : Array Value} (ho : o.op = .call c) (hc : c.callee = .value x) (hx : ρ x = .func (.func f) first captured) (ha : first ++ c.args.map ρ ++ captured = args)
    (hf : Q.funcs[f]? = some fn) (hb : fn.body.isNone = false) (hn : (fn.name == "runtime.NumGoroutine") = false) (w : World) : (execOp ρ o).run Q w = .ok (.enter f args) w ∧ (execOp ρ o).events Q w #[] = #[] := by
  have h := callFunc_enter (args := args) hf hb hn w
  subst ha
  have e : execOp ρ o = callFunc f (first ++ c.args.map ρ ++ captured) := by
    unfold execOp
    rw [ho]
    show (do let d ← resolve ρ c o.type; invoke d.target d.args : Sem Next) = _
    unfold resolve
    rw [hc]
    show (do let d ← Deferred.ofValue (ρ x) (c.args.map ρ); invoke d.target d.args : Sem Next) = _
    rw [hx]
    rfl
  rw [e]
  exact h
theorem CW.callAt (ok : Z.Ok) {ops : Array Oper} {i : Nat} {rest : List Nat} {o : Oper} {c : Call} {x : Operand} {f : FuncId} {fn : Func} {first captured args : Array Value} {R : Z.Gh → Value → World → Prop} (ho : ops[i]? = some o) (hw : o.guard = none) (hk : b.kind ≠ .early)
    (hop : o.op = .call c) (hc : c.callee = .value x) (hx : a.eval x = .func (.func f) first captured) (ha : first ++ c.args.map a.eval ++ captured = args) (hf : P.funcs[f]? = some fn) (hb : fn.body.isNone = false) (hn : (fn.name == "runtime.NumGoroutine") = false)
    (h : CWCall Z g f args v R) (hk' : ∀ g' y v', R g' y v' → CW Z g' (b.at (a.put o.dst y) (.inRegion ops rest :: k)) cs v' X) : CW Z g (b.at a (.inRegion ops (i :: rest) :: k)) cs v X := by
  refine .enter ok ho (by simp [Region.wanted, hw]) hk (fun w => call_enters hop hc hx ha hf hb hn w) (h.use fun g' y v' hR => ?_)
  rw [Frame.finish_at, ho]
  exact hk' g' y v' hR
end
end Go.Tame
/- sync.Mutex's Lock and Unlock, alone. -/
namespace Go.Proofs.Shardlog
open Go Go.Tame Go.Proofs
noncomputable def fL90 : Func := { Tryz.f90 with ntmps := 2, body := some (standIn 0 1) }
noncomputable def fL91 : Func := { Tryz.f91 with ntmps := 2, body := some (standIn 1 0) }
theorem LL.func90 : Tryz.L.funcs[90]? = some fL90 := LL.funcOf Tryz.func90 rfl
theorem LL.func91 : Tryz.L.funcs[91]? = some fL91 := LL.funcOf Tryz.func91 rfl
theorem ntmpsL90 : fL90.ntmps = 2 := rfl
theorem ntmpsL91 : fL91.ntmps = 2 := rfl
@[go_sem] theorem LL.call90 (args : Array Value) (w : World) : Sem.run Tryz.L (callFunc 90 args) w = .ok (.enter 90 args) w := LL.callOf LL.func90 (by kernel_rfl) (by kernel_rfl) args w
@[go_sem] theorem LL.call91 (args : Array Value) (w : World) : Sem.run Tryz.L (callFunc 91 args) w = .ok (.enter 91 args) w := LL.callOf LL.func91 (by kernel_rfl) (by kernel_rfl) args w
section
variable {v : World} {c o : Nat}
theorem lone_lock90 (hc : v.cell? ⟨c, o, none⟩ = some (.int .i32 0)) (hz : v.frozen? ⟨c, o, none⟩ = false) :
    Calls Tryz.L 90 #[.pointer (some ⟨c, o, none⟩)] v fun e v' => e = .returned (.tuple #[]) ∧ v' = v.setCell ⟨c, o, none⟩ (.int .i32 1) := by
  go_enter LL.func90, ntmpsL90
  simp only [standIn, standOps, standPut]
  go_wp2
  exact bodyPost_ret (results_none rfl _ _ _) rfl ⟨rfl, rfl⟩
theorem lone_unlock91 (hc : v.cell? ⟨c, o, none⟩ = some (.int .i32 1)) (hz : v.frozen? ⟨c, o, none⟩ = false) :
    Calls Tryz.L 91 #[.pointer (some ⟨c, o, none⟩)] v fun e v' => e = .returned (.tuple #[]) ∧ v' = v.setCell ⟨c, o, none⟩ (.int .i32 0) := by
  go_enter LL.func91, ntmpsL91
  simp only [standIn, standOps, standPut]
  go_wp2
  exact bodyPost_ret (results_none rfl _ _ _) rfl ⟨rfl, rfl⟩
theorem lone_lock (hc : v.cell? ⟨c, o, none⟩ = some (.int .i32 0)) (hz : v.frozen? ⟨c, o, none⟩ = false) :
    Calls Tryz.L 55 #[.pointer (some ⟨c, o, none⟩)] v fun e v' => e = .returned (.tuple #[]) ∧ v' = v.setCell ⟨c, o, none⟩ (.int .i32 1) := by
  go_enter LL.func55, Tryz.ntmps55
  go_wp2
  refine (lone_lock90 hc hz).mono ?_
  rintro e v' ⟨rfl, rfl⟩
  go_wp2
  exact bodyPost_end (results_none rfl _ _ _) rfl ⟨rfl, rfl⟩
theorem lone_unlock (hc : v.cell? ⟨c, o, none⟩ = some (.int .i32 1)) (hz : v.frozen? ⟨c, o, none⟩ = false) :
    Calls Tryz.L 56 #[.pointer (some ⟨c, o, none⟩)] v fun e v' => e = .returned (.tuple #[]) ∧ v' = v.setCell ⟨c, o, none⟩ (.int .i32 0) := by
  go_enter LL.func56, Tryz.ntmps56
  go_wp2
  refine (lone_unlock91 hc hz).mono ?_
  rintro e v' ⟨rfl, rfl⟩
  go_wp2
  exact bodyPost_end (results_none rfl _ _ _) rfl ⟨rfl, rfl⟩
end
end Go.Proofs.Shardlog
/- Walks of the first goroutine: Stop. -/
namespace Go.Proofs.Shardlog
open Go Go.Conc Go.Tame Go.Proofs
variable {Ω : World}
section
variable {g : List Rec} {fr : Frame} {cs : List Frame} {v : World} {X : List Rec → Frame → List Frame → World → Prop} {b : Frame} {a : Act} {k : List Item}
/-- A region of operations that come to values: walked alone. -/
theorem ZZ.plain {id : Nat} {l : List Oper} (hops : (l.all fun o => valOp o.op && okOp Tryz.prog o.op) = true) (hk : b.kind ≠ .early)
    (h : ∀ (Q : _root_.Go.Exit → Act → World → Prop) (u : World), u.heap = v.heap → u.os = v.os → (∀ a' v', CW (ZZ Ω) g (b.at a' k) cs v' X → Q .normal a' v') → wpList Tryz.L l.toArray Q l a u) : CW (ZZ Ω) g (b.at a (.code (.region id l.toArray false) :: k)) cs v X :=
  CW.plain ZZ.ok hk hops h
theorem ZZ.pre {id : Nat} (l m : List Oper) (hops : (l.all fun o => valOp o.op && okOp Tryz.prog o.op) = true) (hk : b.kind ≠ .early)
    (h : ∀ (Q : _root_.Go.Exit → Act → World → Prop) (u : World), u.heap = v.heap → u.os = v.os → (∀ a' v', CW (ZZ Ω) g (b.at a' (.inRegion (l ++ m).toArray (List.range' l.length m.length) :: k)) cs v' X → Q .normal a' v') → wpList Tryz.L (l ++ m).toArray Q l a u) : CW (ZZ Ω) g (b.at a (.code (.region id (l ++ m).toArray false) :: k)) cs v X :=
  CW.pre ZZ.ok hk hops h
/-- The body of a function: the slots as one array. -/
theorem ZZ.body {f : FuncId} {fn : Func} {c : Code} {args tmps : Array Value} {R : List Rec → Value → World → Prop} (hf : Tryz.prog.funcs[f]? = some fn) (hb : fn.body = some c) (ht : args ++ Array.replicate (fn.ntmps - args.size) undef = tmps)
    (h : ∀ (b : Frame) (cs : List Frame), CW (ZZ Ω) g ((base f).at ⟨tmps, []⟩ [.code c]) (b :: cs) v fun g' fr' cs' v' => cs' = cs ∧ ∃ y, fr' = b.finish y ∧ R g' y v') : CWCall (ZZ Ω) g f args v R :=
  CWCall.body hf hb (ht ▸ h)
end
theorem cell_heap {u v : World} (h : u.heap = v.heap) (a : Addr) : u.cell? a = v.cell? a := by
  unfold World.cell?
  rw [h]
/-- A world that has grown: what was stands. -/
structure Grown (v v' : World) : Prop where
  size : v.heap.size ≤ v'.heap.size
  heap : ∀ x, x < v.heap.size → v'.heap[x]? = v.heap[x]?
  os : v'.os = v.os
theorem Grown.refl (v : World) : Grown v v := ⟨Nat.le_refl _, fun _ _ => rfl, rfl⟩
theorem Grown.trans {u v w : World} (h : Grown u v) (k : Grown v w) : Grown u w := ⟨Nat.le_trans h.size k.size, fun x hx => (k.heap x (by have := h.size; omega)).trans (h.heap x hx), k.os.trans h.os⟩
theorem Grown.same {v u : World} (h : u.heap = v.heap) (ho : u.os = v.os) : Grown v u := ⟨by rw [h]; exact Nat.le_refl _, fun _ _ => by rw [h], ho⟩
theorem Grown.alloc (v : World) (o : Obj) : Grown v (v.alloc o) := ⟨by show v.heap.size ≤ (v.heap.push o).size; rw [Array.size_push]; omega, fun x hx => by show (v.heap.push o)[x]? = _; rw [Array.getElem?_push, if_neg (Nat.ne_of_lt hx)], rfl⟩
theorem Grown.cell {v v' : World} (h : Grown v v') {a : Addr} {x : Value} (hc : v.cell? a = some x) : v'.cell? a = some x := by
  have hlt : a.block < v.heap.size := by
    unfold World.cell? at hc
    rcases Nat.lt_or_ge a.block v.heap.size with hl | hl
    · exact hl
    · rw [Array.getElem?_eq_none_iff.2 hl] at hc
      simp at hc
  rw [← hc]
  unfold World.cell?
  rw [h.heap _ hlt]
theorem box_cell (u : World) (x : Value) (t : TypeId) : (u.alloc (.cells #[x] t)).cell? ⟨u.heap.size, 0, none⟩ = some x := by
  unfold World.cell?
  show (match (u.heap.push (.cells #[x] t))[u.heap.size]? with | some (.cells cells _ _) => cells[0]? | _ => none) = _
  rw [Array.getElem?_push_size]
  rfl
theorem frozen_heap {u v : World} (h : u.heap = v.heap) (a : Addr) : u.frozen? a = v.frozen? a := by
  unfold World.frozen?
  rw [h]
section
variable {g : List Rec} {fr : Frame} {cs : List Frame} {v : World} {X : List Rec → Frame → List Frame → World → Prop} {b : Frame} {a : Act} {k : List Item} {c o : Nat}
theorem zz_unlock91 (hc : v.cell? ⟨c, o, none⟩ = some (.int .i32 1)) (hz : v.frozen? ⟨c, o, none⟩ = false) (h : CW (ZZ Ω) g (b.finish (.tuple #[])) cs (v.setCell ⟨c, o, none⟩ (.int .i32 0)) X) :
    CW (ZZ Ω) g (Frame.enter Tryz.prog 91 #[.pointer (some ⟨c, o, none⟩)] .normal) (b :: cs) v X := by
  rw [enter_two (x := undef) (p := .pointer (some ⟨c, o, none⟩)) Tryz.func91 (by rw [Tryz.ntmps91]; omega) (by rfl)]
  refine CW.route (n := 39) (g' := g) (fr' := Tame.ret .normal b (.tuple #[])) (cs' := cs) (v' := v.setCell ⟨c, o, none⟩ (.int .i32 0)) (Rel := fun w u => ∃ d, u = (w.setCell ⟨c, o, none⟩ (.int .i32 0)).at d) rfl (fun w In hl hj => ?_) (fun w u d hl ⟨d', e⟩ => ?_) (fun w u d In hl hj ⟨d', e⟩ => ?_) h
  · have hzw : w.frozen? ⟨c, o, none⟩ = false := by
      cases e : w.frozen? ⟨c, o, none⟩ with
      | false => rfl
      | true => rw [hl.frozen _ e] at hz; cases hz
    exact unlock_route (.inl rfl) (hl.cell hc) hzw (fun hk => by rw [(hl.still _ hk).2] at hz; cases hz) (hl.notGone hc) fun d => ⟨rfl, d, rfl⟩
  · subst e
    exact ((hl.setCell _ _).at _).at _
  · subst e
    exact hj.same fun x hx => World.cell?_setCell_other _ _ _ _ (fun e => hl.notGone hc (e ▸ hx))
theorem zz_unlock (hc : v.cell? ⟨c, 0, none⟩ = some (.int .i32 1)) (hz : v.frozen? ⟨c, 0, none⟩ = false) (h : ∀ u : World, u.heap = v.heap → u.os = v.os → CW (ZZ Ω) g (Tame.ret .deferred b (.tuple #[])) cs (u.setCell ⟨c, 0, none⟩ (.int .i32 0)) X) :
    CW (ZZ Ω) g (Frame.enter Tryz.prog 56 #[.pointer (some ⟨c, 0, none⟩)] .deferred) (b :: cs) v X := by
  have he : Frame.enter Tryz.prog 56 #[.pointer (some ⟨c, 0, none⟩)] .deferred = ({ base 56 with kind := .deferred }).at ⟨#[.pointer (some ⟨c, 0, none⟩), undef, undef, undef, undef, undef], []⟩ [.code (Tryz.f56.body.getD .ret)] := by
    simp [Frame.enter, Frame.at, Tryz.func56, base, Tryz.ntmps56]
    rfl
  rw [he]
  refine ZZ.pre [_, _, _] [_] (by kernel_rfl) (by simp [base]) fun Q u hu ho hQ => ?_
  go_wp2
  rw [← cell_heap hu] at hc
  rw [← frozen_heap hu] at hz
  refine .enter ZZ.ok (i := 3) rfl (by simp [Region.wanted]) (by simp [base]) (fun w => call_enters (f := 91) (first := #[]) (captured := #[]) (args := #[.pointer (some ⟨c, 0, none⟩)]) rfl rfl rfl (by simp [Act.eval]) Tryz.func91 (by kernel_rfl) (by kernel_rfl) w) (zz_unlock91 hc hz ?_)
  rw [Frame.finish_at]
  refine .regionEnd ZZ.ok (.atEnd ZZ.ok (.leave ZZ.ok (fn := Tryz.f56) (y := .tuple #[]) rfl rfl (.inr rfl) Tryz.func56 (fun w _ => ⟨results_none rfl _ _ _, ?_⟩) (h u hu ho)))
  intro e he
  simp [results] at he
theorem setCell_heap {u v : World} (h : u.heap = v.heap) (x : Addr) (y : Value) : (u.setCell x y).heap = (v.setCell x y).heap := by
  unfold World.setCell
  rw [h]
theorem setCell_os (u : World) (x : Addr) (y : Value) : (u.setCell x y).os = u.os := by
  unfold World.setCell
  cases u.heap[x.block]? with
  | none => rfl
  | some ob => cases ob <;> rfl
theorem zz_lock (hc : v.cell? ⟨c, o, none⟩ = some (.int .i32 0)) (hz : v.frozen? ⟨c, o, none⟩ = false) (h : ∀ u : World, u.heap = (v.setCell ⟨c, o, none⟩ (.int .i32 1)).heap → u.os = v.os → CW (ZZ Ω) g (b.finish (.tuple #[])) cs u X) :
    CW (ZZ Ω) g (Frame.enter Tryz.prog 55 #[.pointer (some ⟨c, o, none⟩)] .normal) (b :: cs) v X := by
  refine .calls ZZ.ok (fun h => ?_) (by kernel_rfl) fun t _ => ?_
  · rcases h with h | h | h
    · cases h
    · cases h
    · revert h; decide
  · have := lone_lock (v := retape v t) (c := c) (o := o) hc hz
    refine Calls.mono this ?_
    rintro e v' ⟨rfl, rfl⟩
    exact ⟨_, rfl, h _ (setCell_heap rfl _ _) (setCell_os _ _ _)⟩
theorem defer_runs {Q : Program} {ρ : Operand → Value} {o : Oper} {c : Call} {x : Operand} {f : Fn} {first captured args : Array Value} (ho : o.op = .defer c) (hc : c.callee = .value x) (hx : ρ x = .func f first captured) (ha : first ++ c.args.map ρ = args) (w : World) :
    (execOp ρ o).run Q w = .ok (.defer { target := .fn f captured, args := args }) w ∧ (execOp ρ o).events Q w #[] = #[] := by
  subst ha
  have e : execOp ρ o = (do pure (Next.defer { target := .fn f captured, args := first ++ c.args.map ρ }) : Sem Next) := by
    unfold execOp
    rw [ho]
    show (do pure (Next.defer (← resolve ρ c o.type)) : Sem Next) = _
    unfold resolve
    rw [hc]
    show (do pure (Next.defer (← Deferred.ofValue (ρ x) (c.args.map ρ))) : Sem Next) = _
    rw [hx]
    rfl
  rw [e]
  exact ⟨rfl, rfl⟩
theorem ret_back {fr : Frame} {y : Value} (h : fr.mode = .returning) : Tame.ret .deferred fr y = fr := by
  unfold Tame.ret backIn
  rw [h]
  rfl
/-- alone: under the cluster's mutex. -/
theorem zz_alone {f : FuncId} {fn : Func} {cap : Array Value} {K : List Rec → World → Prop} {R : List Rec → Value → World → Prop} (hf : Tryz.prog.funcs[f]? = some fn) (hb : fn.body.isNone = false) (hn : (fn.name == "runtime.NumGoroutine") = false) (hc : v.cell? ⟨c, 0, none⟩ = some (.int .i32 0)) (hz : v.frozen? ⟨c, 0, none⟩ = false)
    (h : ∀ u : World, u.heap = (v.setCell ⟨c, 0, none⟩ (.int .i32 1)).heap → u.os = v.os → CWCall (ZZ Ω) g f cap u fun g' _ u' => K g' u')
    (hK : ∀ g' u', K g' u' → u'.cell? ⟨c, 0, none⟩ = some (.int .i32 1) ∧ u'.frozen? ⟨c, 0, none⟩ = false ∧ ∀ u'' : World, u''.heap = u'.heap → u''.os = u'.os → R g' (.tuple #[]) (u''.setCell ⟨c, 0, none⟩ (.int .i32 0))) :
    CWCall (ZZ Ω) g 31 #[.pointer (some ⟨c, 0, none⟩), .func (.func f) #[] cap] v R := by
  refine ZZ.body (tmps := #[.pointer (some ⟨c, 0, none⟩), .func (.func f) #[] cap, undef, undef, undef, undef, undef, undef, undef, undef, undef, undef, undef, undef, undef]) Tryz.func31 (by rfl) (by rfl) ?_
  intro b cs
  refine CW.seq ZZ.ok (CW.seq ZZ.ok (ZZ.plain (by kernel_rfl) (by simp [base]) fun Q u hu ho hQ => ?_))
  go_wp2
  rw [← cell_heap hu] at hc
  rw [← frozen_heap hu] at hz
  refine CW.cond (t := false) ZZ.ok (by rfl) ?_
  simp only [if_false, Bool.false_eq_true]
  refine CW.skip ZZ.ok (CW.seq ZZ.ok (ZZ.pre [_, _, _] [_] (by kernel_rfl) (by simp [base]) fun Q u1 hu1 ho1 hQ => ?_))
  go_wp2
  rw [← cell_heap hu1] at hc
  rw [← frozen_heap hu1] at hz
  refine .enter ZZ.ok (i := 3) rfl (by simp [Region.wanted]) (by simp [base]) (fun w => call_enters (f := 55) (first := #[]) (captured := #[]) (args := #[.pointer (some ⟨c, 0, none⟩)]) rfl rfl rfl (by simp [Act.eval]) Tryz.func55 (by kernel_rfl) (by kernel_rfl) w) (zz_lock hc hz fun u2 hu2 ho2 => ?_)
  rw [Frame.finish_at]
  refine .regionEnd ZZ.ok (CW.seq ZZ.ok (ZZ.pre [_, _, _] [_] (by kernel_rfl) (by simp [base]) fun Q u3 hu3 ho3 hQ => ?_))
  go_wp2
  refine CW.defer ZZ.ok (i := 3) (rest := []) (d := { target := .fn (.func 56) #[], args := #[.pointer (some ⟨c, 0, none⟩)] }) rfl (by simp [Region.wanted]) (by simp [base]) (fun w => defer_runs (first := #[]) rfl rfl rfl (by simp [Act.eval]) w) ?_
  refine .regionEnd ZZ.ok (ZZ.pre [_] [_] (by kernel_rfl) (by simp [base]) fun Q u4 hu4 ho4 hQ => ?_)
  go_wp2
  have hh : u4.heap = (v.setCell ⟨c, 0, none⟩ (.int .i32 1)).heap := by
    rw [hu4, hu3, hu2]
    exact setCell_heap (hu1.trans hu) _ _
  refine CW.callAt (R := fun g' _ u' => K g' u') ZZ.ok (i := 1) (rest := []) (f := f) (first := #[]) (captured := cap) (args := cap) rfl rfl (by simp [base]) rfl rfl (by rfl) (by simp [Act.eval]) hf hb hn (h u4 hh (by rw [ho4, ho3, ho2, ho1, ho])) fun g' y v' hR => ?_
  obtain ⟨k1, k2, k3⟩ := hK g' v' hR
  refine .regionEnd ZZ.ok (.atEnd ZZ.ok (.deferred ZZ.ok rfl rfl Tryz.func56 (by kernel_rfl) (by kernel_rfl) (zz_unlock k1 k2 fun u5 hu5 ho5 => ?_)))
  rw [ret_back rfl]
  exact .leave ZZ.ok (fn := Tryz.f31) (y := .tuple #[]) rfl rfl (.inl rfl) Tryz.func31 (fun w _ => ⟨results_none rfl _ _ _, fun e he => by simp [results] at he⟩) (.done ⟨rfl, _, rfl, k3 u5 hu5 ho5⟩)
end
end Go.Proofs.Shardlog
