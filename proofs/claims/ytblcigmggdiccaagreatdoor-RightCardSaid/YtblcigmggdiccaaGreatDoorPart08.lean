/- The mutex's Lock and Unlock, and the group's Add, by the first goroutine in the house: their routes. -/
import Derived.Test.YtblcigmggdiccaaGreatDoorPart07
set_option linter.unusedSectionVars false
set_option linter.unusedSimpArgs false
set_option linter.unusedVariables false
namespace Go.Tame
open Go.Conc
/-- A mark that touches nothing. -/
def bareMark (e : Event) : Bool := match e.loc with
  | .mark (.read _) | .mark (.write _) => false
  | .mark _ => true
  | _ => false
theorem bareMark_touch {e : Event} (h : bareMark e = true) : (MemAct.ofEvent e).touch? = none := by
  obtain ⟨loc, wr, sy⟩ := e
  cases loc with
  | mark m => cases m <;> first | rfl | cases h
  | _ => cases h
/-- A plain load of one cell, in a function that is not watched. -/
theorem AtOp.loadN {P : Program} {main : Bool} {g : Goroutine} {w : World} {v : Value} {t : TypeId} {x : Operand} (h : AtOp g (.load t x)) {a : Addr} {d : TypeDesc} (hx : (actOf g).eval x = .pointer (some a)) (hd : P.underlying t = some d) (hone : (match d with | .struct _ | .array _ _ => false | _ => true) = true)
    (hq : (P.funcs[g.frame.fn]?).any (·.norace) = true) (hc : w.cell? a = some v) : stepG P main g w = .go (putOf g v) w #[] := by
  have hrun : (execOp (actOf g).eval (operOf g)).run P w = .ok (.value v) w ∧ (execOp (actOf g).eval (operOf g)).events P w #[] = #[⟨.cell a, false, false⟩] := by
    unfold execOp
    rw [h.op]
    dsimp only
    rw [hx]
    have hu : (underlying t).run P w = .ok d w ∧ (underlying t).events P w #[] = #[] := by
      constructor
      · show (match P.underlying t with | some d => pure d | none => stuck _ : Sem TypeDesc).run P w = _
        rw [hd]; rfl
      · show (match P.underlying t with | some d => pure d | none => stuck _ : Sem TypeDesc).events P w #[] = _
        rw [hd]; simp
    have hag : (isAgg t).run P w = .ok false w ∧ (isAgg t).events P w #[] = #[] := by
      unfold isAgg
      rw [Sem.run_bind, Sem.events_bind, hu.1, hu.2]
      simp only [Result.andThen_ok, Result.evThen_ok]
      cases d <;> first | exact ⟨rfl, by simp⟩ | cases hone
    have hl : (loadVar t a).run P w = .ok v w ∧ (loadVar t a).events P w #[] = #[⟨.cell a, false, false⟩] := by
      unfold loadVar
      rw [Sem.run_bind, Sem.events_bind, hag.1, hag.2]
      simp [Result.andThen_ok, Result.evThen_ok, hc, events_load]
    have hsa : Instr.sureAddr (.pointer (some a)) = pure a := rfl
    constructor
    · simp [Instr.loadAt, hsa, Sem.run_bind, hl.1]
    · simp [Instr.loadAt, hsa, Sem.events_bind, Sem.run_bind, hl.1, hl.2]
  have hs : seen P g.frame.fn #[⟨.cell a, false, false⟩] = #[] := by
    unfold seen
    simp [hq]
  rw [h.value hrun.1, hrun.2, hs]
def isRun (g : Goroutine) : Bool := match g.status with | .running => true | _ => false
theorem isRun_eq {g : Goroutine} (h : isRun g = true) : g.status = .running := by
  unfold isRun at h
  split at h
  · assumption
  · cases h
section
variable {P : Program} {S : Prot} {Stop : Goroutine → World → Prop}
theorem Route.seg {n d d' m : Nat} {g : Goroutine} {w : World} (hc : ∀ ws, chk P true bareMark n d g ws = some (tgt n ws, d')) (k : ∀ ws x, Route P S Stop m d' (fin P true n g ws) (w.at x)) : Route P S Stop (n + m) d g w := by
  refine Route.way (K := fun _ => True) (E := fun e => bareMark e = true) (St := fun d₁ g₁ => d₁ = d' ∧ ∃ ws, g₁ = fin P true n g ws) (fun _ _ _ => trivial) (fun es he => .inl fun e hee x hx => by rw [bareMark_touch (he e hee)] at hx; cases hx)
    (WayD.seg (m := 0) (fun _ h => h) hc fun ws => ⟨rfl, ws, rfl⟩) trivial ?_
  rintro d₁ g₁ x ⟨rfl, ws, rfl⟩
  exact k ws x
theorem Route.one {n d : Nat} {g g' : Goroutine} {w : World} {f : World → World} {es : Array Event} (hs : isRun g = true) (h : ∀ x, stepG P true g (w.at x) = .go g' (f (w.at x)) es) (hl : ∀ x, Leaves S w (f (w.at x))) (hf : Fine S es) (k : ∀ x, Route P S Stop n (deafBehind d es) g' (f (w.at x))) : Route P S Stop (n + 1) d g w :=
  Route.step (isRun_eq hs) fun x => ⟨g', _, es, h x, hl x, hf, k x⟩
theorem Leaves.setAt {w : World} {a : Addr} {x : Value} {d : Nat} (h : ¬ S.keep a) : Leaves S w ((w.at d).setCell a x) := ⟨(Leaves.set (w := w.at d) h).still, (Leaves.set (w := w.at d) h).chan⟩
theorem cellBlock {w : World} {c o : Nat} {v : Value} (h : w.cell? ⟨c, o, none⟩ = some v) : ∃ x e f, w.heap[c]? = some (.cells x e f) ∧ o < x.size := by
  unfold World.cell? at h
  cases hb : w.heap[c]? with
  | none => simp [hb] at h
  | some ob =>
    cases ob <;> simp [hb] at h
    rename_i x e f
    exact ⟨x, e, f, rfl, (Array.getElem?_eq_some_iff.1 h).1⟩
theorem atomics_gone {a : Addr} (h : S.gone a) : Fine S #[⟨.cell a, false, true⟩, ⟨.cell a, true, true⟩] := by
  refine .inr fun e he x hx => ?_
  simp only [List.mem_toArray, List.mem_cons, List.not_mem_nil, or_false] at he
  rcases he with rfl | rfl <;> (simp [MemAct.ofEvent, MemAct.touch?] at hx; subst hx; exact ⟨⟨a, rfl, h⟩, nofun⟩)
theorem atomics_own {a : Addr} (h : ¬ S.gone a) (hk : ¬ S.keep a) : Fine S #[⟨.cell a, false, true⟩, ⟨.cell a, true, true⟩] := by
  refine .inl fun e he x hx => ?_
  simp only [List.mem_toArray, List.mem_cons, List.not_mem_nil, or_false] at he
  rcases he with rfl | rfl <;> (simp [MemAct.ofEvent, MemAct.touch?] at hx; subst hx; exact ⟨fun _ b hb => by cases hb; exact hk, fun ⟨b, hb, hg⟩ => by cases hb; exact h hg⟩)
theorem read_own {a : Addr} (h : ¬ S.gone a) : Fine S #[⟨.cell a, false, false⟩] := by
  refine .inl fun e he x hx => ?_
  simp only [List.mem_toArray, List.mem_cons, List.not_mem_nil, or_false] at he
  subst he
  simp [MemAct.ofEvent, MemAct.touch?] at hx; subst hx; exact ⟨fun h => by (cases h), fun ⟨b, hb, hg⟩ => by cases hb; exact h hg⟩
theorem said_gone {a : Addr} (h : S.gone a) : Fine S #[⟨.mark (.read a), false, true⟩] := by
  refine .inr fun e he x hx => ?_
  simp only [List.mem_toArray, List.mem_cons, List.not_mem_nil, or_false] at he
  subst he
  simp [MemAct.ofEvent, MemAct.touch?] at hx; subst hx; exact ⟨⟨a, rfl, h⟩, nofun⟩
end
end Go.Tame

namespace Go.Proofs.Shardlog
open Go.Conc Go.Tame
set_option maxRecDepth 100000

section
variable (c o : Nat) (jv : Value) (b : Frame) (cs : List Frame) (kd : CallKind) (w0 w1 w2 w3 w4 : Nat → World)
noncomputable def kk0 : Goroutine := G (Frame.enter Tryz.prog 90 #[.pointer (some ⟨c, o, none⟩), jv] kd) (b :: cs)
noncomputable def kk1 : Goroutine := fin Tryz.prog true 10 (kk0 c o jv b cs kd) w0
noncomputable def kk2 : Goroutine := putOf (kk1 c o jv b cs kd w0) (.bool true)
noncomputable def kk3 : Goroutine := fin Tryz.prog true 10 (kk2 c o jv b cs kd w0) w1
noncomputable def kk4 : Goroutine := putOf (kk3 c o jv b cs kd w0 w1) (.pointer (some ⟨c, o, none⟩))
noncomputable def kk5 : Goroutine := fin Tryz.prog true 3 (kk4 c o jv b cs kd w0 w1) w2
noncomputable def uu0 : Goroutine := G (Frame.enter Tryz.prog 91 #[.pointer (some ⟨c, o, none⟩), jv] kd) (b :: cs)
noncomputable def uu1 : Goroutine := fin Tryz.prog true 7 (uu0 c o jv b cs kd) w0
noncomputable def uu2 : Goroutine := putOf (uu1 c o jv b cs kd w0) (.int .i32 1)
noncomputable def uu3 : Goroutine := fin Tryz.prog true 4 (uu2 c o jv b cs kd w0) w1
noncomputable def uu4 : Goroutine := putOf (uu3 c o jv b cs kd w0 w1) (.pointer (some ⟨c, o, none⟩))
noncomputable def uu5 : Goroutine := fin Tryz.prog true 10 (uu4 c o jv b cs kd w0 w1) w2
noncomputable def uu6 : Goroutine := putOf (uu5 c o jv b cs kd w0 w1 w2) (.int .i32 0)
noncomputable def uu7 : Goroutine := fin Tryz.prog true 14 (uu6 c o jv b cs kd w0 w1 w2) w3
end

theorem Tryz.ext120 : Ext Tryz.prog 120 Tryz.f120 (Extern.Atomic.casT (.int .i32)) := ⟨Tryz.func120, by kernel_rfl, by kernel_rfl, by kernel_rfl, by kernel_rfl⟩
theorem Tryz.ext122 : Ext Tryz.prog 122 Tryz.f122 (Extern.Atomic.update (Op.intArith .add) .i32 true) := ⟨Tryz.func122, by kernel_rfl, by kernel_rfl, by kernel_rfl, by kernel_rfl⟩
theorem Tryz.und211 : Tryz.prog.underlying 211 = some (.pointer 77) := by kernel_rfl
theorem Tryz.size77 : (Tryz.prog.info? 77).map (·.size) = some 2 := by kernel_rfl
theorem Tryz.und21 : Tryz.prog.underlying 21 = some (.int .i32) := by kernel_rfl

section
variable {c o : Nat} {jv : Value} {b : Frame} {cs : List Frame} {kd : CallKind} {w0 w1 w2 w3 w4 : Nat → World} {S : Prot} {w : World} {Stop : Goroutine → World → Prop}
theorem kk_1 (hkd : kd = .normal ∨ kd = .deferred) (ws : Nat → World) : chk Tryz.prog true bareMark 10 0 (kk0 c o jv b cs kd) ws = some (tgt 10 ws, 1) := by
  cases hkd with
  | inl h => subst h; kernel_rfl
  | inr h => subst h; kernel_rfl
theorem kk_2 (hkd : kd = .normal ∨ kd = .deferred) : AtOp (kk1 c o jv b cs kd w0) (.call { callee := .value (.func 120), args := #[.tmp 5, .const (.int .i32 0), .const (.int .i32 1)], argTypes := #[213, 21, 21] }) := by
  cases hkd with
  | inl h => subst h; exact ⟨by kernel_rfl, by kernel_rfl, by kernel_rfl, by kernel_rfl, by kernel_rfl⟩
  | inr h => subst h; exact ⟨by kernel_rfl, by kernel_rfl, by kernel_rfl, by kernel_rfl, by kernel_rfl⟩
theorem kk_2v (hkd : kd = .normal ∨ kd = .deferred) : (actOf (kk1 c o jv b cs kd w0)).eval (.tmp 5) = .pointer (some ⟨c, o, none⟩) := by
  cases hkd with
  | inl h => subst h; kernel_rfl
  | inr h => subst h; kernel_rfl
theorem kk_2a (hkd : kd = .normal ∨ kd = .deferred) : (actOf (kk1 c o jv b cs kd w0)).eval (.const (.int .i32 0)) = .int .i32 0 := by
  cases hkd with
  | inl h => subst h; kernel_rfl
  | inr h => subst h; kernel_rfl
theorem kk_2b (hkd : kd = .normal ∨ kd = .deferred) : (actOf (kk1 c o jv b cs kd w0)).eval (.const (.int .i32 1)) = .int .i32 1 := by
  cases hkd with
  | inl h => subst h; kernel_rfl
  | inr h => subst h; kernel_rfl
theorem kk_2r (hkd : kd = .normal ∨ kd = .deferred) : isRun (kk1 c o jv b cs kd w0) = true := by
  cases hkd with
  | inl h => subst h; kernel_rfl
  | inr h => subst h; kernel_rfl
theorem kk_3 (hkd : kd = .normal ∨ kd = .deferred) (ws : Nat → World) : chk Tryz.prog true bareMark 10 1 (kk2 c o jv b cs kd w0) ws = some (tgt 10 ws, 0) := by
  cases hkd with
  | inl h => subst h; kernel_rfl
  | inr h => subst h; kernel_rfl
theorem kk_4 (hkd : kd = .normal ∨ kd = .deferred) : AtOp (kk3 c o jv b cs kd w0 w1) (.convert 211 127 (.tmp 8)) := by
  cases hkd with
  | inl h => subst h; exact ⟨by kernel_rfl, by kernel_rfl, by kernel_rfl, by kernel_rfl, by kernel_rfl⟩
  | inr h => subst h; exact ⟨by kernel_rfl, by kernel_rfl, by kernel_rfl, by kernel_rfl, by kernel_rfl⟩
theorem kk_4v (hkd : kd = .normal ∨ kd = .deferred) : (actOf (kk3 c o jv b cs kd w0 w1)).eval (.tmp 8) = .pointer (some ⟨c, o, none⟩) := by
  cases hkd with
  | inl h => subst h; kernel_rfl
  | inr h => subst h; kernel_rfl
theorem kk_4r (hkd : kd = .normal ∨ kd = .deferred) : isRun (kk3 c o jv b cs kd w0 w1) = true := by
  cases hkd with
  | inl h => subst h; kernel_rfl
  | inr h => subst h; kernel_rfl
theorem kk_5 (hkd : kd = .normal ∨ kd = .deferred) (ws : Nat → World) : chk Tryz.prog true bareMark 3 0 (kk4 c o jv b cs kd w0 w1) ws = some (tgt 3 ws, 0) := by
  cases hkd with
  | inl h => subst h; kernel_rfl
  | inr h => subst h; kernel_rfl
theorem kk_5r (hkd : kd = .normal ∨ kd = .deferred) : isRun (kk5 c o jv b cs kd w0 w1 w2) = true := by
  cases hkd with
  | inl h => subst h; kernel_rfl
  | inr h => subst h; kernel_rfl
theorem kk_6 (hkd : kd = .normal ∨ kd = .deferred) : ∀ w, stepG Tryz.prog true (kk5 c o jv b cs kd w0 w1 w2) w = .go (G (Tame.ret kd b (.tuple #[])) cs) w #[] := by
  cases hkd with
  | inl h =>
    subst h
    have : (fun w => stepG Tryz.prog true (kk5 c o jv b cs .normal w0 w1 w2) w) = fun w => .go (G (Tame.ret .normal b (.tuple #[])) cs) w #[] := by kernel_rfl
    exact congrFun this
  | inr h =>
    subst h
    have : (fun w => stepG Tryz.prog true (kk5 c o jv b cs .deferred w0 w1 w2) w) = fun w => .go (G (Tame.ret .deferred b (.tuple #[])) cs) w #[] := by kernel_rfl
    exact congrFun this
theorem uu_1 (hkd : kd = .normal ∨ kd = .deferred) (ws : Nat → World) : chk Tryz.prog true bareMark 7 0 (uu0 c o jv b cs kd) ws = some (tgt 7 ws, 0) := by
  cases hkd with
  | inl h => subst h; kernel_rfl
  | inr h => subst h; kernel_rfl
theorem uu_2 (hkd : kd = .normal ∨ kd = .deferred) : AtOp (uu1 c o jv b cs kd w0) (.load 21 (.tmp 5)) := by
  cases hkd with
  | inl h => subst h; exact ⟨by kernel_rfl, by kernel_rfl, by kernel_rfl, by kernel_rfl, by kernel_rfl⟩
  | inr h => subst h; exact ⟨by kernel_rfl, by kernel_rfl, by kernel_rfl, by kernel_rfl, by kernel_rfl⟩
theorem uu_2v (hkd : kd = .normal ∨ kd = .deferred) : (actOf (uu1 c o jv b cs kd w0)).eval (.tmp 5) = .pointer (some ⟨c, o, none⟩) := by
  cases hkd with
  | inl h => subst h; kernel_rfl
  | inr h => subst h; kernel_rfl
theorem uu_2r (hkd : kd = .normal ∨ kd = .deferred) : isRun (uu1 c o jv b cs kd w0) = true := by
  cases hkd with
  | inl h => subst h; kernel_rfl
  | inr h => subst h; kernel_rfl
theorem uu_2n (hkd : kd = .normal ∨ kd = .deferred) : (Tryz.prog.funcs[(uu1 c o jv b cs kd w0).frame.fn]?).any (·.norace) = true := by
  cases hkd with
  | inl h => subst h; kernel_rfl
  | inr h => subst h; kernel_rfl
theorem uu_3 (hkd : kd = .normal ∨ kd = .deferred) (ws : Nat → World) : chk Tryz.prog true bareMark 4 0 (uu2 c o jv b cs kd w0) ws = some (tgt 4 ws, 0) := by
  cases hkd with
  | inl h => subst h; kernel_rfl
  | inr h => subst h; kernel_rfl
theorem uu_4 (hkd : kd = .normal ∨ kd = .deferred) : AtOp (uu3 c o jv b cs kd w0 w1) (.convert 211 127 (.tmp 7)) := by
  cases hkd with
  | inl h => subst h; exact ⟨by kernel_rfl, by kernel_rfl, by kernel_rfl, by kernel_rfl, by kernel_rfl⟩
  | inr h => subst h; exact ⟨by kernel_rfl, by kernel_rfl, by kernel_rfl, by kernel_rfl, by kernel_rfl⟩
theorem uu_4v (hkd : kd = .normal ∨ kd = .deferred) : (actOf (uu3 c o jv b cs kd w0 w1)).eval (.tmp 7) = .pointer (some ⟨c, o, none⟩) := by
  cases hkd with
  | inl h => subst h; kernel_rfl
  | inr h => subst h; kernel_rfl
theorem uu_4r (hkd : kd = .normal ∨ kd = .deferred) : isRun (uu3 c o jv b cs kd w0 w1) = true := by
  cases hkd with
  | inl h => subst h; kernel_rfl
  | inr h => subst h; kernel_rfl
theorem uu_5 (hkd : kd = .normal ∨ kd = .deferred) (ws : Nat → World) : chk Tryz.prog true bareMark 10 0 (uu4 c o jv b cs kd w0 w1) ws = some (tgt 10 ws, 1) := by
  cases hkd with
  | inl h => subst h; kernel_rfl
  | inr h => subst h; kernel_rfl
theorem uu_6 (hkd : kd = .normal ∨ kd = .deferred) : AtOp (uu5 c o jv b cs kd w0 w1 w2) (.call { callee := .value (.func 122), args := #[.tmp 13, .const (.int .i32 (-1))], argTypes := #[213, 21] }) := by
  cases hkd with
  | inl h => subst h; exact ⟨by kernel_rfl, by kernel_rfl, by kernel_rfl, by kernel_rfl, by kernel_rfl⟩
  | inr h => subst h; exact ⟨by kernel_rfl, by kernel_rfl, by kernel_rfl, by kernel_rfl, by kernel_rfl⟩
theorem uu_6v (hkd : kd = .normal ∨ kd = .deferred) : (actOf (uu5 c o jv b cs kd w0 w1 w2)).eval (.tmp 13) = .pointer (some ⟨c, o, none⟩) := by
  cases hkd with
  | inl h => subst h; kernel_rfl
  | inr h => subst h; kernel_rfl
theorem uu_6a (hkd : kd = .normal ∨ kd = .deferred) : (actOf (uu5 c o jv b cs kd w0 w1 w2)).eval (.const (.int .i32 (-1))) = .int .i32 (-1) := by
  cases hkd with
  | inl h => subst h; kernel_rfl
  | inr h => subst h; kernel_rfl
theorem uu_6r (hkd : kd = .normal ∨ kd = .deferred) : isRun (uu5 c o jv b cs kd w0 w1 w2) = true := by
  cases hkd with
  | inl h => subst h; kernel_rfl
  | inr h => subst h; kernel_rfl
theorem uu_7 (hkd : kd = .normal ∨ kd = .deferred) (ws : Nat → World) : chk Tryz.prog true bareMark 14 1 (uu6 c o jv b cs kd w0 w1 w2) ws = some (tgt 14 ws, 0) := by
  cases hkd with
  | inl h => subst h; kernel_rfl
  | inr h => subst h; kernel_rfl
theorem uu_7r (hkd : kd = .normal ∨ kd = .deferred) : isRun (uu7 c o jv b cs kd w0 w1 w2 w3) = true := by
  cases hkd with
  | inl h => subst h; kernel_rfl
  | inr h => subst h; kernel_rfl
theorem uu_8 (hkd : kd = .normal ∨ kd = .deferred) : ∀ w, stepG Tryz.prog true (uu7 c o jv b cs kd w0 w1 w2 w3) w = .go (G (Tame.ret kd b (.tuple #[])) cs) w #[] := by
  cases hkd with
  | inl h =>
    subst h
    have : (fun w => stepG Tryz.prog true (uu7 c o jv b cs .normal w0 w1 w2 w3) w) = fun w => .go (G (Tame.ret .normal b (.tuple #[])) cs) w #[] := by kernel_rfl
    exact congrFun this
  | inr h =>
    subst h
    have : (fun w => stepG Tryz.prog true (uu7 c o jv b cs .deferred w0 w1 w2 w3) w) = fun w => .go (G (Tame.ret .deferred b (.tuple #[])) cs) w #[] := by kernel_rfl
    exact congrFun this
theorem kk_cas (hkd : kd = .normal ∨ kd = .deferred) {u : World} (hc : u.cell? ⟨c, o, none⟩ = some (.int .i32 0)) (hz : u.frozen? ⟨c, o, none⟩ = false) : stepG Tryz.prog true (kk1 c o jv b cs kd w0) u = .go (kk2 c o jv b cs kd w0) (u.setCell ⟨c, o, none⟩ (.int .i32 1)) #[⟨.cell ⟨c, o, none⟩, false, true⟩, ⟨.cell ⟨c, o, none⟩, true, true⟩] := by
  have h1 := kk_2 (c := c) (o := o) (jv := jv) (b := b) (cs := cs) (w0 := w0) hkd
  have h2 := kk_2v (c := c) (o := o) (jv := jv) (b := b) (cs := cs) (w0 := w0) hkd
  have h3 := kk_2a (c := c) (o := o) (jv := jv) (b := b) (cs := cs) (w0 := w0) hkd
  have h4 := kk_2b (c := c) (o := o) (jv := jv) (b := b) (cs := cs) (w0 := w0) hkd
  unfold kk2
  generalize kk1 c o jv b cs kd w0 = g at h1 h2 h3 h4 ⊢
  exact h1.casHit Tryz.ext120 h2 h3 h4 hc hz
theorem kk_conv (hkd : kd = .normal ∨ kd = .deferred) {u : World} {v : Value} (hc : u.cell? ⟨c, o, none⟩ = some v) : stepG Tryz.prog true (kk3 c o jv b cs kd w0 w1) u = .go (kk4 c o jv b cs kd w0 w1) u #[] := by
  obtain ⟨cc, e, f, hb1, hb2⟩ := cellBlock hc
  have h1 := kk_4 (c := c) (o := o) (jv := jv) (b := b) (cs := cs) (w0 := w0) (w1 := w1) hkd
  have h2 := kk_4v (c := c) (o := o) (jv := jv) (b := b) (cs := cs) (w0 := w0) (w1 := w1) hkd
  unfold kk4
  generalize kk3 c o jv b cs kd w0 w1 = g at h1 h2 ⊢
  exact h1.unsafePtr (a := ⟨c, o, none⟩) (t := 77) (n := 1) h2 Tryz.und211 Tryz.und127 Tryz.size77 hb1 hb2
theorem uu_load (hkd : kd = .normal ∨ kd = .deferred) {u : World} (hc : u.cell? ⟨c, o, none⟩ = some (.int .i32 1)) : stepG Tryz.prog true (uu1 c o jv b cs kd w0) u = .go (uu2 c o jv b cs kd w0) u #[] := by
  have h1 := uu_2 (c := c) (o := o) (jv := jv) (b := b) (cs := cs) (w0 := w0) hkd
  have h2 := uu_2v (c := c) (o := o) (jv := jv) (b := b) (cs := cs) (w0 := w0) hkd
  have h3 := uu_2n (c := c) (o := o) (jv := jv) (b := b) (cs := cs) (w0 := w0) hkd
  unfold uu2
  generalize uu1 c o jv b cs kd w0 = g at h1 h2 h3 ⊢
  exact AtOp.loadN (P := Tryz.prog) (main := true) (w := u) (v := .int .i32 1) (a := ⟨c, o, none⟩) (d := .int .i32) h1 h2 Tryz.und21 rfl h3 hc
theorem uu_conv (hkd : kd = .normal ∨ kd = .deferred) {u : World} {v : Value} (hc : u.cell? ⟨c, o, none⟩ = some v) : stepG Tryz.prog true (uu3 c o jv b cs kd w0 w1) u = .go (uu4 c o jv b cs kd w0 w1) u #[] := by
  obtain ⟨cc, e, f, hb1, hb2⟩ := cellBlock hc
  have h1 := uu_4 (c := c) (o := o) (jv := jv) (b := b) (cs := cs) (w0 := w0) (w1 := w1) hkd
  have h2 := uu_4v (c := c) (o := o) (jv := jv) (b := b) (cs := cs) (w0 := w0) (w1 := w1) hkd
  unfold uu4
  generalize uu3 c o jv b cs kd w0 w1 = g at h1 h2 ⊢
  exact h1.unsafePtr (a := ⟨c, o, none⟩) (t := 77) (n := 1) h2 Tryz.und211 Tryz.und127 Tryz.size77 hb1 hb2
theorem uu_add (hkd : kd = .normal ∨ kd = .deferred) {u : World} (hc : u.cell? ⟨c, o, none⟩ = some (.int .i32 1)) (hz : u.frozen? ⟨c, o, none⟩ = false) : stepG Tryz.prog true (uu5 c o jv b cs kd w0 w1 w2) u = .go (uu6 c o jv b cs kd w0 w1 w2) (u.setCell ⟨c, o, none⟩ (.int .i32 0)) #[⟨.cell ⟨c, o, none⟩, false, true⟩, ⟨.cell ⟨c, o, none⟩, true, true⟩] := by
  have h1 := uu_6 (c := c) (o := o) (jv := jv) (b := b) (cs := cs) (w0 := w0) (w1 := w1) (w2 := w2) hkd
  have h2 := uu_6v (c := c) (o := o) (jv := jv) (b := b) (cs := cs) (w0 := w0) (w1 := w1) (w2 := w2) hkd
  have h3 := uu_6a (c := c) (o := o) (jv := jv) (b := b) (cs := cs) (w0 := w0) (w1 := w1) (w2 := w2) hkd
  unfold uu6
  generalize uu5 c o jv b cs kd w0 w1 w2 = g at h1 h2 h3 ⊢
  have h := h1.addA (main := true) Tryz.ext122 h2 h3 hc hz
  have e : IntKind.i32.wrap (1 + -1) = 0 := by decide
  rw [e] at h
  exact h
theorem deaf_two {a : Addr} (d : Nat) : deafBehind d #[⟨.cell a, false, true⟩, ⟨.cell a, true, true⟩] = d := rfl
theorem deaf_one {a : Addr} (d : Nat) : deafBehind d #[⟨.cell a, false, false⟩] = d := rfl
theorem Fine.nil : Fine S #[] := .inl fun e he => by simp at he
/-- Lock, the mutex being free. -/
theorem lock_route (hkd : kd = .normal ∨ kd = .deferred) (hc : w.cell? ⟨c, o, none⟩ = some (.int .i32 0)) (hz : w.frozen? ⟨c, o, none⟩ = false) (hk : ¬ S.keep ⟨c, o, none⟩) (hg : ¬ S.gone ⟨c, o, none⟩)
    (hs : ∀ d, Stop (G (Tame.ret kd b (.tuple #[])) cs) ((w.setCell ⟨c, o, none⟩ (.int .i32 1)).at d)) : Route Tryz.prog S Stop 26 0 (kk0 c o jv b cs kd) w := by
  refine Route.seg (n := 10) (m := 16) (d := 0) (d' := 1) (g := kk0 c o jv b cs kd) (kk_1 (c := c) (o := o) (jv := jv) (b := b) (cs := cs)  hkd) fun w0 x0 => ?_
  have h1 := fun x => kk_cas (jv := jv) (b := b) (cs := cs) (w0 := w0) hkd (u := (w.at x0).at x) hc hz
  refine Route.one (n := 15) (d := 1) (g := kk1 c o jv b cs kd w0) (g' := kk2 c o jv b cs kd w0) (f := fun w => w.setCell ⟨c, o, none⟩ (.int .i32 1)) (kk_2r (jv := jv) (b := b) (cs := cs) (c := c) (o := o) (w0 := w0) hkd) h1 (fun x => Leaves.setAt hk) (atomics_own hg hk) fun x => ?_
  rw [deaf_two]
  have hcell : ((((w.at x0).at x).setCell ⟨c, o, none⟩ (.int .i32 1)).cell? ⟨c, o, none⟩) = some (.int .i32 1) := World.cell?_setCell_same _ _ _ hc
  refine Route.seg (n := 10) (m := 5) (d := 1) (d' := 0) (g := kk2 c o jv b cs kd w0) (kk_3 (c := c) (o := o) (jv := jv) (b := b) (cs := cs) (w0 := w0) hkd) fun w1 x1 => ?_
  have h2 := fun x' => kk_conv (jv := jv) (b := b) (cs := cs) (w0 := w0) (w1 := w1) hkd (u := ((((w.at x0).at x).setCell ⟨c, o, none⟩ (.int .i32 1)).at x1).at x') hcell
  refine Route.one (n := 4) (d := 0) (g := kk3 c o jv b cs kd w0 w1) (g' := kk4 c o jv b cs kd w0 w1) (f := id) (kk_4r (jv := jv) (b := b) (cs := cs) (c := c) (o := o) (w0 := w0) (w1 := w1) hkd) h2 (fun x => Leaves.at _ _ _) Fine.nil fun x2 => ?_
  refine Route.seg (n := 3) (m := 1) (d := 0) (d' := 0) (g := kk4 c o jv b cs kd w0 w1) (kk_5 (c := c) (o := o) (jv := jv) (b := b) (cs := cs) (w0 := w0) (w1 := w1) hkd) fun w2 x3 => ?_
  refine Route.one (n := 0) (d := 0) (g := kk5 c o jv b cs kd w0 w1 w2) (f := id) (kk_5r (jv := jv) (b := b) (cs := cs) (c := c) (o := o) (w0 := w0) (w1 := w1) (w2 := w2) hkd) (fun x => kk_6 (c := c) (o := o) (jv := jv) (b := b) (cs := cs) (w0 := w0) (w1 := w1) (w2 := w2) hkd _) (fun x => Leaves.at _ _ _) Fine.nil fun x4 => ?_
  exact .stop (hs x4)
/-- Unlock, the mutex being held. -/
theorem unlock_route (hkd : kd = .normal ∨ kd = .deferred) (hc : w.cell? ⟨c, o, none⟩ = some (.int .i32 1)) (hz : w.frozen? ⟨c, o, none⟩ = false) (hk : ¬ S.keep ⟨c, o, none⟩) (hg : ¬ S.gone ⟨c, o, none⟩)
    (hs : ∀ d, Stop (G (Tame.ret kd b (.tuple #[])) cs) ((w.setCell ⟨c, o, none⟩ (.int .i32 0)).at d)) : Route Tryz.prog S Stop 39 0 (uu0 c o jv b cs kd) w := by
  refine Route.seg (n := 7) (m := 32) (d := 0) (d' := 0) (g := uu0 c o jv b cs kd) (uu_1 (c := c) (o := o) (jv := jv) (b := b) (cs := cs)  hkd) fun w0 x0 => ?_
  have h1 := fun x => uu_load (jv := jv) (b := b) (cs := cs) (w0 := w0) hkd (u := (w.at x0).at x) hc
  refine Route.one (n := 31) (d := 0) (g := uu1 c o jv b cs kd w0) (g' := uu2 c o jv b cs kd w0) (f := id) (uu_2r (jv := jv) (b := b) (cs := cs) (c := c) (o := o) (w0 := w0) hkd) h1 (fun x => Leaves.at _ _ _) Fine.nil fun x => ?_
  refine Route.seg (n := 4) (m := 27) (d := 0) (d' := 0) (g := uu2 c o jv b cs kd w0) (uu_3 (c := c) (o := o) (jv := jv) (b := b) (cs := cs) (w0 := w0) hkd) fun w1 x1 => ?_
  have h2 := fun x' => uu_conv (jv := jv) (b := b) (cs := cs) (w0 := w0) (w1 := w1) hkd (u := (((w.at x0).at x).at x1).at x') hc
  refine Route.one (n := 26) (d := 0) (g := uu3 c o jv b cs kd w0 w1) (g' := uu4 c o jv b cs kd w0 w1) (f := id) (uu_4r (jv := jv) (b := b) (cs := cs) (c := c) (o := o) (w0 := w0) (w1 := w1) hkd) h2 (fun x => Leaves.at _ _ _) Fine.nil fun x2 => ?_
  refine Route.seg (n := 10) (m := 16) (d := 0) (d' := 1) (g := uu4 c o jv b cs kd w0 w1) (uu_5 (c := c) (o := o) (jv := jv) (b := b) (cs := cs) (w0 := w0) (w1 := w1) hkd) fun w2 x3 => ?_
  have h3 := fun x' => uu_add (jv := jv) (b := b) (cs := cs) (w0 := w0) (w1 := w1) (w2 := w2) hkd (u := (((((w.at x0).at x).at x1).at x2).at x3).at x') hc hz
  refine Route.one (n := 15) (d := 1) (g := uu5 c o jv b cs kd w0 w1 w2) (g' := uu6 c o jv b cs kd w0 w1 w2) (f := fun w => w.setCell ⟨c, o, none⟩ (.int .i32 0)) (uu_6r (jv := jv) (b := b) (cs := cs) (c := c) (o := o) (w0 := w0) (w1 := w1) (w2 := w2) hkd) h3 (fun x => Leaves.setAt hk) (atomics_own hg hk) fun x4 => ?_
  rw [deaf_two]
  refine Route.seg (n := 14) (m := 1) (d := 1) (d' := 0) (g := uu6 c o jv b cs kd w0 w1 w2) (uu_7 (c := c) (o := o) (jv := jv) (b := b) (cs := cs) (w0 := w0) (w1 := w1) (w2 := w2) hkd) fun w3 x5 => ?_
  refine Route.one (n := 0) (d := 0) (g := uu7 c o jv b cs kd w0 w1 w2 w3) (f := id) (uu_7r (jv := jv) (b := b) (cs := cs) (c := c) (o := o) (w0 := w0) (w1 := w1) (w2 := w2) (w3 := w3) hkd) (fun x => uu_8 (c := c) (o := o) (jv := jv) (b := b) (cs := cs) (w0 := w0) (w1 := w1) (w2 := w2) (w3 := w3) hkd _) (fun x => Leaves.at _ _ _) Fine.nil fun x6 => ?_
  exact .stop (hs x6)
end
end Go.Proofs.Shardlog
