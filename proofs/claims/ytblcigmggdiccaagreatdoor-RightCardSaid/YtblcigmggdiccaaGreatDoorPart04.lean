/- Several texts in one: TameOut, TameDefer, TameStand, TameSeg, TameFree. -/
import Derived.Test.YtblcigmggdiccaaGreatDoorPart03
import Derived.Orders
import Derived.Test.YtblcigmggdiccaaGreatDoorPart02
import Derived.Conc.AtomicLaws2
import Derived.Conc.MarkLaws
import Derived.KernelRfl
set_option linter.unusedSectionVars false
set_option linter.unusedSimpArgs false
set_option linter.unusedVariables false
/- Walks of the first goroutine in the house, between the calls whose contracts hold alone: the protected places may grow. -/
namespace Go.Tame
open Go.Conc
open Go.ConcN (sumTo upd sumTo_upd upd_ne upd_same)

/-- The operations that come to a value, or to nothing. -/
def valOp : Op → Bool
  | .call c => match c.callee with | .builtin b => okBuiltin b | _ => false
  | .defer _ | .select .. => false
  | _ => true
section
variable {P Q : Program} {v v' : World} {n : Next}
theorem val_v {s : Sem Value} (h : (do pure (Next.value (← s)) : Sem Next).run Q v = .ok n v') : (∃ y, n = .value y) ∨ n = .skip := by
  rw [Sem.run_bind] at h
  cases hr : s.run Q v with
  | ok a w => rw [hr] at h; cases h; exact .inl ⟨_, rfl⟩
  | halt y w => rw [hr] at h; cases h
theorem val_u {s : Sem Unit} (h : (do s; pure Next.skip : Sem Next).run Q v = .ok n v') : (∃ y, n = .value y) ∨ n = .skip := by
  rw [Sem.run_bind] at h
  cases hr : s.run Q v with
  | ok a w => rw [hr] at h; cases h; exact .inr rfl
  | halt y w => rw [hr] at h; cases h
theorem val_builtin {b : Builtin} (hb : okBuiltin b = true) {a : Array TypeId} {t : TypeId} {c : Array Bool} {x : Array Value} (h : (builtin b a t c x).run Q v = .ok n v') : (∃ y, n = .value y) ∨ n = .skip := by
  cases b <;> first | (cases hb; done) | exact val_v h
theorem val_execOp (ρ : Operand → Value) {o : Oper} (hv : valOp o.op = true) (hok : okOp P o.op = true) (h : (execOp ρ o).run Q v = .ok n v') : (∃ y, n = .value y) ∨ n = .skip := by
  unfold execOp at h
  obtain ⟨dst, op, ty, pos, after, guard⟩ := o
  dsimp only at hv hok h
  cases op with
  | move => cases h; exact .inl ⟨_, rfl⟩
  | assign => cases h; exact .inl ⟨_, rfl⟩
  | pick =>
    obtain ⟨b, v₁, _, h⟩ := run_bind_ok h
    cases h; exact .inl ⟨_, rfl⟩
  | nilCheck x =>
    dsimp only at h
    split at h
    · exact absurd h (never_runtimePanic _ _ _ _ _)
    · exact absurd h (never_runtimePanic _ _ _ _ _)
    · exact absurd h (never_runtimePanic _ _ _ _ _)
    · split at h
      · exact absurd h (never_runtimePanic _ _ _ _ _)
      · obtain ⟨p, v₁, _, h⟩ := run_bind_ok h
        obtain ⟨q, v₂, _, h⟩ := run_bind_ok h
        split at h
        · obtain ⟨_, _, h3, _⟩ := run_bind_ok h
          exact absurd h3 (never_unsupported _ _ _ _ _)
        · cases h; exact .inl ⟨_, rfl⟩
      · cases h; exact .inl ⟨_, rfl⟩
    · cases h; exact .inl ⟨_, rfl⟩
  | call c =>
    obtain ⟨d, v₁, h1, h2⟩ := run_bind_ok h
    unfold resolve at h1
    simp only [valOp] at hv
    split at h1
    · rename_i b hb
      cases h1
      rw [hb] at hv
      exact val_builtin (b := b) hv (by unfold invoke at h2; exact h2)
    · rename_i f hb; rw [hb] at hv; cases hv
    · rename_i hb; rw [hb] at hv; cases hv
  | defer c => cases hv
  | select cases blocking => cases hv
  | go | send | recv | ready | waits | sliceToArrayPointer | mapEntry | entryStore => cases hok
  | store | mapUpdate | insert => exact val_u h
  | _ => exact val_v h
end

/-- What the walk stands on: the ghost; by it the protected places, the functions alone, what is known of the special functions; what links them. -/
structure Setting (P : Program) where
  Gh : Type
  S : Gh → Prot
  F : Gh → Array Func
  C : Gh → List Frame → Macros
  top : ∀ g cs, (C g cs).κ
  J : ∀ g cs, (C g cs).κ → World → (Nat → Option Chair) → Prop
  Jt : Gh → World → (Nat → Option Chair) → Prop

structure Setting.Ok {P : Program} (Z : Setting P) : Prop where
  hand : ∀ g cs, (Z.C g cs).hand (Z.top g cs) = 0
  cs : ∀ g cs, (Z.C g cs).cs (Z.top g cs) = cs
  low : ∀ g cs, (Z.C g cs).low (Z.top g cs) = []
  only : ∀ g cs m, (Z.C g cs).low m = [] → m = Z.top g cs
  jt : ∀ g cs w In, Z.J g cs (Z.top g cs) w In ↔ Z.Jt g w In
  keep : ∀ g cs m w w' In, Kept (Z.S g) w w' → Z.J g cs m w In → Z.J g cs m w' In
  tick : ∀ g cs m w In d, Z.J g cs m w In → Z.J g cs m (w.at d) In
  runs : ∀ g cs, MacroRuns P (Z.S g) (Z.C g cs) (Z.J g cs)
  funcs : ∀ g, Funcs (Z.S g) P (Z.F g)
  codes : ∀ g cs, Codes P (Z.F g) (Z.C g cs).Sp
  macros : ∀ g cs, MacrosOk (Z.S g) P (Z.F g) (Z.C g cs)

/-- From wherever the house is in such a state: to a state of which X holds. -/
def CW {P : Program} (Z : Setting P) (g : Z.Gh) (fr : Frame) (cs : List Frame) (v : World) (X : Z.Gh → Frame → List Frame → World → Prop) : Prop :=
  ∀ w, Like (Z.S g) w v → ∀ (In : Nat → Option Chair) (T : Trace) (gs : Array Goroutine) (q : Nat → Nat) (sl : Option (Nat × Nat)), House P (Z.S g) In 0 T gs w q → Z.Jt g w In → gs[0]? = some (G fr cs) →
    ∃ (N : Nat) (gs' : Array Goroutine) (g' : Z.Gh) (fr' : Frame) (cs' : List Frame) (w' v' : World) (sl' : Option (Nat × Nat)) (T' : Trace) (q' : Nat → Nat) (In' : Nat → Option Chair),
      runNT P N (crowd gs w sl) T = (.next (crowd gs' w' sl'), T') ∧ gs'[0]? = some (G fr' cs') ∧ X g' fr' cs' v' ∧ Like (Z.S g') w' v' ∧ House P (Z.S g') In' 0 T' gs' w' q' ∧ Z.Jt g' w' In'

section
variable {P : Program} {Z : Setting P} {g : Z.Gh} {fr fr' : Frame} {cs : List Frame} {v : World} {X X' : Z.Gh → Frame → List Frame → World → Prop}

theorem Setting.Ok.keepT (ok : Z.Ok) {w w' : World} {In : Nat → Option Chair} (hk : Kept (Z.S g) w w') (h : Z.Jt g w In) : Z.Jt g w' In := (ok.jt g [] w' In).1 (ok.keep g [] _ _ _ _ hk ((ok.jt g [] w In).2 h))
theorem Setting.Ok.atT (ok : Z.Ok) {w : World} {In : Nat → Option Chair} (d : Nat) (h : Z.Jt g w In) : Z.Jt g (w.at d) In := (ok.jt g [] _ In).1 (ok.tick g [] _ _ _ _ ((ok.jt g [] w In).2 h))

theorem CW.done (h : X g fr cs v) : CW Z g fr cs v X := fun w hl In T gs q sl H hj ha => ⟨0, gs, g, fr, cs, w, v, sl, T, q, In, rfl, ha, h, hl, H, hj⟩
theorem CW.trans (h : CW Z g fr cs v X) (k : ∀ g fr cs v, X g fr cs v → CW Z g fr cs v X') : CW Z g fr cs v X' := by
  intro w hl In T gs q sl H hj ha
  obtain ⟨N, gs', g', fr', cs', w', v', sl', T', q', In', h1, h2, h3, h4, h5, h6⟩ := h w hl In T gs q sl H hj ha
  obtain ⟨M, gs₂, g₂, fr₂, cs₂, w₂, v₂, sl₂, T₂, q₂, In₂, k1, k2⟩ := k _ _ _ _ h3 w' h4 In' T' gs' q' sl' h5 h6 h2
  exact ⟨N + M, gs₂, g₂, fr₂, cs₂, w₂, v₂, sl₂, T₂, q₂, In₂, by rw [runNT_add, h1]; exact k1, k2⟩
theorem CW.mono (h : CW Z g fr cs v X) (k : ∀ g fr cs v, X g fr cs v → X' g fr cs v) : CW Z g fr cs v X' := h.trans fun _ _ _ _ hx => .done (k _ _ _ _ hx)

theorem Like.reset {S : Prot} {w v : World} (h : Like S w v) {u : World} (hh : u.heap = v.heap) (ho : u.os = v.os) : Like S w u := by
  refine ⟨by rw [hh]; exact h.size, fun i o o' a b => h.obj i o o' a (by rw [← hh]; exact b), fun a ha => ⟨(h.still a ha).1, ?_⟩, fun a ha => ⟨(h.gone a ha).1, ?_, by rw [hh]; exact (h.gone a ha).2.2⟩, by rw [ho]; exact h.os, h.out⟩
  · have := (h.still a ha).2
    unfold World.frozen? at *; rw [hh]; exact this
  · have := (h.gone a ha).2.1
    unfold World.cell? at *; rw [hh]; exact this
/-- The tape, and how much of it has been drawn, are of no account. -/
theorem CW.reset {u : World} (h : CW Z g fr cs u X) (hh : u.heap = v.heap) (ho : u.os = v.os) : CW Z g fr cs v X := fun w hl => h w (hl.reset hh ho)

/-- Another ghost, another world alone. -/
theorem CW.ghost {g' : Z.Gh} {v' : World} (hS : (Z.S g).Le (Z.S g')) (hap : ∀ a, (Z.S g').gone a → ¬ (Z.S g').keep a) (h : ∀ w In, Like (Z.S g) w v → Z.Jt g w In → Like (Z.S g') w v' ∧ Z.Jt g' w In) (k : CW Z g' fr cs v' X) : CW Z g fr cs v X := by
  intro w hl In T gs q sl H hj ha
  obtain ⟨h1, h2⟩ := h w In hl hj
  refine k w h1 In T gs q sl ⟨H.waits, H.wf, H.chans, H.keep, fun j c a e hx => hS.keep a (H.prot j c a e hx), fun j c a e hx => hS.gone a (H.nearGone j c a e hx), hap, H.none, ?_, H.hears, H.hear, H.new, H.bound⟩ h2 ha
  exact ⟨H.tr.clean, fun i a hx hm => (H.tr.known i a hx hm).imp id (.imp id fun ⟨⟨x, e, hg⟩, z⟩ => ⟨⟨x, e, hS.gone _ hg⟩, z⟩), H.tr.wrote⟩

/-- One own step. -/
theorem CW.own (ok : Z.Ok) (hs : ∀ w, Like (Z.S g) w v → ∃ fr' cs' u v' es, stepG P true (G fr cs) w = .go (G fr' cs') u es ∧ Kept (Z.S g) w u ∧ (∀ e ∈ es, EvGood (Z.S g) e) ∧ Like (Z.S g) u v' ∧ CW Z g fr' cs' v' X) : CW Z g fr cs v X := by
  intro w hl In T gs q sl H hj ha
  obtain ⟨K, gs', a', d', u, sl', T', q', k1, k2, k3, k4, ⟨fr', cs', v', rfl, k5, k6⟩, k7⟩ := one (h := 0) (a := G fr cs) rfl (X := fun a' u => ∃ fr' cs' v', a' = G fr' cs' ∧ Like (Z.S g) u v' ∧ CW Z g fr' cs' v' X) (w := w)
    (fun d => by
      obtain ⟨fr', cs', u, v', es, e1, e2, e3, e4, e5⟩ := hs (w.at d) (hl.at d)
      exact ⟨_, u, es, e1, e2, e3, fr', cs', v', rfl, e4, e5⟩) _ T gs q sl w.drawn rfl H ha
  obtain ⟨M, gs₂, g₂, fr₂, cs₂, w₂, v₂, sl₂, T₂, q₂, In₂, m1, m2⟩ := k6 u k5 In T' gs' q' sl' k7 (ok.keepT k4 (ok.atT d' hj)) k3
  exact ⟨K + M, gs₂, g₂, fr₂, cs₂, w₂, v₂, sl₂, T₂, q₂, In₂, by rw [runNT_add, show crowd gs w sl = crowd gs (w.at w.drawn) sl from rfl, k1]; exact m1, m2⟩

/-- A step that looks at no world. -/
theorem CW.ctl (ok : Z.Ok) (hs : ∀ w, stepG P true (G fr cs) w = .go (G fr' cs) w #[]) (h : CW Z g fr' cs v X) : CW Z g fr cs v X :=
  .own ok fun w hl => ⟨fr', cs, w, v, #[], hs w, Kept.refl _ _, by simp, hl, h⟩

variable {b : Frame} {a : Act} {k : List Item}
theorem CW.skip (ok : Z.Ok) (h : CW Z g (b.at a k) cs v X) : CW Z g (b.at a (.code .skip :: k)) cs v X := .ctl ok (fun w => by simp [stepG, stepG.exec, Frame.at, G]) h
theorem CW.inBlock (ok : Z.Ok) {id : Nat} (h : CW Z g (b.at a k) cs v X) : CW Z g (b.at a (.inBlock id :: k)) cs v X := .ctl ok (fun w => by simp [stepG, stepG.exec, Frame.at, G]) h
theorem CW.seq (ok : Z.Ok) {x y : Code} (h : CW Z g (b.at a (.code x :: .code y :: k)) cs v X) : CW Z g (b.at a (.code (.seq x y) :: k)) cs v X := .ctl ok (fun w => by simp [stepG, stepG.exec, Frame.at, G]) h
theorem CW.block (ok : Z.Ok) {id : Nat} {c : Code} (h : CW Z g (b.at a (.code c :: .inBlock id :: k)) cs v X) : CW Z g (b.at a (.code (.block id c) :: k)) cs v X := .ctl ok (fun w => by simp [stepG, stepG.exec, Frame.at, G]) h
theorem CW.loop (ok : Z.Ok) {c : Code} (h : CW Z g (b.at a (.code c :: .inLoop c :: k)) cs v X) : CW Z g (b.at a (.code (.loop c) :: k)) cs v X := .ctl ok (fun w => by simp [stepG, stepG.exec, Frame.at, G]) h
theorem CW.inLoop (ok : Z.Ok) {c : Code} (h : CW Z g (b.at a (.code c :: .inLoop c :: k)) cs v X) : CW Z g (b.at a (.inLoop c :: k)) cs v X := .ctl ok (fun w => by simp [stepG, stepG.exec, Frame.at, G]) h
theorem CW.exit (ok : Z.Ok) {id : Nat} {k' : List Item} (he : exitTo id k = some k') (h : CW Z g (b.at a k') cs v X) : CW Z g (b.at a (.code (.exit id) :: k)) cs v X := .ctl ok (fun w => by simp [stepG, stepG.exec, Frame.at, G, he]) h
theorem CW.cond (ok : Z.Ok) {c : Operand} {x y : Code} {t : Bool} (hc : a.eval c = .bool t) (h : CW Z g (b.at a (.code (if t then x else y) :: k)) cs v X) : CW Z g (b.at a (.code (.cond c x y) :: k)) cs v X :=
  .ctl ok (fun w => by
    have := Frame.eval_at b a (.code (.cond c x y) :: k) c
    simp only [Frame.at] at this
    simp [stepG, stepG.exec, Frame.at, G, this, hc]) h
theorem CW.region (ok : Z.Ok) {id : Nat} {ops : Array Oper} (h : CW Z g (b.at a (.inRegion ops (List.range ops.size) :: k)) cs v X) : CW Z g (b.at a (.code (.region id ops false) :: k)) cs v X := .ctl ok (fun w => by simp [stepG, stepG.exec, Frame.at, G]) h
theorem CW.regionEnd (ok : Z.Ok) {ops : Array Oper} (h : CW Z g (b.at a k) cs v X) : CW Z g (b.at a (.inRegion ops [] :: k)) cs v X := .ctl ok (fun w => by simp [stepG, stepG.exec, Frame.at, G]) h
theorem CW.opSkip (ok : Z.Ok) {ops : Array Oper} {i : Nat} {rest : List Nat} {o : Oper} (ho : ops[i]? = some o) (hw : Region.wanted o (yielded ops a.tmps) = false) (h : CW Z g (b.at (a.put o.dst undef) (.inRegion ops rest :: k)) cs v X) : CW Z g (b.at a (.inRegion ops (i :: rest) :: k)) cs v X := by
  have hf : (b.at a (.inRegion ops (i :: rest) :: k)).finish undef = b.at (a.put o.dst undef) (.inRegion ops rest :: k) := by rw [Frame.finish_at, ho]; rfl
  refine .ctl ok (fun w => ?_) h
  rw [← hf]
  simp only [Frame.at, G] at *
  simp [stepG, stepG.exec, ho, hw]

/-- An operation that comes to a value. -/
theorem CW.valK (ok : Z.Ok) {ops : Array Oper} {i : Nat} {rest : List Nat} {o : Oper} (ho : ops[i]? = some o) (hw : Region.wanted o (yielded ops a.tmps) = true) (hv : valOp o.op = true) (hop : okOp P o.op = true) (hk : b.kind ≠ .early)
    {K : Act → World → Prop} (hK : ∀ a' v', (∀ t, Agree t v'.tape v'.drawn → K a' (retape v' t)) → CW Z g (b.at a' (.inRegion ops rest :: k)) cs v' X)
    (h : ∀ t, Agree t v.tape v.drawn → o.wp (withFuncs P (Z.F g)) a (retape v t) K (fun _ _ _ => False)) : CW Z g (b.at a (.inRegion ops (i :: rest) :: k)) cs v X := by
  refine .own ok fun w hl => ?_
  have hfin : ∀ y, (b.at a (.inRegion ops (i :: rest) :: k)).finish y = b.at (a.put o.dst y) (.inRegion ops rest :: k) := fun y => by rw [Frame.finish_at, ho]; rfl
  have hst : stepG P true (G (b.at a (.inRegion ops (i :: rest) :: k)) cs) w = stepG.apply P true (b.at a (.inRegion ops (i :: rest) :: k)) cs none (execOp a.eval o) w := stepG_op ho hw
  obtain ⟨t, r, h1, h2, h3, h4⟩ := t_execOp (L := []) (ok.funcs g) a.eval o hop w v hl (by simp)
  have hx : ∀ t', Agree t' t (end' r).drawn → o.upon (withFuncs P (Z.F g)) a K (fun _ _ _ => False) (re t' r) := fun t' ht' => by
    have := h t' (ht'.trans (h1.mono (Nat.le_refl _)) h2)
    unfold Oper.wp at this
    rw [h3 t' ht'] at this
    exact this
  have hr := h3 t (Agree.refl _ _)
  match r, hx, hr, h4 with
  | .ok n v', hx, hr, ⟨w', g1, g2, g3, g4⟩ =>
    rcases val_execOp (P := P) a.eval hv hop hr with ⟨y, rfl⟩ | rfl
    · obtain ⟨es, he, h5, _⟩ := apply_ok (Q := P) (fr := b.at a (.inRegion ops (i :: rest) :: k)) (cs := cs) hk g1
      exact ⟨_, cs, w', retape v' t, es, by rw [hst, h5 y rfl, hfin], g3, fun e hee => g4 e (he e hee), g2.retape t, hK _ _ fun t' ht' => hx t' ht'⟩
    · obtain ⟨es, he, _, h5, _⟩ := apply_ok (Q := P) (fr := b.at a (.inRegion ops (i :: rest) :: k)) (cs := cs) hk g1
      exact ⟨_, cs, w', retape v' t, es, by rw [hst, h5 rfl, hfin], g3, fun e hee => g4 e (he e hee), g2.retape t, hK _ _ fun t' ht' => hx t' ht'⟩
  | .halt (.panic y) v', hx, _, _ => exact (hx t (Agree.refl _ _)).elim
  | .halt (.stuck y) v', hx, _, _ => exact (hx t (Agree.refl _ _)).elim
  | .halt (.unsupported y) v', hx, _, _ => exact (hx t (Agree.refl _ _)).elim
  | .halt .blocked _, _, _, d | .halt .waiting _, _, _, d | .halt .goexit _, _, _, d | .halt (.exit _) _, _, _, d | .halt (.fatal _) _, _, _, d | .halt (.throw _) _, _, _, d => exact d.elim
theorem CW.val (ok : Z.Ok) {ops : Array Oper} {i : Nat} {rest : List Nat} {o : Oper} (ho : ops[i]? = some o) (hw : Region.wanted o (yielded ops a.tmps) = true) (hv : valOp o.op = true) (hop : okOp P o.op = true) (hk : b.kind ≠ .early)
    (h : ∀ t, Agree t v.tape v.drawn → o.wp (withFuncs P (Z.F g)) a (retape v t) (fun a' v' => CW Z g (b.at a' (.inRegion ops rest :: k)) cs v' X) (fun _ _ _ => False)) : CW Z g (b.at a (.inRegion ops (i :: rest) :: k)) cs v X :=
  .valK ok ho hw hv hop hk (fun _ v' hv' => hv' v'.tape (Agree.refl _ _)) h

/-- A row of operations that come to values, each by the kit's own rule. -/
theorem CW.list (ok : Z.Ok) {ops : Array Oper} (hk : b.kind ≠ .early) (hops : ∀ (i : Nat) (o : Oper), ops[i]? = some o → valOp o.op = true ∧ okOp P o.op = true) :
    ∀ (l : List Nat) (a : Act) (v : World), (∀ t, Agree t v.tape v.drawn → wpOps (withFuncs P (Z.F g)) ops (fun e a' v' => e = .normal ∧ CW Z g (b.at a' k) cs v' X) l a (retape v t)) → CW Z g (b.at a (.inRegion ops l :: k)) cs v X
  | [], a, v, h => .regionEnd ok (h v.tape (Agree.refl _ _)).2
  | i :: rest, a, v, h => by
    cases ho : ops[i]? with
    | none =>
      have hf : (b.at a (.inRegion ops (i :: rest) :: k)).finish undef = b.at a (.inRegion ops rest :: k) := by rw [Frame.finish_at, ho]; rfl
      refine .ctl ok (fr' := b.at a (.inRegion ops rest :: k)) (fun w => ?_) (CW.list ok hk hops rest a v fun t ht => ?_)
      · rw [← hf]
        simp only [Frame.at, G] at *
        simp [stepG, stepG.exec, ho]
      · have := h t ht
        simp only [wpOps, ho] at this
        exact this
    | some o =>
      by_cases hw : Region.wanted o (yielded ops a.tmps) = true
      · refine .valK ok ho hw (hops i o ho).1 (hops i o ho).2 hk (K := wpOps (withFuncs P (Z.F g)) ops (fun e a' v' => e = .normal ∧ CW Z g (b.at a' k) cs v' X) rest) (fun a' v' hv' => CW.list ok hk hops rest a' v' hv') fun t ht => ?_
        have := h t ht
        simp only [wpOps, ho, hw, if_true] at this
        rcases this with this | ⟨_, _, _, hz⟩
        · unfold Oper.wp at this ⊢
          revert this
          generalize (execOp a.eval o).run (withFuncs P (Z.F g)) (retape v t) = r
          intro this
          match r, this with
          | .ok (.value _) _, this => exact this
          | .ok .skip _, this => exact this
          | .ok (.defer _) _, this => exact this
          | .ok (.enter f args) w, this =>
            refine Calls.mono (R := fun | .returned v, w'' => _ | .panicked chain, w'' => _ | .outgrown, _ => _) this fun e w' he => ?_
            cases e with
            | returned y => exact he
            | panicked ch => exact absurd he.1 (by simp)
            | outgrown => obtain ⟨_, _, hz⟩ := he; exact absurd hz.1 (by simp)
          | .ok (.row _ _) _, this => exact this
          | .halt (.panic _) _, this => exact absurd this.1 (by simp)
        · exact absurd hz.1 (by simp)
      · have hw' : Region.wanted o (yielded ops a.tmps) = false := by simpa using hw
        refine .opSkip ok ho hw' (CW.list ok hk hops rest _ v fun t ht => ?_)
        have := h t ht
        simp only [wpOps, ho, hw', Bool.false_eq_true, if_false] at this
        exact this

/-- A region that draws its order, made of such. -/
theorem CW.regionDraw (ok : Z.Ok) {id : Nat} {ops : Array Oper} (hk : b.kind ≠ .early) (hops : ∀ (i : Nat) (o : Oper), ops[i]? = some o → valOp o.op = true ∧ okOp P o.op = true) (hm : P.follows .mixedOrders = true)
    (h : ∀ t d, wpAny (withFuncs P (Z.F g)) .any ops (fun e a' v' => e = .normal ∧ CW Z g (b.at a' k) cs v' X) ops.size (Array.replicate ops.size false) a { v with tape := t, drawn := d }) : CW Z g (b.at a (.code (.region id ops true) :: k)) cs v X := by
  refine .own ok fun w hl => ⟨b.at a (.inRegion ops (Region.schedule (P.follows .mixedOrders) ops (w.tape w.drawn (.order b.fn id))) :: k), cs, { w with drawn := w.drawn + 1 }, { v with drawn := 0 }, #[], ?_, kept_draw w, by simp, hl.draw _ _, ?_⟩
  · simp [stepG, stepG.exec, Frame.at, G, choose, Sem.run, Question.forced, Question.cut]
  · refine CW.list ok hk hops _ a _ fun t _ => ?_
    simp only [Region.schedule, hm, Bool.true_or, if_true]
    exact wpAny_sound ops.size _ _ a _ (h t 0)

/-- An operation that calls. -/
theorem CW.enter (ok : Z.Ok) {ops : Array Oper} {i : Nat} {rest : List Nat} {o : Oper} {f : FuncId} {args : Array Value} (ho : ops[i]? = some o) (hw : Region.wanted o (yielded ops a.tmps) = true) (hk : b.kind ≠ .early)
    (hr : ∀ w, (execOp a.eval o).run P w = .ok (.enter f args) w ∧ (execOp a.eval o).events P w #[] = #[])
    (h : CW Z g (Frame.enter P f args .normal) (b.at a (.inRegion ops (i :: rest) :: k) :: cs) v X) : CW Z g (b.at a (.inRegion ops (i :: rest) :: k)) cs v X := by
  refine .own ok fun w hl => ?_
  have hst : stepG P true (G (b.at a (.inRegion ops (i :: rest) :: k)) cs) w = stepG.apply P true (b.at a (.inRegion ops (i :: rest) :: k)) cs none (execOp a.eval o) w := stepG_op ho hw
  obtain ⟨es, he, _, _, h5, _⟩ := apply_ok (Q := P) (fr := b.at a (.inRegion ops (i :: rest) :: k)) (cs := cs) hk (hr w).1
  refine ⟨_, _, w, v, es, by rw [hst, h5 f args rfl (by intro d x y z k' e; simp [Frame.at] at e)], Kept.refl _ _, fun e hee => ?_, hl, h⟩
  have := he e hee
  rw [(hr w).2] at this
  simp at this

/-- A call whose contract holds alone. -/
theorem CW.calls (ok : Z.Ok) {c : Frame} {f : FuncId} {args : Array Value} (hsp : ¬ (Z.C g (c :: cs)).Sp f) (hb : ((Z.F g)[f]?).any (fun fn => !fn.body.isNone) = true)
    (hc : ∀ t, Agree t v.tape v.drawn → Calls (withFuncs P (Z.F g)) f args (retape v t) fun e v' => ∃ y, e = .returned y ∧ CW Z g (c.finish y) cs v' X) : CW Z g (Frame.enter P f args .normal) (c :: cs) v X := by
  intro w hl In T gs q sl H hj ha
  have hm := ok.low g (c :: cs)
  have hh := ok.hand g (c :: cs)
  obtain ⟨N, gs', y, v', w', sl', T', q', In', h1, h2, h3, h4, h5, h6, h7⟩ := called_back (C := Z.C g (c :: cs)) (J := Z.J g (c :: cs)) (m := Z.top g (c :: cs)) (b := c) (cs := cs) (R := fun y v' => CW Z g (c.finish y) cs v' X) (In := In) (T := T) (gs := gs) (q := q) (sl := sl) hm (ok.only g _) (ok.cs g _) (ok.keep g _) (ok.tick g _) (ok.runs g _) (ok.funcs g) (ok.codes g _) (ok.macros g _) hsp hb hl hc
    (by rw [hh]; exact H) ((ok.jt g _ w In).2 hj) (by rw [hh]; exact ha)
  rw [hh] at h3 h6
  obtain ⟨M, gs₂, g₂, fr₂, cs₂, w₂, v₂, sl₂, T₂, q₂, In₂, m1, m2⟩ := h4 w' h5 In' T' gs' q' sl' h6 ((ok.jt g _ w' In').1 h7) h3
  exact ⟨N + M, gs₂, g₂, fr₂, cs₂, w₂, v₂, sl₂, T₂, q₂, In₂, by rw [runNT_add, h1]; exact m1, m2⟩

/-- The return of a function without deferred calls. -/
theorem CW.ret (ok : Z.Ok) {c : Frame} {fn : Func} {y : Value} (hk : b.kind = .normal) (hd : a.defers = []) (hf : P.funcs[b.fn]? = some fn) (hr : ∀ w, (results fn a.tmps).run P w = .ok y w ∧ (results fn a.tmps).events P w #[] = #[])
    (h : CW Z g (c.finish y) cs v X) : CW Z g (b.at a (.code .ret :: k)) (c :: cs) v X := by
  refine .ctl ok (fr' := { b.at a (.code .ret :: k) with mode := .returning }) (fun w => by simp [stepG, stepG.exec, Frame.at, G]) ?_
  refine .own ok fun w hl => ⟨_, _, w, v, seen P b.fn #[] ++ #[], ?_, Kept.refl _ _, fun e he => ?_, hl, h⟩
  · have : stepG P true (G { b.at a (.code .ret :: k) with mode := .returning } (c :: cs)) w = GStep.after (seen P b.fn ((results fn a.tmps).events P w #[])) (match (results fn a.tmps).run P w with
          | .ok y x' => doReturn P true { b.at a (.code .ret :: k) with mode := .returning } (c :: cs) none y x'
          | .halt (.stuck s) x' => .ended (.stuck s (Frame.pos P { b.at a (.code .ret :: k) with mode := .returning })) x'
          | .halt _ x' => .ended (.stuck "return: the result variables cannot be read" (Frame.pos P { b.at a (.code .ret :: k) with mode := .returning })) x') := by
      simp only [stepG, G, Frame.at]
      unfold unwind
      simp only [hd, hf, Sem.runT_eq]
      rfl
    rw [this, (hr w).1, (hr w).2]
    simp only []
    rw [doReturn_cons (fr := { b.at a (.code .ret :: k) with mode := .returning }) (.inl hk), if_pos (show ({ b.at a (.code .ret :: k) with mode := .returning } : Frame).kind = .normal from hk)]
    rfl
  · have := Go.Conc.mem_seen (by simpa using he)
    simp at this

/-- A contract of a function that is walked in the house. -/
def CWCall (Z : Setting P) (g : Z.Gh) (f : FuncId) (args : Array Value) (v : World) (R : Z.Gh → Value → World → Prop) : Prop :=
  ∀ (b : Frame) (cs : List Frame), CW Z g (Frame.enter P f args .normal) (b :: cs) v fun g' fr' cs' v' => cs' = cs ∧ ∃ y, fr' = b.finish y ∧ R g' y v'

theorem CWCall.use {c : Frame} {f : FuncId} {args : Array Value} {R : Z.Gh → Value → World → Prop} (h : CWCall Z g f args v R) (k : ∀ g' y v', R g' y v' → CW Z g' (c.finish y) cs v' X) : CW Z g (Frame.enter P f args .normal) (c :: cs) v X :=
  (h c cs).trans fun g' fr' cs' v' ⟨hcs, y, hfr, hR⟩ => by subst hcs; subst hfr; exact k g' y v' hR

theorem CWCall.body {f : FuncId} {fn : Func} {c : Code} {args : Array Value} {R : Z.Gh → Value → World → Prop} (hf : P.funcs[f]? = some fn) (hb : fn.body = some c)
    (h : ∀ (b : Frame) (cs : List Frame), CW Z g ((base f).at { tmps := args ++ Array.replicate (fn.ntmps - args.size) undef, defers := [] } [.code c]) (b :: cs) v fun g' fr' cs' v' => cs' = cs ∧ ∃ y, fr' = b.finish y ∧ R g' y v') : CWCall Z g f args v R := by
  intro b cs
  have henter : Frame.enter P f args .normal = (base f).at { tmps := args ++ Array.replicate (fn.ntmps - args.size) undef, defers := [] } [.code c] := by
    simp [Frame.enter, Frame.at, hf, hb, base]
  rw [henter]
  exact h b cs
end
end Go.Tame
/- Walks of the first goroutine in the house: deferred calls, and the return of a function that has some. -/
namespace Go.Tame
open Go.Conc

section
variable {P : Program} {Z : Setting P} {g : Z.Gh} {fr : Frame} {cs : List Frame} {v : World} {X : Z.Gh → Frame → List Frame → World → Prop} {b : Frame} {a : Act} {k : List Item}

/-- A defer statement. -/
theorem CW.defer (ok : Z.Ok) {ops : Array Oper} {i : Nat} {rest : List Nat} {o : Oper} {d : Deferred} (ho : ops[i]? = some o) (hw : Region.wanted o (yielded ops a.tmps) = true) (hk : b.kind ≠ .early)
    (hr : ∀ w, (execOp a.eval o).run P w = .ok (.defer d) w ∧ (execOp a.eval o).events P w #[] = #[])
    (h : CW Z g (b.at { a.put o.dst undef with defers := d :: a.defers } (.inRegion ops rest :: k)) cs v X) : CW Z g (b.at a (.inRegion ops (i :: rest) :: k)) cs v X := by
  refine .own ok fun w hl => ?_
  have hst : stepG P true (G (b.at a (.inRegion ops (i :: rest) :: k)) cs) w = stepG.apply P true (b.at a (.inRegion ops (i :: rest) :: k)) cs none (execOp a.eval o) w := stepG_op ho hw
  obtain ⟨es, he, _, _, _, h5, _⟩ := apply_ok (Q := P) (fr := b.at a (.inRegion ops (i :: rest) :: k)) (cs := cs) hk (hr w).1
  have hfin : (({ b.at a (.inRegion ops (i :: rest) :: k) with defers := d :: (b.at a (.inRegion ops (i :: rest) :: k)).defers } : Frame).finish undef) = b.at { a.put o.dst undef with defers := d :: a.defers } (.inRegion ops rest :: k) := by
    have := Frame.finish_at b { a with defers := d :: a.defers } ops i rest k undef
    rw [ho] at this
    have e : ({ a with defers := d :: a.defers } : Act).put o.dst undef = { a.put o.dst undef with defers := d :: a.defers } := by cases o.dst <;> rfl
    rw [← e]
    exact this
  refine ⟨_, _, w, v, es, by rw [hst, h5 d rfl, hfin], Kept.refl _ _, fun e hee => ?_, hl, h⟩
  have := he e hee
  rw [(hr w).2] at this
  simp at this

/-- A return statement: the frame unwinds. -/
theorem CW.returning (ok : Z.Ok) (h : CW Z g { b.at a (.code .ret :: k) with mode := .returning } cs v X) : CW Z g (b.at a (.code .ret :: k)) cs v X :=
  .ctl ok (fun w => by simp [stepG, stepG.exec, Frame.at, G]) h

/-- A deferred call, as the frame unwinds. -/
theorem CW.deferred (ok : Z.Ok) {f : FuncId} {fn : Func} {captured args : Array Value} {ds : List Deferred} (hm : fr.mode = .returning) (hd : fr.defers = { target := .fn (.func f) captured, args := args } :: ds) (hf : P.funcs[f]? = some fn) (hb : fn.body.isNone = false) (hn : (fn.name == "runtime.NumGoroutine") = false)
    (h : CW Z g (Frame.enter P f (args ++ captured) .deferred) ({ fr with defers := ds } :: cs) v X) : CW Z g fr cs v X := by
  refine .own ok fun w hl => ⟨_, _, w, v, seen P fr.fn #[], ?_, Kept.refl _ _, fun e he => ?_, hl, h⟩
  · have hi : (invoke (.fn (.func f) captured) args).run P w = .ok (.enter f (args ++ captured)) w ∧ (invoke (.fn (.func f) captured) args).events P w #[] = #[] := callFunc_enter hf hb hn w
    have : stepG P true (G fr cs) w = callDeferred P { fr with defers := ds } cs none { target := .fn (.func f) captured, args := args } w := by
      simp only [stepG, G, hm]
      unfold unwind
      simp only [hd, hm]
    rw [this]
    unfold callDeferred
    simp only [Bool.false_and, Bool.false_eq_true, if_false, Sem.runT_eq, hi.1, hi.2]
    simp [G, GStep.after]
  · have := Go.Conc.mem_seen he
    simp at this

/-- No deferred call is left: the frame leaves. -/
theorem CW.leave (ok : Z.Ok) {c : Frame} {fn : Func} {y : Value} (hm : fr.mode = .returning) (hd : fr.defers = []) (hk : fr.kind = .normal ∨ fr.kind = .deferred) (hf : P.funcs[fr.fn]? = some fn) (hr : ∀ w, Like (Z.S g) w v → (results fn fr.tmps).run P w = .ok y w ∧ ∀ e ∈ (results fn fr.tmps).events P w #[], EvGood (Z.S g) e)
    (h : CW Z g (Tame.ret fr.kind c y) cs v X) : CW Z g fr (c :: cs) v X := by
  refine .own ok fun w hl => ⟨_, _, w, v, seen P fr.fn ((results fn fr.tmps).events P w #[]) ++ #[], ?_, Kept.refl _ _, fun e he => ?_, hl, h⟩
  · have : stepG P true (G fr (c :: cs)) w = GStep.after (seen P fr.fn ((results fn fr.tmps).events P w #[])) (match (results fn fr.tmps).run P w with
          | .ok y x' => doReturn P true fr (c :: cs) none y x'
          | .halt (.stuck s) x' => .ended (.stuck s (Frame.pos P fr)) x'
          | .halt _ x' => .ended (.stuck "return: the result variables cannot be read" (Frame.pos P fr)) x') := by
      simp only [stepG, G, hm]
      unfold unwind
      simp only [hd, hm, hf, Sem.runT_eq]
      rfl
    rw [this, (hr w hl).1]
    simp only []
    rw [doReturn_cons hk]
    rfl
  · exact (hr w hl).2 e (Go.Conc.mem_seen (by simpa using he))
end
end Go.Tame
/- The stand-ins of Lock and Unlock, run alone; what is barred is at an end. -/
namespace Go.Tame
open Go.Conc

section
variable {P : Program} {F : Array Func} {b : Frame} {a : Act} {k : List Item} {cs : List Frame} {v v' : World}
/-- One own step alone, and on. -/
theorem lone_step {Q : Program} {g g' : Frame} {cs' : List Frame} {es : Array Event} {n : Nat} {r : Stepped} (h : stepG Q true (G g cs) v = .go (G g' cs') v' es) (hk : runN Q n (solo (G g' cs') v') = r) : runN Q (n + 1) (solo (G g cs) v) = r := by
  simp only [runN, step_solo_go rfl h]
  exact hk
theorem dead_step {g g' : Frame} {cs' : List Frame} {es : Array Event} (h : stepG (withFuncs P F) true (G g cs) v = .go (G g' cs') v' es) (hn : cs' ≠ [sent F]) (hd : Dead1 P F (solo (G g' cs') v')) : Dead1 P F (solo (G g cs) v) :=
  dead_next (step_solo_go rfl h) hd fun fr' w' e => by
    have := congrArg (fun m => (m.gs.getD 0 default).callers) e
    simp [solo, G] at this
    exact hn this
theorem dead_end {g : Frame} {o : Outcome} {x : World} (h : (stepG (withFuncs P F) true (G g cs) v).bare = .ended o x) : Dead1 P F (solo (G g cs) v) := (lost_over (.inl ⟨o, x, h⟩)).dead
theorem dead_op {ops : Array Oper} {i : Nat} {rest : List Nat} {o : Oper} {h : Halt} {x : World} (ho : ops[i]? = some o) (hw : Region.wanted o (yielded ops a.tmps) = true) (hd : Dead h) (hr : (execOp a.eval o).run (withFuncs P F) v = .halt h x) : Dead1 P F (solo (G (b.at a (.inRegion ops (i :: rest) :: k)) cs) v) := by
  obtain ⟨o', w', he⟩ := apply_dead (Q := withFuncs P F) (fr := b.at a (.inRegion ops (i :: rest) :: k)) (cs := cs) hd hr
  refine dead_end (o := o') (x := w') ?_
  have hst : stepG (withFuncs P F) true (G (b.at a (.inRegion ops (i :: rest) :: k)) cs) v = stepG.apply (withFuncs P F) true (b.at a (.inRegion ops (i :: rest) :: k)) cs none (execOp a.eval o) v := stepG_op ho hw
  rw [hst]; exact he
theorem step_val {Q : Program} {ops : Array Oper} {i : Nat} {rest : List Nat} {o : Oper} {y : Value} (hk : b.kind ≠ .early) (ho : ops[i]? = some o) (hw : Region.wanted o (yielded ops a.tmps) = true) (hr : (execOp a.eval o).run Q v = .ok (.value y) v') : ∃ es, stepG Q true (G (b.at a (.inRegion ops (i :: rest) :: k)) cs) v = .go (G (b.at (a.put o.dst y) (.inRegion ops rest :: k)) cs) v' es := by
  have hst : stepG Q true (G (b.at a (.inRegion ops (i :: rest) :: k)) cs) v = stepG.apply Q true (b.at a (.inRegion ops (i :: rest) :: k)) cs none (execOp a.eval o) v := stepG_op ho hw
  obtain ⟨es, _, h, _⟩ := apply_ok (Q := Q) (fr := b.at a (.inRegion ops (i :: rest) :: k)) (cs := cs) hk hr
  refine ⟨es, ?_⟩
  rw [hst, h y rfl, Frame.finish_at, ho]; rfl
theorem step_unit {Q : Program} {ops : Array Oper} {i : Nat} {rest : List Nat} {o : Oper} (hk : b.kind ≠ .early) (ho : ops[i]? = some o) (hw : Region.wanted o (yielded ops a.tmps) = true) (hr : (execOp a.eval o).run Q v = .ok .skip v') : ∃ es, stepG Q true (G (b.at a (.inRegion ops (i :: rest) :: k)) cs) v = .go (G (b.at (a.put o.dst undef) (.inRegion ops rest :: k)) cs) v' es := by
  have hst : stepG Q true (G (b.at a (.inRegion ops (i :: rest) :: k)) cs) v = stepG.apply Q true (b.at a (.inRegion ops (i :: rest) :: k)) cs none (execOp a.eval o) v := stepG_op ho hw
  obtain ⟨es, _, _, h, _⟩ := apply_ok (Q := Q) (fr := b.at a (.inRegion ops (i :: rest) :: k)) (cs := cs) hk hr
  refine ⟨es, ?_⟩
  rw [hst, h rfl, Frame.finish_at, ho]; rfl
theorem step_skip {Q : Program} {ops : Array Oper} {i : Nat} {rest : List Nat} {o : Oper} (ho : ops[i]? = some o) (hw : Region.wanted o (yielded ops a.tmps) = false) : stepG Q true (G (b.at a (.inRegion ops (i :: rest) :: k)) cs) v = .go (G (b.at (a.put o.dst undef) (.inRegion ops rest :: k)) cs) v #[] := by
  have hf : (b.at a (.inRegion ops (i :: rest) :: k)).finish undef = b.at (a.put o.dst undef) (.inRegion ops rest :: k) := by rw [Frame.finish_at, ho]; rfl
  rw [← hf]
  simp only [Frame.at, G] at *
  simp [stepG, stepG.exec, ho, hw]
theorem dead_refuse {m : String} : Dead1 P F (solo (G (b.at a (.code (.refuse m) :: k)) cs) v) := by
  have : ∃ o x, (stepG (withFuncs P F) true (G (b.at a (.code (.refuse m) :: k)) cs) v).bare = .ended o x := by
    simp [stepG, stepG.exec, Frame.at, G]
  obtain ⟨o, x, h⟩ := this
  exact dead_end h
end
end Go.Tame

namespace Go.Proofs
open Go Go.Conc Go.Tame
section
variable {v : World} {x y : Value} {n : Int}
theorem und21L (w : World) : (underlying 21).run Tryz.L w = .ok (.int .i32) w := by
  rw [LL.runUnderlying, Tryz.runUnderlying21]
/-- What the comparison comes to: it is what is asked, or it is not, or there is an end. -/
theorem eql_any (w : World) (y : Value) {k : Int} (hk : k = 0 ∨ k = 1) : (∃ t : Bool, (binOp .eql 21 y (.int .i32 k)).run Tryz.L w = .ok (.bool t) w ∧ (t = true → y = .int .i32 k)) ∨ ∃ h, Dead h ∧ (binOp .eql 21 y (.int .i32 k)).run Tryz.L w = .halt h w := by
  have eqd : ∀ y, (Op.equal 21 y (.int .i32 k)) = Op.equalIn (9999 + 1) 21 y (.int .i32 k) := fun y => rfl
  have key : ∀ y, (∀ k' m, y ≠ .int k' m) → (∀ o, y ≠ .pointer o) → ∃ h, Dead h ∧ (Op.equal 21 y (.int .i32 k)).run Tryz.L w = .halt h w := by
    intro y h1 h2
    rw [eqd, Op.equalIn]
    simp only [Sem.run_bind, und21L, Result.andThen_ok]
    cases y <;> first | exact absurd rfl (h1 _ _) | exact absurd rfl (h2 _) | exact ⟨.stuck _, trivial, rfl⟩
  have lift : ∀ y, (binOp .eql 21 y (.int .i32 k)) = (do pure (.bool (← Op.equal 21 y (.int .i32 k)))) → (∃ h, Dead h ∧ (Op.equal 21 y (.int .i32 k)).run Tryz.L w = .halt h w) → ∃ h, Dead h ∧ (binOp .eql 21 y (.int .i32 k)).run Tryz.L w = .halt h w := by
    rintro y e ⟨h, hd, hr⟩
    refine ⟨h, hd, ?_⟩
    rw [e, Sem.run_bind, hr]; rfl
  cases y with
  | int k' m =>
    by_cases hk : k' = .i32
    · subst hk
      refine .inl ⟨m == k, ?_, fun h => by rw [eq_of_beq h]⟩
      simp [binOp, Op.intCmp]
    · refine .inr ⟨.stuck "BinOp: operands of different kinds", trivial, ?_⟩
      simp [binOp, hk]
  | pointer o =>
    have hb : (binOp .eql 21 (.pointer o) (.int .i32 k)) = (do pure (.bool (← Op.equal 21 (.pointer o) (.int .i32 k)))) := by cases o <;> rfl
    have hrun : (∃ h, Dead h ∧ (Op.equal 21 (.pointer o) (.int .i32 k)).run Tryz.L w = .halt h w) ∨ (Op.equal 21 (.pointer o) (.int .i32 k)).run Tryz.L w = .ok false w := by
      rw [eqd, Op.equalIn]
      simp only [Sem.run_bind, und21L, Result.andThen_ok]
      cases o with
      | none => rcases hk with rfl | rfl <;> exact .inl ⟨.unsupported .addressObserved, trivial, rfl⟩
      | some a =>
        rcases hk with rfl | rfl
        · exact .inr rfl
        · exact .inl ⟨.unsupported .addressObserved, trivial, rfl⟩
    rcases hrun with h | h
    · exact .inr (lift _ hb h)
    · refine .inl ⟨false, ?_, nofun⟩
      rw [hb, Sem.run_bind, h]; rfl
  | _ => exact .inr (lift _ rfl (key _ (by simp) (by simp)))

theorem isAgg21L (w : World) : (isAgg 21).run Tryz.L w = .ok false w := by rw [LL.isAgg, Tryz.isAgg21]
theorem load21 (w : World) (x : Value) : (∃ ad y, x = .pointer (some ad) ∧ w.cell? ad = some y ∧ (Instr.loadAt 21 x).run Tryz.L w = .ok y w) ∨ (∃ ad, x = .pointer (some ad) ∧ w.cell? ad = none ∧ (Instr.loadAt 21 x).run Tryz.L w = (load ad .plain).run Tryz.L w) ∨ ∃ m, (Instr.loadAt 21 x).run Tryz.L w = .halt (.stuck m) w := by
  have hp : ∀ ad, (Instr.loadAt 21 (.pointer (some ad))).run Tryz.L w = (load ad .plain).run Tryz.L w := fun ad => by
    unfold Instr.loadAt Instr.sureAddr loadVar
    simp only [Sem.run_bind, Sem.run_pure, Result.andThen_ok, isAgg21L, Bool.false_eq_true, if_false]
  cases x with
  | pointer o =>
    cases o with
    | none => exact .inr (.inr ⟨_, rfl⟩)
    | some ad =>
      cases hc : w.cell? ad with
      | none => exact .inr (.inl ⟨ad, rfl, hc, hp ad⟩)
      | some y => exact .inl ⟨ad, y, rfl, hc, by rw [hp]; simp [load, Sem.run, hc]⟩
  | _ => exact .inr (.inr ⟨_, rfl⟩)
theorem store21 (w : World) (ad : Addr) {y : Value} {n : Int} (hc : w.cell? ad = some y) : (Instr.storeAt 21 (.pointer (some ad)) (.int .i32 n)).run Tryz.L w = if w.frozen? ad = true then .halt (.unsupported (.unsafePointer "a write to bytes that a string shares")) w else .ok () (w.setCell ad (.int .i32 n)) := by
  unfold Instr.storeAt Instr.sureAddr storeVar
  simp only [Sem.run_bind, Sem.run_pure, Result.andThen_ok, isAgg21L, Bool.false_eq_true, if_false]
  have h0 : ad.add 0 = ad := rfl
  by_cases hf : w.frozen? ad = true <;> simp [h0, LL.sizeOf, Tryz.sizeOf21, Value.cells, storeCells, store, Sem.run, hc, Value.oneCell', hf]

/-- What a stand-in does, whatever it is handed: it finds what it must and lays the other; or there is an end. -/
theorem stand_any {S : Prot} {w : World} {k n : Int} (hk : k = 0 ∨ k = 1) {f : FuncId} {fn : Func} (hf : Tryz.L.funcs[f]? = some fn) (hb : fn.body = some (standIn k n)) (hn : fn.ntmps = 2) (hres : fn.results = #[]) {args : Array Value} {kind : CallKind} (hkd : kind = .normal ∨ kind = .deferred) {a : Frame} {cs : List Frame} (hcs : cs ≠ []) (hl : Like S w v) :
    (∃ ad x, (args ++ Array.replicate (2 - args.size) undef) = #[.pointer (some ad), x] ∧ v.cell? ad = some (.int .i32 k) ∧ v.frozen? ad = false ∧ ∃ steps, ∀ t', runN Tryz.L steps (solo (G (Frame.enter Tryz.L f args kind) (a :: cs)) (retape v t')) = .next (solo (G (Tame.ret kind a (.tuple #[])) cs) (retape (v.setCell ad (.int .i32 n)) t'))) ∨
    Dead1 Tryz.prog Tryz.FL (solo (G (Frame.enter Tryz.L f args kind) (a :: cs)) v) := by
  obtain ⟨tm, htm⟩ : ∃ tm, tm = args ++ Array.replicate (2 - args.size) undef := ⟨_, rfl⟩
  have hen : Frame.enter Tryz.L f args kind = ({ base f with kind := kind } : Frame).at ⟨tm, []⟩ [.code (standIn k n)] := by
    simp [Frame.enter, Frame.at, hf, hb, hn, base, htm]
  have hkn : kind ≠ .early := by rcases hkd with rfl | rfl <;> nofun
  generalize hbb : ({ base f with kind := kind } : Frame) = b at hen
  have hbk : b.kind = kind := by rw [← hbb]
  have hbf : b.fn = f := by rw [← hbb]; rfl
  have hbe : b.kind ≠ .early := by rw [hbk]; exact hkn
  have hne : ∀ c : Frame, a :: cs ≠ [sent Tryz.FL] := fun _ e => hcs (by injection e)
  rw [← htm, hen]
  -- the quiet steps
  have s1 : ∀ (A : Act) (u : World), stepG Tryz.L true (G (b.at A [.code (standIn k n)]) (a :: cs)) u = .go (G (b.at A [.code (.region 0 (standOps k) false), .code (.cond (.tmp 1) (.seq (.region 1 (standPut n) false) .ret) (.refuse ""))]) (a :: cs)) u #[] := fun A u => by
    simp [stepG, stepG.exec, Frame.at, G, standIn]
  have s2 : ∀ (A : Act) (r : List Item) (u : World), stepG Tryz.L true (G (b.at A (.code (.region 0 (standOps k) false) :: r)) (a :: cs)) u = .go (G (b.at A (.inRegion (standOps k) [0, 1, 2, 3] :: r)) (a :: cs)) u #[] := fun A r u => by
    simp [stepG, stepG.exec, Frame.at, G, standOps]
    rfl
  have s3 : ∀ (A : Act) (r : List Item) (u : World), ∃ es, stepG Tryz.L true (G (b.at A (.inRegion (standOps k) [0, 1, 2, 3] :: r)) (a :: cs)) u = .go (G (b.at (A.put (some 2) (.bool true)) (.inRegion (standOps k) [1, 2, 3] :: r)) (a :: cs)) u es := fun A r u =>
    step_val (o := { dst := some 2, op := .assign (.const (.bool true)), type := 4, pos := "", after := #[], guard := none }) hbe rfl rfl rfl
  generalize hcond : Item.code (.cond (.tmp 1) (.seq (.region 1 (standPut n) false) .ret) (.refuse "")) = ic at s1
  obtain ⟨es3, t3⟩ := s3 ⟨tm, []⟩ [ic] v
  have hd3 : Dead1 Tryz.prog Tryz.FL (solo (G (b.at ((⟨tm, []⟩ : Act).put (some 2) (.bool true)) [.inRegion (standOps k) [1, 2, 3], ic]) (a :: cs)) v) → Dead1 Tryz.prog Tryz.FL (solo (G (b.at ⟨tm, []⟩ [.code (standIn k n)]) (a :: cs)) v) := fun h =>
    dead_step (s1 _ _) (hne a) (dead_step (s2 _ _ _) (hne a) (dead_step t3 (hne a) h))
  by_cases hsz : 2 < tm.size
  · -- handed too much
    refine .inr (hd3 ?_)
    refine dead_op (o := { dst := none, op := .load 21 (.const (.pointer none)), type := 21, pos := "", after := #[], guard := some (0, true) }) (h := .stuck "an address expected (no nilCheck in front?)") (x := v) rfl ?_ trivial rfl
    simp [Region.wanted, yielded, standOps, Act.put, hsz]
  · have h2 : tm.size = 2 := by
      have : 2 ≤ tm.size := by rw [htm]; simp; omega
      omega
    obtain ⟨x0, x1, rfl⟩ : ∃ x0 x1, tm = #[x0, x1] := by
      obtain ⟨l⟩ := tm
      match l, h2 with
      | [x0, x1], _ => exact ⟨x0, x1, rfl⟩
    have e1 : (⟨#[x0, x1], []⟩ : Act).put (some 2) (.bool true) = ⟨#[x0, x1], []⟩ := rfl
    rw [e1] at t3 hd3
    have t4 : ∀ u, stepG Tryz.L true (G (b.at ⟨#[x0, x1], []⟩ [.inRegion (standOps k) [1, 2, 3], ic]) (a :: cs)) u = .go (G (b.at ⟨#[x0, x1], []⟩ [.inRegion (standOps k) [2, 3], ic]) (a :: cs)) u #[] := fun u =>
      Tame.step_skip (o := { dst := none, op := .load 21 (.const (.pointer none)), type := 21, pos := "", after := #[], guard := some (0, true) }) rfl (by simp [Region.wanted, yielded, standOps])
    have hx0 : (⟨#[x0, x1], []⟩ : Act).eval (.tmp 0) = x0 := rfl
    have hop2 : ∀ u, (execOp (⟨#[x0, x1], []⟩ : Act).eval { dst := some 1, op := .load 21 (.tmp 0), type := 21, pos := "", after := #[], guard := none }).run Tryz.L u = ((Instr.loadAt 21 x0).run Tryz.L u).andThen fun y u' => .ok (.value y) u' := fun u => by
      show (do pure (Next.value (← Instr.loadAt 21 ((⟨#[x0, x1], []⟩ : Act).eval (.tmp 0)))) : Sem Next).run Tryz.L u = _
      rw [hx0, Sem.run_bind]; rfl
    have deadAt : ∀ (h : Halt), Dead h → (Instr.loadAt 21 x0).run Tryz.L v = .halt h v → Dead1 Tryz.prog Tryz.FL (solo (G (b.at ⟨#[x0, x1], []⟩ [.code (standIn k n)]) (a :: cs)) v) := fun h hd hr => by
      refine hd3 (dead_step (t4 v) (hne a) ?_)
      refine dead_op (o := { dst := some 1, op := .load 21 (.tmp 0), type := 21, pos := "", after := #[], guard := none }) (h := h) (x := v) rfl rfl hd ?_
      have := hop2 v
      rw [hr] at this
      exact this
    rcases load21 v x0 with ⟨ad, y, rfl, hc, hr⟩ | ⟨ad, rfl, hc, hr⟩ | ⟨m, hr⟩
    · have hl2 : ∀ t', (Instr.loadAt 21 (.pointer (some ad))).run Tryz.L (retape v t') = .ok y (retape v t') := fun t' => by
        rcases load21 (retape v t') (.pointer (some ad)) with ⟨ad', y', e, hc', hr'⟩ | ⟨ad', e, hc', _⟩ | ⟨m, hr'⟩
        · cases e
          have : y' = y := by
            have h : (retape v t').cell? ad = v.cell? ad := rfl
            rw [h, hc] at hc'; exact (Option.some.inj hc').symm
          rw [hr', this]
        · cases e
          have h : (retape v t').cell? ad = v.cell? ad := rfl
          rw [h, hc] at hc'; cases hc'
        · unfold Instr.loadAt Instr.sureAddr loadVar at hr' ⊢
          simp only [Sem.run_bind, Sem.run_pure, Result.andThen_ok, isAgg21L, Bool.false_eq_true, if_false] at hr' ⊢
          have h : (retape v t').cell? ad = some y := hc
          simp [load, Sem.run, h]
      have t5 : ∀ t', ∃ es, stepG Tryz.L true (G (b.at ⟨#[.pointer (some ad), x1], []⟩ [.inRegion (standOps k) [2, 3], ic]) (a :: cs)) (retape v t') = .go (G (b.at ⟨#[.pointer (some ad), y], []⟩ [.inRegion (standOps k) [3], ic]) (a :: cs)) (retape v t') es := fun t' =>
        step_val (o := { dst := some 1, op := .load 21 (.tmp 0), type := 21, pos := "", after := #[], guard := none }) (y := y) hbe rfl rfl (by rw [hop2, hl2 t']; rfl)
      have hop3 : ∀ u, (execOp (⟨#[.pointer (some ad), y], []⟩ : Act).eval { dst := some 1, op := .binOp .eql 21 (.tmp 1) (.const (.int .i32 k)) 21, type := 4, pos := "", after := #[], guard := none }).run Tryz.L u = ((binOp .eql 21 y (.int .i32 k)).run Tryz.L u).andThen fun y u' => .ok (.value y) u' := fun u => by
        have hg : eqGuard .eql 21 (.tmp 1) (.const (.int .i32 k)) y (.int .i32 k) = pure () := by cases y <;> rfl
        show (do pure (Next.value (← (do eqGuard .eql 21 (.tmp 1) (.const (.int .i32 k)) y (.int .i32 k); binOp .eql 21 y (.int .i32 k)))) : Sem Next).run Tryz.L u = _
        rw [hg, Sem.run_bind, Sem.run_bind]; rfl
      have hre : retape v v.tape = v := rfl
      have hd5 : Dead1 Tryz.prog Tryz.FL (solo (G (b.at ⟨#[.pointer (some ad), y], []⟩ [.inRegion (standOps k) [3], ic]) (a :: cs)) v) → Dead1 Tryz.prog Tryz.FL (solo (G (b.at ⟨#[.pointer (some ad), x1], []⟩ [.code (standIn k n)]) (a :: cs)) v) := fun h => by
        obtain ⟨es, t5⟩ := t5 v.tape
        exact hd3 (dead_step (t4 v) (hne a) (dead_step t5 (hne a) h))
      rcases eql_any v y hk with ⟨t, hq, ht⟩ | ⟨h, hd, hq⟩
      · have t6 : ∀ t', (binOp .eql 21 y (.int .i32 k)).run Tryz.L (retape v t') = .ok (.bool t) (retape v t') → ∃ es, stepG Tryz.L true (G (b.at ⟨#[.pointer (some ad), y], []⟩ [.inRegion (standOps k) [3], ic]) (a :: cs)) (retape v t') = .go (G (b.at ⟨#[.pointer (some ad), .bool t], []⟩ [.inRegion (standOps k) [], ic]) (a :: cs)) (retape v t') es := fun t' hq' =>
          step_val (o := { dst := some 1, op := .binOp .eql 21 (.tmp 1) (.const (.int .i32 k)) 21, type := 4, pos := "", after := #[], guard := none }) (y := .bool t) hbe rfl rfl (by rw [hop3, hq']; rfl)
        have t7 : ∀ u, stepG Tryz.L true (G (b.at ⟨#[.pointer (some ad), .bool t], []⟩ [.inRegion (standOps k) [], ic]) (a :: cs)) u = .go (G (b.at ⟨#[.pointer (some ad), .bool t], []⟩ [ic]) (a :: cs)) u #[] := fun u => by simp [stepG, stepG.exec, Frame.at, G]
        cases t with
        | false =>
          have t8 : ∀ u, stepG Tryz.L true (G (b.at ⟨#[.pointer (some ad), .bool false], []⟩ [ic]) (a :: cs)) u = .go (G (b.at ⟨#[.pointer (some ad), .bool false], []⟩ [.code (.refuse "")]) (a :: cs)) u #[] := fun u => by
            rw [← hcond]
            have : (b.at ⟨#[.pointer (some ad), .bool false], []⟩ [.code (.cond (.tmp 1) (.seq (.region 1 (standPut n) false) .ret) (.refuse ""))]).eval (.tmp 1) = .bool false := rfl
            simp only [Frame.at] at this
            simp [stepG, stepG.exec, Frame.at, G, this]
          obtain ⟨es6, t6⟩ := t6 v.tape hq
          exact .inr (hd5 (dead_step t6 (hne a) (dead_step (t7 v) (hne a) (dead_step (t8 v) (hne a) dead_refuse))))
        | true =>
          have hy := ht rfl
          subst hy
          have hq' : ∀ t', (binOp .eql 21 (.int .i32 k) (.int .i32 k)).run Tryz.L (retape v t') = .ok (.bool true) (retape v t') := fun t' => by simp [binOp, Op.intCmp]
          have t8 : ∀ u, stepG Tryz.L true (G (b.at ⟨#[.pointer (some ad), .bool true], []⟩ [ic]) (a :: cs)) u = .go (G (b.at ⟨#[.pointer (some ad), .bool true], []⟩ [.code (.seq (.region 1 (standPut n) false) .ret)]) (a :: cs)) u #[] := fun u => by
            rw [← hcond]
            have : (b.at ⟨#[.pointer (some ad), .bool true], []⟩ [.code (.cond (.tmp 1) (.seq (.region 1 (standPut n) false) .ret) (.refuse ""))]).eval (.tmp 1) = .bool true := rfl
            simp only [Frame.at] at this
            simp [stepG, stepG.exec, Frame.at, G, this]
          have t9 : ∀ u, stepG Tryz.L true (G (b.at ⟨#[.pointer (some ad), .bool true], []⟩ [.code (.seq (.region 1 (standPut n) false) .ret)]) (a :: cs)) u = .go (G (b.at ⟨#[.pointer (some ad), .bool true], []⟩ [.code (.region 1 (standPut n) false), .code .ret]) (a :: cs)) u #[] := fun u => by simp [stepG, stepG.exec, Frame.at, G]
          have t10 : ∀ u, stepG Tryz.L true (G (b.at ⟨#[.pointer (some ad), .bool true], []⟩ [.code (.region 1 (standPut n) false), .code .ret]) (a :: cs)) u = .go (G (b.at ⟨#[.pointer (some ad), .bool true], []⟩ [.inRegion (standPut n) [0], .code .ret]) (a :: cs)) u #[] := fun u => by
            simp [stepG, stepG.exec, Frame.at, G, standPut]
          have hop4 : ∀ u, u.cell? ad = some (.int .i32 k) → (execOp (⟨#[.pointer (some ad), .bool true], []⟩ : Act).eval { dst := none, op := .store 21 (.tmp 0) (.const (.int .i32 n)), type := 0, pos := "", after := #[], guard := none }).run Tryz.L u = (if u.frozen? ad = true then .halt (.unsupported (.unsafePointer "a write to bytes that a string shares")) u else .ok .skip (u.setCell ad (.int .i32 n))) := fun u hu => by
            show (do Instr.storeAt 21 (.pointer (some ad)) (.int .i32 n); pure Next.skip : Sem Next).run Tryz.L u = _
            rw [Sem.run_bind, store21 u ad hu]
            split <;> rfl
          have pre : ∀ (steps : Nat) (t' : Nat → Question → Nat) (r : Stepped), runN Tryz.L steps (solo (G (b.at ⟨#[.pointer (some ad), .bool true], []⟩ [.inRegion (standPut n) [0], .code .ret]) (a :: cs)) (retape v t')) = r → runN Tryz.L (steps + 10) (solo (G (b.at ⟨#[.pointer (some ad), x1], []⟩ [.code (standIn k n)]) (a :: cs)) (retape v t')) = r := fun steps t' r h => by
            obtain ⟨es5, u5⟩ := t5 t'
            obtain ⟨es6, u6⟩ := t6 t' (hq' t')
            obtain ⟨es3', u3⟩ := s3 ⟨#[.pointer (some ad), x1], []⟩ [ic] (retape v t')
            rw [e1] at u3
            exact lone_step (s1 _ _) (lone_step (s2 _ _ _) (lone_step u3 (lone_step (t4 _) (lone_step u5 (lone_step u6 (lone_step (t7 _) (lone_step (t8 _) (lone_step (t9 _) (lone_step (t10 _) h)))))))))
          cases hz : v.frozen? ad with
          | true =>
            refine .inr ?_
            obtain ⟨es5, u5⟩ := t5 v.tape
            obtain ⟨es6, u6⟩ := t6 v.tape (hq' v.tape)
            refine hd5 (dead_step u6 (hne a) (dead_step (t7 v) (hne a) (dead_step (t8 v) (hne a) (dead_step (t9 v) (hne a) (dead_step (t10 v) (hne a) ?_)))))
            refine dead_op (o := { dst := none, op := .store 21 (.tmp 0) (.const (.int .i32 n)), type := 0, pos := "", after := #[], guard := none }) (h := .unsupported (.unsafePointer "a write to bytes that a string shares")) (x := v) rfl rfl trivial ?_
            have := hop4 v hc
            rw [if_pos hz] at this
            exact this
          | false =>
            refine .inl ⟨ad, x1, rfl, hc, hz, 4 + 10, fun t' => pre 4 t' _ ?_⟩
            have t11 : ∃ es, stepG Tryz.L true (G (b.at ⟨#[.pointer (some ad), .bool true], []⟩ [.inRegion (standPut n) [0], .code .ret]) (a :: cs)) (retape v t') = .go (G (b.at ⟨#[.pointer (some ad), .bool true], []⟩ [.inRegion (standPut n) [], .code .ret]) (a :: cs)) (retape (v.setCell ad (.int .i32 n)) t') es :=
              step_unit (o := { dst := none, op := .store 21 (.tmp 0) (.const (.int .i32 n)), type := 0, pos := "", after := #[], guard := none }) hbe rfl rfl (by
                have := hop4 (retape v t') hc
                rw [if_neg (by rw [show (retape v t').frozen? ad = v.frozen? ad from rfl, hz]; simp)] at this
                exact this)
            obtain ⟨es11, t11⟩ := t11
            have t12 : ∀ u, stepG Tryz.L true (G (b.at ⟨#[.pointer (some ad), .bool true], []⟩ [.inRegion (standPut n) [], .code .ret]) (a :: cs)) u = .go (G (b.at ⟨#[.pointer (some ad), .bool true], []⟩ [.code .ret]) (a :: cs)) u #[] := fun u => by simp [stepG, stepG.exec, Frame.at, G]
            have t13 : ∀ u, stepG Tryz.L true (G (b.at ⟨#[.pointer (some ad), .bool true], []⟩ [.code .ret]) (a :: cs)) u = .go (G { b.at ⟨#[.pointer (some ad), .bool true], []⟩ [.code .ret] with mode := .returning } (a :: cs)) u #[] := fun u => by simp [stepG, stepG.exec, Frame.at, G]
            have t14 : ∀ u, ∃ es, stepG Tryz.L true (G { b.at ⟨#[.pointer (some ad), .bool true], []⟩ [.code .ret] with mode := .returning } (a :: cs)) u = .go (G (Tame.ret kind a (.tuple #[])) cs) u es := fun u => by
              have hrs : (results fn #[.pointer (some ad), .bool true]).run Tryz.L u = .ok (.tuple #[]) u := by simp [results, hres]
              refine ⟨GStep.es (GStep.after (seen Tryz.L f ((results fn #[.pointer (some ad), .bool true]).events Tryz.L u #[])) (.go (G (Tame.ret kind a (.tuple #[])) cs) u #[])), ?_⟩
              have : stepG Tryz.L true (G { b.at ⟨#[.pointer (some ad), .bool true], []⟩ [.code .ret] with mode := .returning } (a :: cs)) u = GStep.after (seen Tryz.L f ((results fn #[.pointer (some ad), .bool true]).events Tryz.L u #[])) (match (results fn #[.pointer (some ad), .bool true]).run Tryz.L u with
                  | .ok y x' => doReturn Tryz.L true { b.at ⟨#[.pointer (some ad), .bool true], []⟩ [.code .ret] with mode := .returning } (a :: cs) none y x'
                  | .halt (.stuck s) x' => .ended (.stuck s (Frame.pos Tryz.L { b.at ⟨#[.pointer (some ad), .bool true], []⟩ [.code .ret] with mode := .returning })) x'
                  | .halt _ x' => .ended (.stuck "return: the result variables cannot be read" (Frame.pos Tryz.L { b.at ⟨#[.pointer (some ad), .bool true], []⟩ [.code .ret] with mode := .returning })) x') := by
                simp only [stepG, G, Frame.at]
                unfold unwind
                simp only [hbf, hf, Sem.runT_eq]
                rfl
              rw [this, hrs]
              simp only []
              rw [doReturn_cons (fr := { b.at ⟨#[.pointer (some ad), .bool true], []⟩ [.code .ret] with mode := .returning }) (by rw [show ({ b.at ⟨#[.pointer (some ad), .bool true], []⟩ [.code .ret] with mode := .returning } : Frame).kind = b.kind from rfl, hbk]; exact hkd)]
              rw [show ({ b.at ⟨#[.pointer (some ad), .bool true], []⟩ [.code .ret] with mode := .returning } : Frame).kind = kind from hbk]
              rfl
            obtain ⟨es14, t14⟩ := t14 (retape (v.setCell ad (.int .i32 n)) t')
            exact lone_step t11 (lone_step (t12 _) (lone_step (t13 _) (lone_step t14 rfl)))
      · refine .inr (hd5 (dead_op (o := { dst := some 1, op := .binOp .eql 21 (.tmp 1) (.const (.int .i32 k)) 21, type := 4, pos := "", after := #[], guard := none }) (h := h) (x := v) rfl rfl hd ?_))
        have := hop3 v
        rw [hq] at this
        exact this
    · obtain ⟨y, hy, hfar⟩ := hl.far ad Tryz.L (Mode.plain == Mode.atomic)
      refine .inr (deadAt y hy ?_)
      rw [hr]
      have : v.farLoad Tryz.L ad (Mode.plain == Mode.atomic) = .error y := hfar v.tape
      simp [load, Sem.run, hc, this]
    · exact .inr (deadAt (.stuck m) trivial hr)
end
end Go.Proofs
/- A goroutine's own steps, reckoned by the kernel: stretches that look at no world, and single steps that do. -/
namespace Go.Tame
open Go.Conc

/-! ### reckoned through: the kernel keeps a record in its plain form between the steps -/
def forceL {α β : Type} : List α → (List α → β) → β
  | [], k => k []
  | x :: xs, k => forceL xs fun ys => k (x :: ys)
def forceF {β : Type} (f : Frame) (k : Frame → β) : β :=
  match f with
  | ⟨fn, tmps, todo, defers, mode, kind, ro⟩ => forceL tmps.toList fun ts => forceL todo fun td => forceL defers fun ds => match mode, kind with | m, kd => k ⟨fn, ⟨ts⟩, td, ds, m, kd, ro⟩
def forceG {β : Type} (g : Goroutine) (k : Goroutine → β) : β :=
  match g with
  | ⟨fr, cs, st, dy, of⟩ => forceF fr fun fr => match st with | s => k ⟨fr, cs, s, dy, of⟩
theorem forceL_eq {α β : Type} : ∀ (l : List α) (k : List α → β), forceL l k = k l
  | [], _ => rfl
  | _ :: xs, k => by simp only [forceL]; exact forceL_eq xs _
theorem forceF_eq {β : Type} (f : Frame) (k : Frame → β) : forceF f k = k f := by
  obtain ⟨fn, tmps, todo, defers, mode, kind, ro⟩ := f
  simp only [forceF, forceL_eq]
theorem forceG_eq {β : Type} (g : Goroutine) (k : Goroutine → β) : forceG g k = k g := by
  obtain ⟨fr, cs, st, dy, of⟩ := g
  simp only [forceG, forceF_eq]

section
variable (P : Program) (main : Bool)
/-- Where its own steps lead, the worlds being such; what they hand back; whether it runs and lists what is allowed; how deaf it is then. -/
def fin : Nat → Goroutine → (Nat → World) → Goroutine
  | 0, g, _ => g
  | n + 1, g, ws => match stepG P main g (ws n) with | .go g' _ _ => forceG g' fun g' => fin n g' ws | _ => g
def wls : Nat → Goroutine → (Nat → World) → List World
  | 0, _, _ => []
  | n + 1, g, ws => match stepG P main g (ws n) with | .go g' w' _ => w' :: forceG g' fun g' => wls n g' ws | _ => []
def tgt : Nat → (Nat → World) → List World
  | 0, _ => []
  | n + 1, ws => ws n :: tgt n ws
def okb (p : Event → Bool) : Nat → Goroutine → (Nat → World) → Bool
  | 0, _, _ => true
  | n + 1, g, ws => match stepG P main g (ws n) with | .go g' _ es => (match g.status with | .running => true | _ => false) && es.toList.all p && forceG g' fun g' => okb p n g' ws | _ => false
def dfs : Nat → Nat → Goroutine → (Nat → World) → Nat
  | 0, d, _, _ => d
  | n + 1, d, g, ws => match stepG P main g (ws n) with | .go g' _ es => forceG g' fun g' => dfs n (deafBehind d es) g' ws | _ => d
end
/-- All that at once. -/
def chk (P : Program) (main : Bool) (p : Event → Bool) : Nat → Nat → Goroutine → (Nat → World) → Option (List World × Nat)
  | 0, d, _, _ => some ([], d)
  | n + 1, d, g, ws => match stepG P main g (ws n) with
    | .go g' w' es => match (match g.status with | .running => true | _ => false) && es.toList.all p with
      | true => forceG g' fun g' => match chk P main p n (deafBehind d es) g' ws with
        | some (l, x) => some (w' :: l, x)
        | none => none
      | false => none
    | _ => none
theorem chk_all {P : Program} {main : Bool} {p : Event → Bool} {ws : Nat → World} : ∀ {n d : Nat} {g : Goroutine} {l : List World} {x : Nat}, chk P main p n d g ws = some (l, x) → wls P main n g ws = l ∧ okb P main p n g ws = true ∧ dfs P main n d g ws = x
  | 0, d, g, l, x, h => by
    simp only [chk, Option.some.injEq, Prod.mk.injEq] at h
    exact ⟨h.1, rfl, h.2⟩
  | n + 1, d, g, l, x, h => by
    simp only [chk, forceG_eq] at h
    simp only [wls, okb, dfs, forceG_eq]
    cases hs : stepG P main g (ws n) with
    | go g' w' es =>
      rw [hs] at h
      dsimp only at h ⊢
      split at h
      · rename_i hb
        cases hc : chk P main p n (deafBehind d es) g' ws with
        | none => rw [hc] at h; cases h
        | some lx =>
          obtain ⟨l', x'⟩ := lx
          rw [hc] at h
          simp only [Option.some.injEq, Prod.mk.injEq] at h
          obtain ⟨h1, h2, h3⟩ := chk_all hc
          refine ⟨by rw [h1]; exact h.1, ?_, h3.trans h.2⟩
          rw [hb, h2]; rfl
      · cases h
    | _ => rw [hs] at h; cases h
/-- The worlds, the next of which is 'w'. -/
def next1 (n : Nat) (w : World) (ws : Nat → World) : Nat → World := fun k => if k = n then w else ws k
section
variable {P : Program} {main : Bool}
theorem fin_next : ∀ (n m : Nat) (_ : n ≤ m) (g : Goroutine) (w : World) (ws : Nat → World), fin P main n g (next1 m w ws) = fin P main n g ws
  | 0, _, _, _, _, _ => rfl
  | n + 1, m, _, g, w, ws => by
    have e : next1 m w ws n = ws n := by unfold next1; rw [if_neg (by omega)]
    simp only [fin, e, forceG_eq]
    cases stepG P main g (ws n) <;> first | rfl | exact fin_next n m (by omega) _ w ws
theorem wls_next : ∀ (n m : Nat) (_ : n ≤ m) (g : Goroutine) (w : World) (ws : Nat → World), wls P main n g (next1 m w ws) = wls P main n g ws
  | 0, _, _, _, _, _ => rfl
  | n + 1, m, _, g, w, ws => by
    have e : next1 m w ws n = ws n := by unfold next1; rw [if_neg (by omega)]
    simp only [wls, e, forceG_eq]
    cases stepG P main g (ws n) <;> first | rfl | exact congrArg _ (wls_next n m (by omega) _ w ws)
theorem tgt_next : ∀ (n m : Nat) (_ : n ≤ m) (w : World) (ws : Nat → World), tgt n (next1 m w ws) = tgt n ws
  | 0, _, _, _, _ => rfl
  | n + 1, m, _, w, ws => by
    have e : next1 m w ws n = ws n := by unfold next1; rw [if_neg (by omega)]
    simp only [tgt, e]
    rw [tgt_next n m (by omega)]
theorem okb_next {p : Event → Bool} : ∀ (n m : Nat) (_ : n ≤ m) (g : Goroutine) (w : World) (ws : Nat → World), okb P main p n g (next1 m w ws) = okb P main p n g ws
  | 0, _, _, _, _, _ => rfl
  | n + 1, m, _, g, w, ws => by
    have e : next1 m w ws n = ws n := by unfold next1; rw [if_neg (by omega)]
    simp only [okb, e, forceG_eq]
    cases stepG P main g (ws n) <;> first | rfl | skip
    simp only [okb_next n m (by omega) _ w ws]
theorem dfs_next : ∀ (n m : Nat) (_ : n ≤ m) (d : Nat) (g : Goroutine) (w : World) (ws : Nat → World), dfs P main n d g (next1 m w ws) = dfs P main n d g ws
  | 0, _, _, _, _, _, _ => rfl
  | n + 1, m, _, d, g, w, ws => by
    have e : next1 m w ws n = ws n := by unfold next1; rw [if_neg (by omega)]
    simp only [dfs, e, forceG_eq]
    cases stepG P main g (ws n) <;> first | rfl | exact dfs_next n m (by omega) _ _ w ws
/-- The first of several such steps. -/
theorem quiet_first {p : Event → Bool} {n d d' : Nat} {g : Goroutine} (hq : ∀ ws, wls P main (n + 1) g ws = tgt (n + 1) ws) (hg : ∀ ws, okb P main p (n + 1) g ws = true) (hd : ∀ ws, dfs P main (n + 1) d g ws = d') (w : World) :
    g.status = .running ∧ ∃ g' es, stepG P main g w = .go g' w es ∧ (∀ e ∈ es, p e = true) ∧ (∀ ws, wls P main n g' ws = tgt n ws) ∧ (∀ ws, okb P main p n g' ws = true) ∧ (∀ ws, dfs P main n (deafBehind d es) g' ws = d') ∧
      ∀ ws, fin P main (n + 1) g (next1 n w ws) = fin P main n g' ws := by
  have e : ∀ ws, next1 n w ws n = w := fun ws => by unfold next1; rw [if_pos rfl]
  have hq' := fun ws => hq (next1 n w ws)
  have hg' := fun ws => hg (next1 n w ws)
  have hd' := fun ws => hd (next1 n w ws)
  simp only [wls, tgt, e, forceG_eq] at hq'
  simp only [okb, e, forceG_eq] at hg'
  simp only [dfs, e, forceG_eq] at hd'
  simp only [fin, e, forceG_eq]
  cases hs : stepG P main g w with
  | go g' w' es =>
    simp only [hs, List.cons.injEq] at hq'
    simp only [hs, Bool.and_eq_true] at hg'
    simp only [hs] at hd'
    have hw : w' = w := (hq' (fun _ => w)).1
    subst hw
    refine ⟨?_, g', es, rfl, fun e he => List.all_eq_true.1 (hg' (fun _ => w')).1.2 e (Array.mem_toList_iff.2 he), fun ws => ?_, fun ws => ?_, fun ws => ?_, fun ws => fin_next n n (Nat.le_refl _) _ _ _⟩
    · have := (hg' (fun _ => w')).1.1
      split at this
      · assumption
      · cases this
    · have := (hq' ws).2
      rw [wls_next n n (Nat.le_refl _), tgt_next n n (Nat.le_refl _)] at this
      exact this
    · have := (hg' ws).2
      rw [okb_next n n (Nat.le_refl _)] at this
      exact this
    · have := hd' ws
      rw [dfs_next n n (Nat.le_refl _)] at this
      exact this
  | _ => simp only [hs] at hg'; exact absurd (hg' fun _ => w) (by simp)
end

/-- On its way, by own steps, to a stop; 'd': how deaf it is. -/
def WayD (P : Program) (main : Bool) (K : World → Prop) (E : Event → Prop) (Stop : Nat → Goroutine → Prop) : Nat → Nat → Goroutine → Prop
  | 0, d, g => Stop d g
  | n + 1, d, g => Stop d g ∨ (g.status = .running ∧ ∀ w, K w → ∃ g' x es, stepG P main g w = .go g' (w.at x) es ∧ (∀ e ∈ es, E e) ∧ WayD P main K E Stop n (deafBehind d es) g')

section
variable {P : Program} {main : Bool} {K : World → Prop} {E : Event → Prop} {Stop Stop' : Nat → Goroutine → Prop} {n m d : Nat} {g g' : Goroutine}
theorem WayD.stop (h : Stop d g) : WayD P main K E Stop n d g := by
  cases n with
  | zero => exact h
  | succ n => exact .inl h
theorem WayD.one {es : Array Event} (hs : g.status = .running) (h : ∀ w, K w → stepG P main g w = .go g' w es) (hE : ∀ e ∈ es, E e) (k : WayD P main K E Stop m (deafBehind d es) g') : WayD P main K E Stop (m + 1) d g :=
  .inr ⟨hs, fun w hw => ⟨g', w.drawn, es, h w hw, hE, k⟩⟩
theorem WayD.quiet {p : Event → Bool} {d' : Nat} (hp : ∀ e, p e = true → E e) : ∀ {n d : Nat} {g : Goroutine}, (∀ ws, wls P main n g ws = tgt n ws) → (∀ ws, okb P main p n g ws = true) → (∀ ws, dfs P main n d g ws = d') → (∀ ws, WayD P main K E Stop m d' (fin P main n g ws)) → WayD P main K E Stop (n + m) d g
  | 0, d, g, _, _, hd, k => by
    rw [Nat.zero_add]
    have : d = d' := hd fun _ => default
    subst this
    exact k fun _ => default
  | n + 1, d, g, hq, hg, hd, k => by
    rw [Nat.add_right_comm]
    refine .inr ⟨(quiet_first hq hg hd default).1, fun w _ => ?_⟩
    obtain ⟨_, g', es, h1, h2, h3, h4, h5, h6⟩ := quiet_first hq hg hd w
    exact ⟨g', w.drawn, es, h1, fun e he => hp e (h2 e he), WayD.quiet hp h3 h4 h5 fun ws => by rw [← h6]; exact k _⟩
theorem WayD.seg {p : Event → Bool} {n d d' : Nat} {g : Goroutine} (hp : ∀ e, p e = true → E e) (hc : ∀ ws, chk P main p n d g ws = some (tgt n ws, d')) (k : ∀ ws, WayD P main K E Stop m d' (fin P main n g ws)) : WayD P main K E Stop (n + m) d g :=
  WayD.quiet hp (fun ws => (chk_all (hc ws)).1) (fun ws => (chk_all (hc ws)).2.1) (fun ws => (chk_all (hc ws)).2.2) k
theorem WayD.mono (h : ∀ d g, Stop d g → Stop' d g) : ∀ {n d : Nat} {g : Goroutine}, WayD P main K E Stop n d g → WayD P main K E Stop' n d g
  | 0, _, _, k => h _ _ k
  | n + 1, _, _, k => k.imp (h _ _) fun ⟨hs, hw⟩ => ⟨hs, fun w hK => by obtain ⟨g', x, es, h1, h2, h3⟩ := hw w hK; exact ⟨g', x, es, h1, h2, WayD.mono h h3⟩⟩
end

/-! ### a goroutine at an operation -/
def opsOf (g : Goroutine) : Array Oper := match g.frame.todo with | .inRegion ops _ :: _ => ops | _ => #[]
def idxOf (g : Goroutine) : Nat := match g.frame.todo with | .inRegion _ (i :: _) :: _ => i | _ => 0
def restOf (g : Goroutine) : List Nat := match g.frame.todo with | .inRegion _ (_ :: r) :: _ => r | _ => []
def tailOf (g : Goroutine) : List Item := match g.frame.todo with | _ :: k => k | _ => []
def actOf (g : Goroutine) : Act := ⟨g.frame.tmps, g.frame.defers⟩
def operOf (g : Goroutine) : Oper := ((opsOf g)[idxOf g]?).getD default
def vw (g : Goroutine) : Goroutine := G (g.frame.at (actOf g) (.inRegion (opsOf g) (idxOf g :: restOf g) :: tailOf g)) g.callers
def putOf (g : Goroutine) (v : Value) : Goroutine := forceG g fun g => forceG (G (g.frame.at ((actOf g).put (operOf g).dst v) (.inRegion (opsOf g) (restOf g) :: tailOf g)) g.callers) id
theorem putOf_eq (g : Goroutine) (v : Value) : putOf g v = G (g.frame.at ((actOf g).put (operOf g).dst v) (.inRegion (opsOf g) (restOf g) :: tailOf g)) g.callers := by simp only [putOf, forceG_eq, id]
structure AtOp (g : Goroutine) (op : Op) : Prop where
  view : g = vw g
  oper : (opsOf g)[idxOf g]? = some (operOf g)
  op : (operOf g).op = op
  want : Region.wanted (operOf g) (yielded (opsOf g) g.frame.tmps) = true
  kind : (g.frame.kind == CallKind.early) = false

section
variable {P : Program} {main : Bool} {g : Goroutine} {w w' : World} {o : Op} {v : Value}
theorem AtOp.early {op : Op} (h : AtOp g op) : g.frame.kind ≠ .early := by
  have := h.kind
  intro e
  rw [e] at this
  cases this
theorem AtOp.value (h : AtOp g o) (hr : (execOp (actOf g).eval (operOf g)).run P w = .ok (.value v) w') : stepG P main g w = .go (putOf g v) w' (seen P g.frame.fn ((execOp (actOf g).eval (operOf g)).events P w #[])) := by
  have hv := h.view
  have := stepG_value (P := P) (main := main) (b := g.frame) (a := actOf g) (k := tailOf g) (cs := g.callers) (rest := restOf g) h.oper h.want h.early hr
  rw [show G (g.frame.at (actOf g) (.inRegion (opsOf g) (idxOf g :: restOf g) :: tailOf g)) g.callers = g from hv.symm] at this
  rw [putOf_eq]
  exact this

/-- A plain load of one cell. -/
theorem AtOp.load {t : TypeId} {x : Operand} (h : AtOp g (.load t x)) {a : Addr} {d : TypeDesc} (hx : (actOf g).eval x = .pointer (some a)) (hd : P.underlying t = some d) (hone : (match d with | .struct _ | .array _ _ => false | _ => true) = true)
    (hq : (P.funcs[g.frame.fn]?).any (·.norace) = false) (hc : w.cell? a = some v) : stepG P main g w = .go (putOf g v) w #[⟨.cell a, false, false⟩] := by
  have hrun : (execOp (actOf g).eval (operOf g)).run P w = .ok (.value v) w ∧ (execOp (actOf g).eval (operOf g)).events P w #[] = #[⟨.cell a, false, false⟩] := by
    unfold execOp
    rw [h.op]
    dsimp only
    rw [hx]
    have hu : (underlying t).run P w = .ok d w ∧ (underlying t).events P w #[] = #[] := by
      constructor
      · show (match P.underlying t with | some d => pure d | none => stuck _ : Sem TypeDesc).run P w = _
        rw [hd]; rfl
      · show (match P.underlying t with | some d => pure d | none => stuck _ : Sem TypeDesc).events P w #[] = _
        rw [hd]; simp
    have hag : (isAgg t).run P w = .ok false w ∧ (isAgg t).events P w #[] = #[] := by
      unfold isAgg
      rw [Sem.run_bind, Sem.events_bind, hu.1, hu.2]
      simp only [Result.andThen_ok, Result.evThen_ok]
      cases d <;> first | exact ⟨rfl, by simp⟩ | cases hone
    have hl : (loadVar t a).run P w = .ok v w ∧ (loadVar t a).events P w #[] = #[⟨.cell a, false, false⟩] := by
      unfold loadVar
      rw [Sem.run_bind, Sem.events_bind, hag.1, hag.2]
      simp [Result.andThen_ok, Result.evThen_ok, hc, events_load]
    have hsa : Instr.sureAddr (.pointer (some a)) = pure a := rfl
    constructor
    · simp [Instr.loadAt, hsa, Sem.run_bind, hl.1]
    · simp [Instr.loadAt, hsa, Sem.events_bind, Sem.run_bind, hl.1, hl.2]
  rw [h.value hrun.1, hrun.2, seen_eq hq (by simp)]

/-- A bare pointer. -/
theorem AtOp.unsafePtr {src dst : TypeId} {x : Operand} (h : AtOp g (.convert src dst x)) {a : Addr} {t : TypeId} {n : Nat} {c : Array Value} {e : TypeId} {f : Nat × Nat} (hx : (actOf g).eval x = .pointer (some a)) (hs : P.underlying src = some (.pointer t)) (hd : P.underlying dst = some .unsafePointer)
    (hi : (P.info? t).map (·.size) = some (n + 1)) (hw : w.heap[a.block]? = some (.cells c e f)) (hlt : a.off < c.size) : stepG P main g w = .go (putOf g (.pointer (some a))) w #[] := by
  have und : ∀ (t : TypeId) (d : TypeDesc), P.underlying t = some d → (underlying t).run P w = .ok d w ∧ (underlying t).events P w #[] = #[] := fun t d hd => by
    constructor
    · show (match P.underlying t with | some d => pure d | none => stuck _ : Sem TypeDesc).run P w = _
      rw [hd]; rfl
    · show (match P.underlying t with | some d => pure d | none => stuck _ : Sem TypeDesc).events P w #[] = _
      rw [hd]; simp
  have hshape : w.shape? a.block = some (e, c.size) := by unfold World.shape?; rw [hw]
  have hsh : ∀ {β : Type} (k : Option (TypeId × Nat) → Sem β), (shape a.block >>= k).run P w = (k (some (e, c.size))).run P w ∧ (shape a.block >>= k).events P w #[] = (k (some (e, c.size))).events P w #[] := fun k => by
    constructor
    · show (k (w.shape? a.block)).run P w = _; rw [hshape]
    · show (k (w.shape? a.block)).events P w #[] = _; rw [hshape]
  have hva : (viewAt a.block).run P w = .ok none w ∧ (viewAt a.block).events P w #[] = #[] := by
    unfold viewAt
    rw [(hsh _).1, (hsh _).2]
    simp
  have hse : (Conv.seenAt a).run P w = .ok a w ∧ (Conv.seenAt a).events P w #[] = #[] := by
    unfold Conv.seenAt
    rw [Sem.run_bind, Sem.events_bind, hva.1, hva.2]
    simp
  have hci : (cellsIn a.block).run P w = .ok (some c.size) w ∧ (cellsIn a.block).events P w #[] = #[] := by
    unfold cellsIn
    rw [(hsh _).1, (hsh _).2]
    simp
  have hsz : (sizeOf t).run P w = .ok (n + 1) w ∧ (sizeOf t).events P w #[] = #[] := by
    obtain ⟨i, h1, h2⟩ := Option.map_eq_some_iff.1 hi
    have ht : (typeInfo t).run P w = .ok i w ∧ (typeInfo t).events P w #[] = #[] := by
      constructor
      · show (match P.info? t with | some i => pure i | none => stuck _ : Sem TypeInfo).run P w = _
        rw [h1]; rfl
      · show (match P.info? t with | some i => pure i | none => stuck _ : Sem TypeInfo).events P w #[] = _
        rw [h1]; simp
    unfold sizeOf
    rw [Sem.run_bind, Sem.events_bind, ht.1, ht.2]
    simp [h2]
  have hconv : (Conv.unsafePointer src dst (.pointer (some a))).run P w = .ok (.pointer (some a)) w ∧ (Conv.unsafePointer src dst (.pointer (some a))).events P w #[] = #[] := by
    unfold Conv.unsafePointer
    rw [Sem.run_bind, Sem.events_bind, (und src _ hs).1, (und src _ hs).2]
    simp only [Result.andThen_ok, Result.evThen_ok]
    rw [Sem.run_bind, Sem.events_bind, (und dst _ hd).1, (und dst _ hd).2]
    simp only [Result.andThen_ok, Result.evThen_ok]
    rw [Sem.run_bind, Sem.events_bind, hse.1, hse.2]
    simp only [Result.andThen_ok, Result.evThen_ok]
    rw [Sem.run_bind, Sem.events_bind, hci.1, hci.2]
    simp only [Result.andThen_ok, Result.evThen_ok]
    rw [Sem.run_bind, Sem.events_bind, hsz.1, hsz.2]
    have : ¬ c.size ≤ a.off := by omega
    simp [this]
  have hrun : (execOp (actOf g).eval (operOf g)).run P w = .ok (.value (.pointer (some a))) w ∧ (execOp (actOf g).eval (operOf g)).events P w #[] = #[] := by
    unfold execOp
    rw [h.op]
    dsimp only
    rw [hx]
    have hcv : (convert src dst (.pointer (some a))).run P w = (Conv.unsafePointer src dst (.pointer (some a))).run P w ∧ (convert src dst (.pointer (some a))).events P w #[] = (Conv.unsafePointer src dst (.pointer (some a))).events P w #[] := by
      unfold convert
      simp only [Sem.run_bind, Sem.events_bind, (und src _ hs).1, (und src _ hs).2, (und dst _ hd).1, (und dst _ hd).2, Result.andThen_ok, Result.evThen_ok]
      simp
    constructor
    · rw [Sem.run_bind, hcv.1, hconv.1]; rfl
    · rw [Sem.events_bind, hcv.1, hcv.2, hconv.1, hconv.2]; simp
  rw [h.value hrun.1, hrun.2, seen_none]

/-! ### atomics, the semaphore -/
theorem AtOp.lift {r : GStep} (h : AtOp g o) (k : stepG P main (G (g.frame.at (actOf g) (.inRegion (opsOf g) (idxOf g :: restOf g) :: tailOf g)) g.callers) w = r) : stepG P main g w = r := by
  have hv := h.view
  rw [show G (g.frame.at (actOf g) (.inRegion (opsOf g) (idxOf g :: restOf g) :: tailOf g)) g.callers = g from hv.symm] at k
  exact k
structure Ext (P : Program) (f : FuncId) (fn : Func) (e : Array Value → Sem Value) : Prop where
  func : P.funcs[f]? = some fn
  name : (fn.name == "runtime.NumGoroutine") = false
  body : fn.body.isNone = true
  next : Extern.findNext fn = none
  find : Extern.find fn = some e
variable {f : FuncId} {fn : Func} {ats : Array TypeId} {x y z : Operand} {k : IntKind} {ad : Addr}
theorem AtOp.loadA (h : AtOp g (.call { callee := .value (.func f), args := #[x], argTypes := ats })) (he : Ext P f fn (Extern.Atomic.loadT (.int k))) {v : Int} (hx : (actOf g).eval x = .pointer (some ad)) (hc : w.cell? ad = some (.int k v)) :
    stepG P main g w = .go (putOf g (.int k v)) w #[⟨.cell ad, false, true⟩] := by
  rw [putOf_eq]
  exact h.lift (stepG_load_atomic h.oper h.want h.early h.op he.func he.name he.body he.next k he.find hx hc)
theorem AtOp.storeA (h : AtOp g (.call { callee := .value (.func f), args := #[x, y], argTypes := ats })) (he : Ext P f fn Extern.Atomic.storeT) {v : Int} {u : Value} (hx : (actOf g).eval x = .pointer (some ad)) (hy : (actOf g).eval y = .int k v) (hc : w.cell? ad = some u) (hz : w.frozen? ad = false) :
    stepG P main g w = .go (putOf g (.tuple #[])) (w.setCell ad (.int k v)) #[⟨.cell ad, true, true⟩] := by
  rw [putOf_eq]
  exact h.lift (stepG_store_atomic h.oper h.want h.early h.op he.func he.name he.body he.next he.find hx hy hc hz)
theorem AtOp.addA (h : AtOp g (.call { callee := .value (.func f), args := #[x, y], argTypes := ats })) (he : Ext P f fn (Extern.Atomic.update (Op.intArith .add) k true)) {v d : Int} (hx : (actOf g).eval x = .pointer (some ad)) (hy : (actOf g).eval y = .int k d) (hc : w.cell? ad = some (.int k v)) (hz : w.frozen? ad = false) :
    stepG P main g w = .go (putOf g (.int k (k.wrap (v + d)))) (w.setCell ad (.int k (k.wrap (v + d)))) #[⟨.cell ad, false, true⟩, ⟨.cell ad, true, true⟩] := by
  rw [putOf_eq]
  exact h.lift (stepG_add_atomic h.oper h.want h.early h.op he.func he.name he.body he.next k he.find hx hy hc hz)
theorem AtOp.casHit (h : AtOp g (.call { callee := .value (.func f), args := #[x, y, z], argTypes := ats })) (he : Ext P f fn (Extern.Atomic.casT (.int k))) {v n : Int} (hx : (actOf g).eval x = .pointer (some ad)) (hy : (actOf g).eval y = .int k v) (hzz : (actOf g).eval z = .int k n) (hc : w.cell? ad = some (.int k v)) (hz : w.frozen? ad = false) :
    stepG P main g w = .go (putOf g (.bool true)) (w.setCell ad (.int k n)) #[⟨.cell ad, false, true⟩, ⟨.cell ad, true, true⟩] := by
  rw [putOf_eq]
  exact h.lift (stepG_cas_hit h.oper h.want h.early h.op he.func he.name he.body he.next k he.find hx hy hzz hc hz)
theorem AtOp.casMiss (h : AtOp g (.call { callee := .value (.func f), args := #[x, y, z], argTypes := ats })) (he : Ext P f fn (Extern.Atomic.casT (.int k))) {v old n : Int} (hx : (actOf g).eval x = .pointer (some ad)) (hy : (actOf g).eval y = .int k old) (hzz : (actOf g).eval z = .int k n) (hc : w.cell? ad = some (.int k v)) (hz : w.frozen? ad = false) (hne : ¬ v = old) :
    stepG P main g w = .go (putOf g (.bool false)) w #[⟨.cell ad, false, true⟩] := by
  rw [putOf_eq]
  exact h.lift (stepG_cas_miss h.oper h.want h.early h.op he.func he.name he.body he.next k he.find hx hy hzz hc hz hne)
theorem AtOp.semacquire {al : Array Operand} (h : AtOp g (.call { callee := .value (.func f), args := al, argTypes := ats })) (he : Ext P f fn Extern.Sync.semacquire) {n : Int} (hx : (al.map (actOf g).eval)[0]? = some (.pointer (some ad))) (hc : w.cell? ad = some (.int .u32 n)) (hn0 : n ≠ 0) (hz : w.frozen? ad = false) :
    stepG P main g w = .go (putOf g (.tuple #[])) (w.setCell ad (.int .u32 (n - 1))) (semEvents ad) := by
  rw [putOf_eq]
  exact h.lift (stepG_semacquire h.oper h.want h.early h.op he.func he.name he.body he.next he.find hx hc hn0 hz)
theorem AtOp.semWait {al : Array Operand} (h : AtOp g (.call { callee := .value (.func f), args := al, argTypes := ats })) (he : Ext P f fn Extern.Sync.semacquire) (hx : (al.map (actOf g).eval)[0]? = some (.pointer (some ad))) (hc : w.cell? ad = some (.int .u32 0)) :
    stepG P main g w = .go { g with status := .blocked } w #[] := by
  have hv := h.view
  have k := stepG_semacquire_wait (P := P) (main := main) (w := w) (b := g.frame) (a := actOf g) (kk := tailOf g) (cs := g.callers) (rest := restOf g) h.oper h.want h.op he.func he.name he.body he.next he.find hx hc
  rw [show G (g.frame.at (actOf g) (.inRegion (opsOf g) (idxOf g :: restOf g) :: tailOf g)) g.callers = g from hv.symm] at k
  exact k
theorem AtOp.semrelease {al : Array Operand} (h : AtOp g (.call { callee := .value (.func f), args := al, argTypes := ats })) (he : Ext P f fn Extern.Sync.semrelease) {n : Int} (hx : (al.map (actOf g).eval)[0]? = some (.pointer (some ad))) (hc : w.cell? ad = some (.int .u32 n)) (hz : w.frozen? ad = false) :
    stepG P main g w = .go (putOf g (.tuple #[])) (w.setCell ad (.int .u32 (IntKind.u32.wrap (n + 1)))) (semEvents ad) := by
  rw [putOf_eq]
  exact h.lift (stepG_semrelease h.oper h.want h.early h.op he.func he.name he.body he.next he.find hx hc hz)
end

/-! ### the order of a region that draws: whichever it is -/
def anyL (ops : Array Oper) (p : List Nat → Bool) : Nat → Array Bool → List Nat → Bool
  | 0, _, acc => p acc.reverse
  | fuel + 1, listed, acc => ((Region.ready .any ops listed).isEmpty && p acc.reverse || !(Region.ready .any ops listed).isEmpty) && (Region.ready .any ops listed).all fun i => anyL ops p fuel (listed.setIfInBounds i true) (i :: acc)
theorem linearise_any {ops : Array Oper} {p : List Nat → Bool} : ∀ (fuel t : Nat) (listed : Array Bool) (acc : List Nat), anyL ops p fuel listed acc = true → p (Region.linearise.go .any ops fuel t listed acc) = true
  | 0, _, _, _, h => h
  | fuel + 1, t, listed, acc, h => by
    simp only [anyL, Bool.and_eq_true] at h
    simp only [Region.linearise.go]
    change p (match (Region.ready .any ops listed)[t % (Region.ready .any ops listed).length]? with
      | some i => Region.linearise.go .any ops fuel (t / (Region.ready .any ops listed).length) (listed.setIfInBounds i true) (i :: acc)
      | none => acc.reverse) = true
    cases hi : (Region.ready .any ops listed)[t % (Region.ready .any ops listed).length]? with
    | none =>
      have hnil : Region.ready .any ops listed = [] := by
        cases hr : Region.ready .any ops listed with
        | nil => rfl
        | cons x xs =>
          rw [hr] at hi
          have hlt : t % (x :: xs).length < (x :: xs).length := Nat.mod_lt _ (by simp)
          simp at hi
          simp at hlt
          omega
      have := h.1
      rw [hnil] at this
      simpa using this
    | some i => exact linearise_any fuel _ _ _ (List.all_eq_true.1 h.2 i (List.mem_of_getElem? hi))
theorem schedule_any {ops : Array Oper} {p : List Nat → Bool} {mixed : Bool} (hm : mixed = true) (h : anyL ops p ops.size (Array.replicate ops.size false) [] = true) (t : Nat) : p (Region.schedule mixed ops t) = true := by
  subst hm
  simp only [Region.schedule, Bool.true_or, if_true]
  exact linearise_any ops.size t _ _ h

/-- A goroutine at a region that draws, with the order drawn. -/
def ordered (g : Goroutine) (l : List Nat) : Goroutine := forceG g fun g => match g.frame.todo with
  | .code (.region _ ops _) :: k => G (g.frame.at (actOf g) (.inRegion ops l :: k)) g.callers
  | _ => g
def drawOps (g : Goroutine) : Array Oper := match g.frame.todo with
  | .code (.region _ ops _) :: _ => ops
  | _ => #[]
def drawId (g : Goroutine) : Nat := match g.frame.todo with
  | .code (.region id _ _) :: _ => id
  | _ => 0
theorem draw_step {P : Program} {main : Bool} {g : Goroutine} (hv : g = G (g.frame.at (actOf g) (.code (.region (drawId g) (drawOps g) true) :: tailOf g)) g.callers) (w : World) :
    ∃ t, stepG P main g w = .go (ordered g (Region.schedule (P.follows .mixedOrders) (drawOps g) t)) (w.at (w.drawn + 1)) #[] := by
  refine ⟨w.tape w.drawn (.order g.frame.fn (drawId g)), ?_⟩
  have hf : ordered g (Region.schedule (P.follows .mixedOrders) (drawOps g) (w.tape w.drawn (.order g.frame.fn (drawId g)))) = G (g.frame.at (actOf g) (.inRegion (drawOps g) (Region.schedule (P.follows .mixedOrders) (drawOps g) (w.tape w.drawn (.order g.frame.fn (drawId g)))) :: tailOf g)) g.callers := by
    have ht : g.frame.todo = .code (.region (drawId g) (drawOps g) true) :: tailOf g := by
      have := congrArg (fun g => g.frame.todo) hv
      exact this
    unfold ordered
    rw [forceG_eq, ht]
  rw [hf]
  conv => lhs; rw [hv]
  simp [stepG, stepG.exec, Frame.at, G, choose, Sem.run, Question.forced, Question.cut, World.at, actOf]
end Go.Tame
/- Steps that look at no world: the same in every world; so a goroutine that takes such steps alone only leaves. -/
namespace Go.Tame
open Go.Conc

/-- It comes to such a value, and looks at no world. -/
def freeS {α : Type} (P : Program) (p : α → Bool) : Sem α → Bool
  | .pure a => p a
  | .program k => freeS P p (k P)
  | .mark _ k => freeS P p k
  | _ => false
theorem free_runT {α : Type} {P : Program} {p : α → Bool} : ∀ (s : Sem α), freeS P p s = true → ∀ es, ∃ a es', p a = true ∧ ∀ w, s.runT P w es = (.ok a w, es')
  | .pure a, h, es => ⟨a, es, h, fun _ => rfl⟩
  | .program k, h, es => free_runT (k P) h es
  | .mark m k, h, es => by
    obtain ⟨a, es', hp, hr⟩ := free_runT k h (es.push ⟨.mark m, false, true⟩)
    exact ⟨a, es', hp, fun w => by simp only [Sem.runT]; exact hr w⟩
  | .load .., h, _ | .store .., h, _ | .new .., h, _ | .shape .., h, _ | .freeze .., h, _ | .frozen .., h, _ | .getObj .., h, _ | .setObj .., h, _ | .choose .., h, _ | .sys .., h, _ | .halt .., h, _ => by cases h

/-- The same step in every world. -/
def Same (P : Program) (g : Goroutine) : Prop := ∃ g' es, ∀ w, stepG P false g w = .go g' w es

def isBool : Value → Bool
  | .bool _ => true
  | _ => false
def freeItem (fr : Frame) : Bool := match fr.todo with
  | .code .skip :: _ | .code (.label _) :: _ | .inBlock _ :: _ | .code (.seq ..) :: _ | .code (.block ..) :: _ | .code (.loop _) :: _ | .inLoop _ :: _ | .inRegion _ [] :: _ => true
  | .code (.cond c _ _) :: _ => isBool (fr.eval c)
  | .code .ret :: _ | [] => fr.roundOf.isNone
  | .code (.exit id) :: k => (exitTo id k).isSome
  | .code (.region _ _ d) :: _ => !d
  | .inRegion ops (i :: _) :: _ => !((ops[i]?).map (Region.wanted · (yielded ops fr.tmps))).getD false
  | _ => false
theorem same_item {P : Program} {fr : Frame} {cs : List Frame} (hm : fr.mode = .run) (h : freeItem fr = true) : Same P (G fr cs) := by
  have hst : ∀ w, stepG P false (G fr cs) w = stepG.exec P false true fr cs none w := fun w => by simp only [stepG, G, hm]
  unfold Same
  simp only [hst]
  unfold freeItem at h
  unfold stepG.exec
  split at h
  case h_1 => rename_i hc; simp only [hc]; exact ⟨_, _, fun w => rfl⟩
  case h_2 => rename_i hc; simp only [hc]; exact ⟨_, _, fun w => rfl⟩
  case h_3 => rename_i hc; simp only [hc]; exact ⟨_, _, fun w => rfl⟩
  case h_4 => rename_i hc; simp only [hc]; exact ⟨_, _, fun w => rfl⟩
  case h_5 => rename_i hc; simp only [hc]; exact ⟨_, _, fun w => rfl⟩
  case h_6 => rename_i hc; simp only [hc]; exact ⟨_, _, fun w => rfl⟩
  case h_7 => rename_i hc; simp only [hc]; exact ⟨_, _, fun w => rfl⟩
  case h_8 => rename_i hc; simp only [hc]; exact ⟨_, _, fun w => rfl⟩
  case h_9 =>
    rename_i hc
    simp only [hc]
    cases he : fr.eval _ with
    | bool t => exact ⟨_, _, fun w => rfl⟩
    | _ => rw [he] at h; cases h
  case h_10 =>
    rename_i hc
    have hr : fr.roundOf = none := by simpa using h
    simp only [hc, hr]
    exact ⟨_, _, fun w => rfl⟩
  case h_11 =>
    rename_i hc
    have hr : fr.roundOf = none := by simpa using h
    simp only [hc, hr]
    exact ⟨_, _, fun w => rfl⟩
  case h_12 =>
    rename_i hc
    obtain ⟨k', hk⟩ := Option.isSome_iff_exists.1 h
    simp only [hc, hk, Option.elim_some]
    exact ⟨_, _, fun w => rfl⟩
  case h_13 =>
    rename_i hc
    simp only [hc, h, if_true]
    exact ⟨_, _, fun w => rfl⟩
  case h_14 =>
    rename_i hc
    have hd := h
    simp only [Bool.not_eq_true'] at hd
    simp only [hc, hd, Bool.false_eq_true, if_false]
    exact ⟨_, _, fun w => rfl⟩
  case h_15 => cases h

def simpleN : Next → Bool
  | .value _ | .skip | .enter .. | .defer _ => true
  | _ => false
def freeOper (P : Program) (fr : Frame) : Bool := match fr.todo with
  | .inRegion ops (i :: _) :: _ => ((ops[i]?).map (Region.wanted · (yielded ops fr.tmps))).getD false && fr.roundOf.isNone && (match fr.oper? with | some o => freeS P simpleN (execOp fr.eval o) | none => false)
  | _ => false
theorem same_oper {P : Program} {fr : Frame} {cs : List Frame} (hm : fr.mode = .run) (h : freeOper P fr = true) : Same P (G fr cs) := by
  unfold freeOper at h
  split at h
  · rename_i ops i r k hc
    simp only [Bool.and_eq_true] at h
    obtain ⟨⟨h1, h2⟩, h3⟩ := h
    cases ho : fr.oper? with
    | none => rw [ho] at h3; cases h3
    | some o =>
      rw [ho] at h3
      have hr : fr.roundOf = none := by simpa using h2
      have hst : ∀ w, stepG P false (G fr cs) w = stepG.apply P true fr cs none (execOp fr.eval o) w := fun w => by
        simp [stepG, stepG.exec, stepG.oper, G, hm, hc, h1, ho, hr]
      unfold Same
      simp only [hst]
      obtain ⟨n, es', hp, hr⟩ := free_runT _ h3 #[]
      cases n with
      | value y => exact ⟨_, _, fun w => by simp only [stepG.apply, if_true, hr]; rfl⟩
      | skip => exact ⟨_, _, fun w => by simp only [stepG.apply, if_true, hr]; rfl⟩
      | enter f args => exact ⟨_, _, fun w => by simp only [stepG.apply, if_true, hr]; rfl⟩
      | defer d => exact ⟨_, _, fun w => by simp only [stepG.apply, if_true, hr]; rfl⟩
      | _ => cases hp
  · cases h

def plainN : Next → Bool
  | .value _ | .skip | .enter .. => true
  | _ => false
def plainTarget : Target → Bool
  | .nil | .collected _ => false
  | _ => true
def plainKind : CallKind → Bool
  | .normal | .deferred => true
  | _ => false
def freeUnwind (P : Program) (fr : Frame) (cs : List Frame) : Bool := match fr.mode, fr.defers with
  | .run, _ => false
  | _, d :: _ => plainTarget d.target && freeS P plainN (invoke d.target d.args)
  | .panicking chain, [] => !fr.catches P && (!cs.isEmpty || chain.head?.any (·.goexit))
  | .returning, [] => plainKind fr.kind && (match P.funcs[fr.fn]? with | some fn => freeS P (fun _ => true) (results fn fr.tmps) | none => false)
theorem same_unwind {P : Program} {fr : Frame} {cs : List Frame} (h : freeUnwind P fr cs = true) : Same P (G fr cs) := by
  have hst : ∀ w, fr.mode ≠ .run → stepG P false (G fr cs) w = unwind P false fr cs none w := fun w hm => by
    simp only [stepG, G]
  unfold freeUnwind at h
  unfold Same
  split at h
  · cases h
  · rename_i d ds hd hm
    have hm' : fr.mode ≠ .run := fun e => hm e
    simp only [hst _ hm']
    simp only [Bool.and_eq_true] at h
    obtain ⟨h1, h2⟩ := h
    obtain ⟨n, es', hp, hr⟩ := free_runT _ h2 #[]
    obtain ⟨target, args⟩ := d
    have hu : ∀ w, unwind P false fr cs none w = callDeferred P { fr with defers := ds } cs none { target, args } w := fun w => by
      unfold unwind
      rw [hd]
      cases target <;> first | rfl | cases h1
    simp only [hu]
    unfold callDeferred
    cases target <;> first
      | (cases h1; done)
      | (cases n <;> first
          | (cases hp; done)
          | exact ⟨_, _, fun w => by simp only [Bool.false_and, Bool.false_eq_true, if_false, hr]; rfl⟩)
  · rename_i chain hm hd
    have hm' : fr.mode ≠ .run := fun e => by rw [hm] at e; cases e
    simp only [hst _ hm']
    simp only [Bool.and_eq_true, Bool.not_eq_true', Bool.or_eq_true] at h
    obtain ⟨h1, h2⟩ := h
    unfold unwind
    simp only [hd, hm, h1, Bool.false_eq_true, if_false]
    cases cs with
    | cons c rest => exact ⟨_, _, fun w => rfl⟩
    | nil =>
      have h3 : chain.head?.any (·.goexit) = true := by simpa using h2
      simp only [h3, if_true]
      exact ⟨_, _, fun w => rfl⟩
  · rename_i hm hd
    have hm' : fr.mode ≠ .run := fun e => by rw [hm] at e; cases e
    simp only [hst _ hm']
    simp only [Bool.and_eq_true] at h
    obtain ⟨h1, h2⟩ := h
    unfold unwind
    simp only [hd, hm]
    cases hf : P.funcs[fr.fn]? with
    | none => rw [hf] at h2; cases h2
    | some fn =>
      rw [hf] at h2
      obtain ⟨y, es', _, hr⟩ := free_runT _ h2 #[]
      simp only [hr]
      unfold doReturn
      cases cs with
      | cons c rest =>
        cases hk : fr.kind <;> rw [hk] at h1 <;> first | (cases h1; done) | exact ⟨_, _, fun w => rfl⟩
      | nil =>
        cases hk : fr.kind <;> rw [hk] at h1 <;> first | (cases h1; done) | exact ⟨_, _, fun w => rfl⟩

/-- A goroutine whose next step looks at no world. -/
def plainG (g : Goroutine) : Bool := match g.status, g.dying, g.offers with
  | .running, none, none => true
  | _, _, _ => false
def freeG (P : Program) (g : Goroutine) : Bool := plainG g && match g.frame.mode with
  | .run => freeItem g.frame || freeOper P g.frame
  | _ => freeUnwind P g.frame g.callers
theorem plainG_eq {g : Goroutine} (h : plainG g = true) : g = G g.frame g.callers := by
  obtain ⟨fr, cs, st, dy, of⟩ := g
  unfold plainG at h
  dsimp only at h
  split at h
  · rfl
  · cases h
theorem free_same {P : Program} {g : Goroutine} (h : freeG P g = true) : g.status = .running ∧ Same P g := by
  unfold freeG at h
  simp only [Bool.and_eq_true] at h
  obtain ⟨h1, h2⟩ := h
  have hg := plainG_eq h1
  refine ⟨by rw [hg]; rfl, ?_⟩
  rw [hg]
  split at h2
  · rename_i hm
    rcases Bool.or_eq_true_iff.1 h2 with h2 | h2
    · exact same_item hm h2
    · exact same_oper hm h2
  · exact same_unwind h2

/-- It ends within so many steps, each of which looks at no world and lists nothing but mute marks. -/
def frees (P : Program) : Nat → Nat → Goroutine → World → Bool
  | 0, d, g, _ => (match g.status with | .finished => true | _ => false) && (match d with | 0 => true | _ => false)
  | n + 1, d, g, w => freeG P g && match stepG P false g w with | .go g' _ es => es.toList.all Event.mute && forceG g' fun g' => frees P n (deafBehind d es) g' w | _ => false
theorem QuitsD.free {P : Program} {w : World} : ∀ {n d : Nat} {g : Goroutine}, frees P n d g w = true → QuitsD P n d g
  | 0, d, g, h => by
    simp only [frees, Bool.and_eq_true] at h
    refine ⟨?_, ?_⟩
    · have := h.1
      split at this
      · assumption
      · cases this
    · have := h.2
      split at this
      · rfl
      · cases this
  | n + 1, d, g, h => by
    simp only [frees, forceG_eq, Bool.and_eq_true] at h
    obtain ⟨hs, g', es, hst⟩ := free_same h.1
    have h2 := h.2
    rw [hst w] at h2
    simp only [Bool.and_eq_true] at h2
    exact .inr ⟨hs, g', es, fun e he => List.all_eq_true.1 h2.1 e (Array.mem_toList_iff.2 he), hst, QuitsD.free h2.2⟩
end Go.Tame
