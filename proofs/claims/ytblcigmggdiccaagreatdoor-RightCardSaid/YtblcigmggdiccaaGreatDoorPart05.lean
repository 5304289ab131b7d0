/- A shard's goroutine: from its birth to its seat; from its seat, the cluster being stopped, to its end. -/
import Derived.Test.YtblcigmggdiccaaGreatDoorPart04
import Derived.Test.YtblcigmggdiccaaGreatDoorChecked
import Derived.Conc.TokenWalk
set_option linter.unusedSectionVars false
set_option linter.unusedSimpArgs false
set_option linter.unusedVariables false
namespace Go.Tame
open Go.Conc
section
variable {P : Program} {main : Bool} {K : World → Prop} {E : Event → Prop} {Stop : Nat → Goroutine → Prop} {m d : Nat} {g : Goroutine}
/-- A load on the way. -/
theorem WayD.load {t : TypeId} {x : Operand} {a : Addr} {v : Value} {ds : TypeDesc} (hs : (match g.status with | .running => true | _ => false) = true) (h : AtOp g (.load t x)) (hx : (actOf g).eval x = .pointer (some a)) (hd : P.underlying t = some ds) (hone : (match ds with | .struct _ | .array _ _ => false | _ => true) = true)
    (hq : (P.funcs[g.frame.fn]?).any (·.norace) = false) (hK : ∀ w, K w → w.cell? a = some v) (hE : E ⟨.cell a, false, false⟩) (k : WayD P main K E Stop m d (putOf g v)) : WayD P main K E Stop (m + 1) d g := by
  refine WayD.one (g' := putOf g v) (es := #[⟨.cell a, false, false⟩]) (by split at hs <;> first | assumption | cases hs) (fun w hw => h.load hx hd hone hq (hK w hw)) (fun e he => ?_) ?_
  · have : e = ⟨.cell a, false, false⟩ := by simpa using he
    subst this; exact hE
  · exact k
/-- A draw on the way. -/
theorem WayD.draw (hs : (match g.status with | .running => true | _ => false) = true) (hv : g = G (g.frame.at (actOf g) (.code (.region (drawId g) (drawOps g) true) :: tailOf g)) g.callers) (hm : P.follows .mixedOrders = true) {p : List Nat → Bool} (hp : anyL (drawOps g) p (drawOps g).size (Array.replicate (drawOps g).size false) [] = true)
    (k : ∀ l, p l = true → WayD P main K E Stop m d (ordered g l)) : WayD P main K E Stop (m + 1) d g := by
  refine .inr ⟨(by split at hs <;> first | assumption | cases hs), fun w _ => ?_⟩
  obtain ⟨t, ht⟩ := draw_step (P := P) (main := main) hv w
  exact ⟨_, _, _, ht, by simp, k _ (schedule_any hm hp t)⟩
/-- As 'Goes'. -/
theorem WayD.goes {Still : Loc → Prop} {B : Nat} {Stop' : Goroutine → World → Prop} (hat : ∀ w x, K w → K (w.at x)) (hS : ∀ d g w, Stop d g → Stop' g w) : ∀ {m d : Nat} {g : Goroutine} {w : World}, WayD P main K (EvC Still B) Stop m d g → Goes P main (RK K) (DQ Still B) Stop' m g w
  | 0, _, _, _, h => fun w₁ _ => hS _ _ w₁ h
  | m + 1, d, g, w, h => by
    rcases h with h | ⟨hs, h⟩
    · exact .inl fun w₁ _ => hS _ _ w₁ h
    · refine .inr ⟨hs, fun w₁ h₁ => ?_⟩
      obtain ⟨g', x, es, h1, h2, h3⟩ := h w₁ h₁
      rw [h1, goes_go]
      exact ⟨⟨⟨x, rfl⟩, h2⟩, WayD.goes hat hS h3⟩
end
end Go.Tame

namespace Go.Proofs.Shardlog
open Go.Conc Go.Tame

theorem Tryz.und23 : Tryz.prog.underlying 23 = some (.pointer 94) := by kernel_rfl
theorem Tryz.und100 : Tryz.prog.underlying 100 = some (.pointer 154) := by kernel_rfl
theorem Tryz.und85 : Tryz.prog.underlying 85 = some (.chan .both 73) := by kernel_rfl
theorem Tryz.und150 : Tryz.prog.underlying 150 = some (.chan .both 1) := by kernel_rfl
theorem Tryz.mixed : Tryz.prog.follows .mixedOrders = true := by kernel_rfl

section
variable (cb sb c s D W : Nat) (w0 w1 : Nat → World) (w2 : Nat → Nat → World) (w3 w4 : Nat → World)
/-- The goroutine as it is born: the function literal with the two variables that it captures. -/
noncomputable def call39 : Deferred := { target := .fn (.func 39) #[.pointer (some ⟨cb, 0, none⟩), .pointer (some ⟨sb, 0, none⟩)], args := #[] }
noncomputable def born0 : Goroutine := born Tryz.prog (call39 cb sb)
noncomputable def b1 : Goroutine := fin Tryz.prog false 3 (born0 cb sb) w0
noncomputable def b2 : Goroutine := putOf (b1 cb sb w0) (.pointer (some ⟨c, 0, none⟩))
noncomputable def b3 : Goroutine := fin Tryz.prog false 4 (b2 cb sb c w0) w1
end
noncomputable def o0_0 (cb sb c _s _D : Nat) (w0 w1 : Nat → World) (_w2 : Nat → Nat → World) : Goroutine := ordered (b3 cb sb c w0 w1) [0, 1, 2, 3, 4, 5]
noncomputable def o0_1 (cb sb c s D : Nat) (w0 w1 : Nat → World) (w2 : Nat → Nat → World) : Goroutine := putOf (o0_0 cb sb c s D w0 w1 w2) (.pointer (some ⟨s, 0, none⟩))
noncomputable def o0_2 (cb sb c s D : Nat) (w0 w1 : Nat → World) (w2 : Nat → Nat → World) : Goroutine := putOf (o0_1 cb sb c s D w0 w1 w2) (.pointer (some ⟨c, 0, none⟩))
noncomputable def o0_3 (cb sb c s D : Nat) (w0 w1 : Nat → World) (w2 : Nat → Nat → World) : Goroutine := fin Tryz.prog false 2 (o0_2 cb sb c s D w0 w1 w2) (w2 3)
noncomputable def o0_4 (cb sb c s D : Nat) (w0 w1 : Nat → World) (w2 : Nat → Nat → World) : Goroutine := putOf (o0_3 cb sb c s D w0 w1 w2) (.chan (some D))
noncomputable def o1_0 (cb sb c _s _D : Nat) (w0 w1 : Nat → World) (_w2 : Nat → Nat → World) : Goroutine := ordered (b3 cb sb c w0 w1) [1, 0, 2, 3, 4, 5]
noncomputable def o1_1 (cb sb c s D : Nat) (w0 w1 : Nat → World) (w2 : Nat → Nat → World) : Goroutine := putOf (o1_0 cb sb c s D w0 w1 w2) (.pointer (some ⟨c, 0, none⟩))
noncomputable def o1_2 (cb sb c s D : Nat) (w0 w1 : Nat → World) (w2 : Nat → Nat → World) : Goroutine := putOf (o1_1 cb sb c s D w0 w1 w2) (.pointer (some ⟨s, 0, none⟩))
noncomputable def o1_3 (cb sb c s D : Nat) (w0 w1 : Nat → World) (w2 : Nat → Nat → World) : Goroutine := fin Tryz.prog false 2 (o1_2 cb sb c s D w0 w1 w2) (w2 3)
noncomputable def o1_4 (cb sb c s D : Nat) (w0 w1 : Nat → World) (w2 : Nat → Nat → World) : Goroutine := putOf (o1_3 cb sb c s D w0 w1 w2) (.chan (some D))
noncomputable def o2_0 (cb sb c _s _D : Nat) (w0 w1 : Nat → World) (_w2 : Nat → Nat → World) : Goroutine := ordered (b3 cb sb c w0 w1) [1, 2, 0, 3, 4, 5]
noncomputable def o2_1 (cb sb c s D : Nat) (w0 w1 : Nat → World) (w2 : Nat → Nat → World) : Goroutine := putOf (o2_0 cb sb c s D w0 w1 w2) (.pointer (some ⟨c, 0, none⟩))
noncomputable def o2_2 (cb sb c s D : Nat) (w0 w1 : Nat → World) (w2 : Nat → Nat → World) : Goroutine := fin Tryz.prog false 1 (o2_1 cb sb c s D w0 w1 w2) (w2 2)
noncomputable def o2_3 (cb sb c s D : Nat) (w0 w1 : Nat → World) (w2 : Nat → Nat → World) : Goroutine := putOf (o2_2 cb sb c s D w0 w1 w2) (.pointer (some ⟨s, 0, none⟩))
noncomputable def o2_4 (cb sb c s D : Nat) (w0 w1 : Nat → World) (w2 : Nat → Nat → World) : Goroutine := fin Tryz.prog false 1 (o2_3 cb sb c s D w0 w1 w2) (w2 4)
noncomputable def o2_5 (cb sb c s D : Nat) (w0 w1 : Nat → World) (w2 : Nat → Nat → World) : Goroutine := putOf (o2_4 cb sb c s D w0 w1 w2) (.chan (some D))
noncomputable def o3_0 (cb sb c _s _D : Nat) (w0 w1 : Nat → World) (_w2 : Nat → Nat → World) : Goroutine := ordered (b3 cb sb c w0 w1) [1, 2, 3, 0, 4, 5]
noncomputable def o3_1 (cb sb c s D : Nat) (w0 w1 : Nat → World) (w2 : Nat → Nat → World) : Goroutine := putOf (o3_0 cb sb c s D w0 w1 w2) (.pointer (some ⟨c, 0, none⟩))
noncomputable def o3_2 (cb sb c s D : Nat) (w0 w1 : Nat → World) (w2 : Nat → Nat → World) : Goroutine := fin Tryz.prog false 2 (o3_1 cb sb c s D w0 w1 w2) (w2 2)
noncomputable def o3_3 (cb sb c s D : Nat) (w0 w1 : Nat → World) (w2 : Nat → Nat → World) : Goroutine := putOf (o3_2 cb sb c s D w0 w1 w2) (.pointer (some ⟨s, 0, none⟩))
noncomputable def o3_4 (cb sb c s D : Nat) (w0 w1 : Nat → World) (w2 : Nat → Nat → World) : Goroutine := putOf (o3_3 cb sb c s D w0 w1 w2) (.chan (some D))
noncomputable def o4_0 (cb sb c _s _D : Nat) (w0 w1 : Nat → World) (_w2 : Nat → Nat → World) : Goroutine := ordered (b3 cb sb c w0 w1) [1, 2, 3, 4, 0, 5]
noncomputable def o4_1 (cb sb c s D : Nat) (w0 w1 : Nat → World) (w2 : Nat → Nat → World) : Goroutine := putOf (o4_0 cb sb c s D w0 w1 w2) (.pointer (some ⟨c, 0, none⟩))
noncomputable def o4_2 (cb sb c s D : Nat) (w0 w1 : Nat → World) (w2 : Nat → Nat → World) : Goroutine := fin Tryz.prog false 2 (o4_1 cb sb c s D w0 w1 w2) (w2 2)
noncomputable def o4_3 (cb sb c s D : Nat) (w0 w1 : Nat → World) (w2 : Nat → Nat → World) : Goroutine := putOf (o4_2 cb sb c s D w0 w1 w2) (.chan (some D))
noncomputable def o4_4 (cb sb c s D : Nat) (w0 w1 : Nat → World) (w2 : Nat → Nat → World) : Goroutine := putOf (o4_3 cb sb c s D w0 w1 w2) (.pointer (some ⟨s, 0, none⟩))
section
variable (cb sb c s D W : Nat) (w0 w1 : Nat → World) (w2 : Nat → Nat → World) (w3 w4 : Nat → World)
noncomputable def b5 : Goroutine := fin Tryz.prog false 10 (o0_4 cb sb c s D w0 w1 w2) w3
noncomputable def b6 : Goroutine := putOf (b5 cb sb c s D w0 w1 w2 w3) (.chan (some W))
noncomputable def b7 : Goroutine := fin Tryz.prog false 6 (b6 cb sb c s D W w0 w1 w2 w3) w4
noncomputable def seatCases : Array CommCase := #[rcase W .nilFunc, rcase D (.agg #[])]
end

set_option maxRecDepth 100000
/-- What a shard reads on its way to its seat. -/
structure Reads (cb sb c s D W : Nat) (w : World) : Prop where
  cb : w.cell? ⟨cb, 0, none⟩ = some (.pointer (some ⟨c, 0, none⟩))
  sb : w.cell? ⟨sb, 0, none⟩ = some (.pointer (some ⟨s, 0, none⟩))
  done : w.cell? ⟨c, 5, none⟩ = some (.chan (some D))
  work : w.cell? ⟨s, 16, none⟩ = some (.chan (some W))

section
variable {cb sb c s D W : Nat} {w0 w1 : Nat → World} {w2 : Nat → Nat → World} {w3 w4 : Nat → World} {K : World → Prop} {Still : Loc → Prop} {B : Nat} {Stop : Nat → Goroutine → Prop}
theorem silent (e : Event) (h : (fun _ : Event => false) e = true) : EvC Still B e := by cases h
/-- The worker at its select. -/
theorem b7_sel (w : World) : stepG Tryz.prog false (b7 cb sb c s D W w0 w1 w2 w3 w4) w = .comm (b7 cb sb c s D W w0 w1 w2 w3 w4) (seatCases D W) true .select w #[] := by
  have : (fun w => stepG Tryz.prog false (b7 cb sb c s D W w0 w1 w2 w3 w4) w) = fun w => .comm (b7 cb sb c s D W w0 w1 w2 w3 w4) (seatCases D W) true .select w #[] := by kernel_rfl
  exact congrFun this w
theorem way5 (hR : ∀ w, K w → Reads cb sb c s D W w) (hE : ∀ a : Addr, a = ⟨cb, 0, none⟩ ∨ a = ⟨sb, 0, none⟩ ∨ a = ⟨c, 5, none⟩ ∨ a = ⟨s, 16, none⟩ → EvC Still B ⟨.cell a, false, false⟩) (h : ∀ w3 w4, Stop 0 (b7 cb sb c s D W w0 w1 w2 w3 w4)) :
    WayD Tryz.prog false K (EvC Still B) Stop 17 0 (o0_4 cb sb c s D w0 w1 w2) := by
  refine WayD.seg (n := 10) (m := 7) (d' := 0) silent (fun ws => by kernel_rfl) fun w3 => ?_
  refine WayD.load (g := b5 cb sb c s D w0 w1 w2 w3) (t := 150) (x := .tmp 8) (a := ⟨s, 16, none⟩) (v := .chan (some W)) (by kernel_rfl) ⟨by kernel_rfl, by kernel_rfl, by kernel_rfl, by kernel_rfl, by kernel_rfl⟩ (by kernel_rfl) Tryz.und150 rfl (by kernel_rfl) (fun w hw => (hR w hw).work) (hE _ (by simp)) ?_
  refine WayD.seg (n := 6) (m := 0) (d' := 0) (g := b6 cb sb c s D W w0 w1 w2 w3) silent (fun ws => by kernel_rfl) fun w4 => ?_
  exact h w3 w4
theorem order0 (hR : ∀ w, K w → Reads cb sb c s D W w) (hE : ∀ a : Addr, a = ⟨cb, 0, none⟩ ∨ a = ⟨sb, 0, none⟩ ∨ a = ⟨c, 5, none⟩ ∨ a = ⟨s, 16, none⟩ → EvC Still B ⟨.cell a, false, false⟩) (h : ∀ w2 w3 w4, Stop 0 (b7 cb sb c s D W w0 w1 w2 w3 w4)) :
    WayD Tryz.prog false K (EvC Still B) Stop 22 0 (o0_0 cb sb c s D w0 w1 (fun _ _ => default)) := by
  refine WayD.load (m := 21) (g := o0_0 cb sb c s D w0 w1 (fun _ _ => default)) (t := 100) (x := .tmp 1) (a := ⟨sb, 0, none⟩) (v := .pointer (some ⟨s, 0, none⟩)) (by kernel_rfl) ⟨by kernel_rfl, by kernel_rfl, by kernel_rfl, by kernel_rfl, by kernel_rfl⟩ (by kernel_rfl) Tryz.und100 rfl (by kernel_rfl) (fun w hw => (hR w hw).sb) (hE _ (by simp)) ?_
  refine WayD.load (m := 20) (g := o0_1 cb sb c s D w0 w1 (fun _ _ => default)) (t := 23) (x := .tmp 0) (a := ⟨cb, 0, none⟩) (v := .pointer (some ⟨c, 0, none⟩)) (by kernel_rfl) ⟨by kernel_rfl, by kernel_rfl, by kernel_rfl, by kernel_rfl, by kernel_rfl⟩ (by kernel_rfl) Tryz.und23 rfl (by kernel_rfl) (fun w hw => (hR w hw).cb) (hE _ (by simp)) ?_
  refine WayD.seg (n := 2) (m := 18) (d' := 0) (g := o0_2 cb sb c s D w0 w1 (fun _ _ => default)) silent (fun ws => by kernel_rfl) fun v3 => ?_
  refine WayD.load (m := 17) (g := o0_3 cb sb c s D w0 w1 (fun i => if i = 3 then v3 else fun _ => default)) (t := 85) (x := .tmp 8) (a := ⟨c, 5, none⟩) (v := .chan (some D)) (by kernel_rfl) ⟨by kernel_rfl, by kernel_rfl, by kernel_rfl, by kernel_rfl, by kernel_rfl⟩ (by kernel_rfl) Tryz.und85 rfl (by kernel_rfl) (fun w hw => (hR w hw).done) (hE _ (by simp)) ?_
  exact way5 (w2 := (fun i => if i = 3 then v3 else fun _ => default)) hR hE fun w3 w4 => h _ w3 w4
theorem order1 (hR : ∀ w, K w → Reads cb sb c s D W w) (hE : ∀ a : Addr, a = ⟨cb, 0, none⟩ ∨ a = ⟨sb, 0, none⟩ ∨ a = ⟨c, 5, none⟩ ∨ a = ⟨s, 16, none⟩ → EvC Still B ⟨.cell a, false, false⟩) (h : ∀ w2 w3 w4, Stop 0 (b7 cb sb c s D W w0 w1 w2 w3 w4)) :
    WayD Tryz.prog false K (EvC Still B) Stop 22 0 (o1_0 cb sb c s D w0 w1 (fun _ _ => default)) := by
  refine WayD.load (m := 21) (g := o1_0 cb sb c s D w0 w1 (fun _ _ => default)) (t := 23) (x := .tmp 0) (a := ⟨cb, 0, none⟩) (v := .pointer (some ⟨c, 0, none⟩)) (by kernel_rfl) ⟨by kernel_rfl, by kernel_rfl, by kernel_rfl, by kernel_rfl, by kernel_rfl⟩ (by kernel_rfl) Tryz.und23 rfl (by kernel_rfl) (fun w hw => (hR w hw).cb) (hE _ (by simp)) ?_
  refine WayD.load (m := 20) (g := o1_1 cb sb c s D w0 w1 (fun _ _ => default)) (t := 100) (x := .tmp 1) (a := ⟨sb, 0, none⟩) (v := .pointer (some ⟨s, 0, none⟩)) (by kernel_rfl) ⟨by kernel_rfl, by kernel_rfl, by kernel_rfl, by kernel_rfl, by kernel_rfl⟩ (by kernel_rfl) Tryz.und100 rfl (by kernel_rfl) (fun w hw => (hR w hw).sb) (hE _ (by simp)) ?_
  refine WayD.seg (n := 2) (m := 18) (d' := 0) (g := o1_2 cb sb c s D w0 w1 (fun _ _ => default)) silent (fun ws => by kernel_rfl) fun v3 => ?_
  refine WayD.load (m := 17) (g := o1_3 cb sb c s D w0 w1 (fun i => if i = 3 then v3 else fun _ => default)) (t := 85) (x := .tmp 8) (a := ⟨c, 5, none⟩) (v := .chan (some D)) (by kernel_rfl) ⟨by kernel_rfl, by kernel_rfl, by kernel_rfl, by kernel_rfl, by kernel_rfl⟩ (by kernel_rfl) Tryz.und85 rfl (by kernel_rfl) (fun w hw => (hR w hw).done) (hE _ (by simp)) ?_
  have e : o1_4 cb sb c s D w0 w1 (fun i => if i = 3 then v3 else fun _ => default) = o0_4 cb sb c s D w0 w1 (fun _ _ => default) := by kernel_rfl
  have := way5 (w2 := fun _ _ => default) (w0 := w0) (w1 := w1) hR hE (Stop := Stop) fun w3 w4 => h _ w3 w4
  rw [← e] at this
  exact this
theorem order2 (hR : ∀ w, K w → Reads cb sb c s D W w) (hE : ∀ a : Addr, a = ⟨cb, 0, none⟩ ∨ a = ⟨sb, 0, none⟩ ∨ a = ⟨c, 5, none⟩ ∨ a = ⟨s, 16, none⟩ → EvC Still B ⟨.cell a, false, false⟩) (h : ∀ w2 w3 w4, Stop 0 (b7 cb sb c s D W w0 w1 w2 w3 w4)) :
    WayD Tryz.prog false K (EvC Still B) Stop 22 0 (o2_0 cb sb c s D w0 w1 (fun _ _ => default)) := by
  refine WayD.load (m := 21) (g := o2_0 cb sb c s D w0 w1 (fun _ _ => default)) (t := 23) (x := .tmp 0) (a := ⟨cb, 0, none⟩) (v := .pointer (some ⟨c, 0, none⟩)) (by kernel_rfl) ⟨by kernel_rfl, by kernel_rfl, by kernel_rfl, by kernel_rfl, by kernel_rfl⟩ (by kernel_rfl) Tryz.und23 rfl (by kernel_rfl) (fun w hw => (hR w hw).cb) (hE _ (by simp)) ?_
  refine WayD.seg (n := 1) (m := 20) (d' := 0) (g := o2_1 cb sb c s D w0 w1 (fun _ _ => default)) silent (fun ws => by kernel_rfl) fun v2 => ?_
  refine WayD.load (m := 19) (g := o2_2 cb sb c s D w0 w1 (fun i => if i = 2 then v2 else fun _ => default)) (t := 100) (x := .tmp 1) (a := ⟨sb, 0, none⟩) (v := .pointer (some ⟨s, 0, none⟩)) (by kernel_rfl) ⟨by kernel_rfl, by kernel_rfl, by kernel_rfl, by kernel_rfl, by kernel_rfl⟩ (by kernel_rfl) Tryz.und100 rfl (by kernel_rfl) (fun w hw => (hR w hw).sb) (hE _ (by simp)) ?_
  refine WayD.seg (n := 1) (m := 18) (d' := 0) (g := o2_3 cb sb c s D w0 w1 (fun i => if i = 2 then v2 else fun _ => default)) silent (fun ws => by kernel_rfl) fun v4 => ?_
  refine WayD.load (m := 17) (g := o2_4 cb sb c s D w0 w1 (fun i => if i = 2 then v2 else if i = 4 then v4 else fun _ => default)) (t := 85) (x := .tmp 8) (a := ⟨c, 5, none⟩) (v := .chan (some D)) (by kernel_rfl) ⟨by kernel_rfl, by kernel_rfl, by kernel_rfl, by kernel_rfl, by kernel_rfl⟩ (by kernel_rfl) Tryz.und85 rfl (by kernel_rfl) (fun w hw => (hR w hw).done) (hE _ (by simp)) ?_
  have e : o2_5 cb sb c s D w0 w1 (fun i => if i = 2 then v2 else if i = 4 then v4 else fun _ => default) = o0_4 cb sb c s D w0 w1 (fun _ _ => default) := by kernel_rfl
  have := way5 (w2 := fun _ _ => default) (w0 := w0) (w1 := w1) hR hE (Stop := Stop) fun w3 w4 => h _ w3 w4
  rw [← e] at this
  exact this
theorem order3 (hR : ∀ w, K w → Reads cb sb c s D W w) (hE : ∀ a : Addr, a = ⟨cb, 0, none⟩ ∨ a = ⟨sb, 0, none⟩ ∨ a = ⟨c, 5, none⟩ ∨ a = ⟨s, 16, none⟩ → EvC Still B ⟨.cell a, false, false⟩) (h : ∀ w2 w3 w4, Stop 0 (b7 cb sb c s D W w0 w1 w2 w3 w4)) :
    WayD Tryz.prog false K (EvC Still B) Stop 22 0 (o3_0 cb sb c s D w0 w1 (fun _ _ => default)) := by
  refine WayD.load (m := 21) (g := o3_0 cb sb c s D w0 w1 (fun _ _ => default)) (t := 23) (x := .tmp 0) (a := ⟨cb, 0, none⟩) (v := .pointer (some ⟨c, 0, none⟩)) (by kernel_rfl) ⟨by kernel_rfl, by kernel_rfl, by kernel_rfl, by kernel_rfl, by kernel_rfl⟩ (by kernel_rfl) Tryz.und23 rfl (by kernel_rfl) (fun w hw => (hR w hw).cb) (hE _ (by simp)) ?_
  refine WayD.seg (n := 2) (m := 19) (d' := 0) (g := o3_1 cb sb c s D w0 w1 (fun _ _ => default)) silent (fun ws => by kernel_rfl) fun v2 => ?_
  refine WayD.load (m := 18) (g := o3_2 cb sb c s D w0 w1 (fun i => if i = 2 then v2 else fun _ => default)) (t := 100) (x := .tmp 1) (a := ⟨sb, 0, none⟩) (v := .pointer (some ⟨s, 0, none⟩)) (by kernel_rfl) ⟨by kernel_rfl, by kernel_rfl, by kernel_rfl, by kernel_rfl, by kernel_rfl⟩ (by kernel_rfl) Tryz.und100 rfl (by kernel_rfl) (fun w hw => (hR w hw).sb) (hE _ (by simp)) ?_
  refine WayD.load (m := 17) (g := o3_3 cb sb c s D w0 w1 (fun i => if i = 2 then v2 else fun _ => default)) (t := 85) (x := .tmp 8) (a := ⟨c, 5, none⟩) (v := .chan (some D)) (by kernel_rfl) ⟨by kernel_rfl, by kernel_rfl, by kernel_rfl, by kernel_rfl, by kernel_rfl⟩ (by kernel_rfl) Tryz.und85 rfl (by kernel_rfl) (fun w hw => (hR w hw).done) (hE _ (by simp)) ?_
  have e : o3_4 cb sb c s D w0 w1 (fun i => if i = 2 then v2 else fun _ => default) = o0_4 cb sb c s D w0 w1 (fun _ _ => default) := by kernel_rfl
  have := way5 (w2 := fun _ _ => default) (w0 := w0) (w1 := w1) hR hE (Stop := Stop) fun w3 w4 => h _ w3 w4
  rw [← e] at this
  exact this
theorem order4 (hR : ∀ w, K w → Reads cb sb c s D W w) (hE : ∀ a : Addr, a = ⟨cb, 0, none⟩ ∨ a = ⟨sb, 0, none⟩ ∨ a = ⟨c, 5, none⟩ ∨ a = ⟨s, 16, none⟩ → EvC Still B ⟨.cell a, false, false⟩) (h : ∀ w2 w3 w4, Stop 0 (b7 cb sb c s D W w0 w1 w2 w3 w4)) :
    WayD Tryz.prog false K (EvC Still B) Stop 22 0 (o4_0 cb sb c s D w0 w1 (fun _ _ => default)) := by
  refine WayD.load (m := 21) (g := o4_0 cb sb c s D w0 w1 (fun _ _ => default)) (t := 23) (x := .tmp 0) (a := ⟨cb, 0, none⟩) (v := .pointer (some ⟨c, 0, none⟩)) (by kernel_rfl) ⟨by kernel_rfl, by kernel_rfl, by kernel_rfl, by kernel_rfl, by kernel_rfl⟩ (by kernel_rfl) Tryz.und23 rfl (by kernel_rfl) (fun w hw => (hR w hw).cb) (hE _ (by simp)) ?_
  refine WayD.seg (n := 2) (m := 19) (d' := 0) (g := o4_1 cb sb c s D w0 w1 (fun _ _ => default)) silent (fun ws => by kernel_rfl) fun v2 => ?_
  refine WayD.load (m := 18) (g := o4_2 cb sb c s D w0 w1 (fun i => if i = 2 then v2 else fun _ => default)) (t := 85) (x := .tmp 8) (a := ⟨c, 5, none⟩) (v := .chan (some D)) (by kernel_rfl) ⟨by kernel_rfl, by kernel_rfl, by kernel_rfl, by kernel_rfl, by kernel_rfl⟩ (by kernel_rfl) Tryz.und85 rfl (by kernel_rfl) (fun w hw => (hR w hw).done) (hE _ (by simp)) ?_
  refine WayD.load (m := 17) (g := o4_3 cb sb c s D w0 w1 (fun i => if i = 2 then v2 else fun _ => default)) (t := 100) (x := .tmp 1) (a := ⟨sb, 0, none⟩) (v := .pointer (some ⟨s, 0, none⟩)) (by kernel_rfl) ⟨by kernel_rfl, by kernel_rfl, by kernel_rfl, by kernel_rfl, by kernel_rfl⟩ (by kernel_rfl) Tryz.und100 rfl (by kernel_rfl) (fun w hw => (hR w hw).sb) (hE _ (by simp)) ?_
  have e : o4_4 cb sb c s D w0 w1 (fun i => if i = 2 then v2 else fun _ => default) = o0_4 cb sb c s D w0 w1 (fun _ _ => default) := by kernel_rfl
  have := way5 (w2 := fun _ _ => default) (w0 := w0) (w1 := w1) hR hE (Stop := Stop) fun w3 w4 => h _ w3 w4
  rw [← e] at this
  exact this

/-- From its birth to its seat. -/
theorem birth (hR : ∀ w, K w → Reads cb sb c s D W w) (hE : ∀ a : Addr, a = ⟨cb, 0, none⟩ ∨ a = ⟨sb, 0, none⟩ ∨ a = ⟨c, 5, none⟩ ∨ a = ⟨s, 16, none⟩ → EvC Still B ⟨.cell a, false, false⟩) (h : ∀ w0 w1 w2 w3 w4, Stop 0 (b7 cb sb c s D W w0 w1 w2 w3 w4)) :
    WayD Tryz.prog false K (EvC Still B) Stop 31 0 (born0 cb sb) := by
  refine WayD.seg (n := 3) (m := 28) (d' := 0) silent (fun ws => by kernel_rfl) fun w0 => ?_
  refine WayD.load (m := 27) (g := b1 cb sb w0) (t := 23) (x := .tmp 0) (a := ⟨cb, 0, none⟩) (v := .pointer (some ⟨c, 0, none⟩)) (by kernel_rfl) ⟨by kernel_rfl, by kernel_rfl, by kernel_rfl, by kernel_rfl, by kernel_rfl⟩ (by kernel_rfl) Tryz.und23 rfl (by kernel_rfl) (fun w hw => (hR w hw).cb) (hE _ (by simp)) ?_
  refine WayD.seg (n := 4) (m := 23) (d' := 0) (g := b2 cb sb c w0) silent (fun ws => by kernel_rfl) fun w1 => ?_
  refine WayD.draw (m := 22) (g := b3 cb sb c w0 w1) (by kernel_rfl) (by kernel_rfl) Tryz.mixed (p := fun l => [[0, 1, 2, 3, 4, 5], [1, 0, 2, 3, 4, 5], [1, 2, 0, 3, 4, 5], [1, 2, 3, 0, 4, 5], [1, 2, 3, 4, 0, 5]].contains l) (by kernel_rfl) fun l hl => ?_
  have hl' : l = [0, 1, 2, 3, 4, 5] ∨ l = [1, 0, 2, 3, 4, 5] ∨ l = [1, 2, 0, 3, 4, 5] ∨ l = [1, 2, 3, 0, 4, 5] ∨ l = [1, 2, 3, 4, 0, 5] := by simpa using hl
  rcases hl' with rfl | rfl | rfl | rfl | rfl
  · exact order0 hR hE fun w2 w3 w4 => h w0 w1 w2 w3 w4
  · exact order1 hR hE fun w2 w3 w4 => h w0 w1 w2 w3 w4
  · exact order2 hR hE fun w2 w3 w4 => h w0 w1 w2 w3 w4
  · exact order3 hR hE fun w2 w3 w4 => h w0 w1 w2 w3 w4
  · exact order4 hR hE fun w2 w3 w4 => h w0 w1 w2 w3 w4

/-! ### the way out -/
end
section
variable (cb sb c s D W : Nat) (w0 w1 : Nat → World) (w2 : Nat → Nat → World) (w3 w4 w5 w6 w7 w8 w9 : Nat → World) (r : Int)
noncomputable def l0 : Goroutine := forceG (Go.Conc.served (b7 cb sb c s D W w0 w1 w2 w3 w4) (.tuple #[goInt 1, .bool false, .nilFunc, .agg #[]])) id
noncomputable def l1 : Goroutine := fin Tryz.prog false 26 (l0 cb sb c s D W w0 w1 w2 w3 w4) w5
noncomputable def l2 : Goroutine := putOf (l1 cb sb c s D W w0 w1 w2 w3 w4 w5) (.pointer (some ⟨c, 6, none⟩))
noncomputable def l2b : Goroutine := fin Tryz.prog false 1 (l2 cb sb c s D W w0 w1 w2 w3 w4 w5) w6
noncomputable def l3 : Goroutine := fin Tryz.prog false 38 (l2b cb sb c s D W w0 w1 w2 w3 w4 w5 w6) w7
noncomputable def l4 : Goroutine := putOf (l3 cb sb c s D W w0 w1 w2 w3 w4 w5 w6 w7) (.int .u64 r)
end
set_option maxRecDepth 100000
section
variable {cb sb c s D W : Nat} {w0 w1 : Nat → World} {w2 : Nat → Nat → World} {w3 w4 w5 w6 w7 w8 w9 : Nat → World} {K : World → Prop} {Stop : Nat → Goroutine → Prop}
theorem l0_eq : Go.Conc.served (b7 cb sb c s D W w0 w1 w2 w3 w4) (.tuple #[goInt 1, .bool false, .nilFunc, .agg #[]]) = l0 cb sb c s D W w0 w1 w2 w3 w4 := by rw [l0, forceG_eq]; rfl
/-- To the mark by which it tells that it is through. -/
theorem leave0 (hK : ∀ w, K w → ∃ x e f, w.heap[c]? = some (.cells x e f) ∧ 6 < x.size) (h : ∀ w5, Stop 0 (l2 cb sb c s D W w0 w1 w2 w3 w4 w5)) : WayD Tryz.prog false K (fun _ => False) Stop 27 0 (l0 cb sb c s D W w0 w1 w2 w3 w4) := by
  refine WayD.seg (p := fun _ => false) (n := 26) (m := 1) (d' := 0) (fun e he => by cases he) (fun ws => by kernel_rfl) fun w5 => ?_
  have hat : AtOp (l1 cb sb c s D W w0 w1 w2 w3 w4 w5) (.convert 123 127 (.tmp 11)) := ⟨by kernel_rfl, by kernel_rfl, by kernel_rfl, by kernel_rfl, by kernel_rfl⟩
  refine WayD.one (m := 0) (g' := l2 cb sb c s D W w0 w1 w2 w3 w4 w5) (es := #[]) (show (l1 cb sb c s D W w0 w1 w2 w3 w4 w5).status = .running by kernel_rfl) (fun w hw => ?_) (by simp) (h w5)
  obtain ⟨x, e, f, h1, h2⟩ := hK w hw
  exact hat.unsafePtr (a := ⟨c, 6, none⟩) (t := 92) (n := 1) (by kernel_rfl) (by kernel_rfl) (by kernel_rfl) (by kernel_rfl) h1 h2
/-- The mark. -/
theorem leave1 (w : World) : stepG Tryz.prog false (l2 cb sb c s D W w0 w1 w2 w3 w4 w5) w = .go (fin Tryz.prog false 1 (l2 cb sb c s D W w0 w1 w2 w3 w4 w5) fun _ => w) w #[⟨.mark (.releaseMerge ⟨c, 6, none⟩), false, true⟩] := by
  have : (fun w => stepG Tryz.prog false (l2 cb sb c s D W w0 w1 w2 w3 w4 w5) w) = fun w => .go (fin Tryz.prog false 1 (l2 cb sb c s D W w0 w1 w2 w3 w4 w5) fun _ => w) w #[⟨.mark (.releaseMerge ⟨c, 6, none⟩), false, true⟩] := by kernel_rfl
  exact congrFun this w
/-- To the counter, deaf. -/
theorem leave2 (h : ∀ w7, Stop 1 (l3 cb sb c s D W w0 w1 w2 w3 w4 w5 w6 w7)) : WayD Tryz.prog false K (fun e => e.mute = true) Stop 38 0 (l2b cb sb c s D W w0 w1 w2 w3 w4 w5 w6) :=
  WayD.seg (p := Event.mute) (n := 38) (m := 0) (d' := 1) (fun e he => he) (fun ws => by kernel_rfl) fun w7 => h w7
theorem Tryz.ext116 : Ext Tryz.prog 116 Tryz.f116 (Extern.Atomic.update (Op.intArith .add) .u64 true) := ⟨Tryz.func116, by kernel_rfl, by kernel_rfl, by kernel_rfl, by kernel_rfl⟩
theorem l3_at : ∃ ats, AtOp (l3 cb sb c s D W w0 w1 w2 w3 w4 w5 w6 w7) (.call { callee := .value (.func 116), args := #[.tmp 7, .tmp 8], argTypes := ats }) := ⟨#[187, 88], by kernel_rfl, by kernel_rfl, by kernel_rfl, by kernel_rfl, by kernel_rfl⟩
/-- The counter goes down by one. -/
theorem leave3 {n : Int} {w : World} (hc : w.cell? ⟨c, 6, none⟩ = some (.int .u64 n)) (hz : w.frozen? ⟨c, 6, none⟩ = false) :
    stepG Tryz.prog false (l3 cb sb c s D W w0 w1 w2 w3 w4 w5 w6 w7) w = .go (l4 cb sb c s D W w0 w1 w2 w3 w4 w5 w6 w7 (IntKind.u64.wrap (n + 18446744069414584320))) (w.setCell ⟨c, 6, none⟩ (.int .u64 (IntKind.u64.wrap (n + 18446744069414584320)))) #[⟨.cell ⟨c, 6, none⟩, false, true⟩, ⟨.cell ⟨c, 6, none⟩, true, true⟩] := by
  obtain ⟨ats, h⟩ := l3_at (cb := cb) (sb := sb) (c := c) (s := s) (D := D) (W := W) (w0 := w0) (w1 := w1) (w2 := w2) (w3 := w3) (w4 := w4) (w5 := w5) (w6 := w6) (w7 := w7)
  exact h.addA Tryz.ext116 (by kernel_rfl) (by kernel_rfl) hc hz
/-- Others are still there, or nobody waits: it only leaves. -/
theorem leave4 (w : World) : (frees Tryz.prog 94 1 (l4 cb sb c s D W w0 w1 w2 w3 w4 w5 w6 w7 0) w && frees Tryz.prog 94 1 (l4 cb sb c s D W w0 w1 w2 w3 w4 w5 w6 w7 4294967296) w && frees Tryz.prog 94 1 (l4 cb sb c s D W w0 w1 w2 w3 w4 w5 w6 w7 8589934592) w && frees Tryz.prog 94 1 (l4 cb sb c s D W w0 w1 w2 w3 w4 w5 w6 w7 12884901888) w) = true := by kernel_rfl
theorem leave5 (w : World) : (frees Tryz.prog 94 1 (l4 cb sb c s D W w0 w1 w2 w3 w4 w5 w6 w7 4294967297) w && frees Tryz.prog 94 1 (l4 cb sb c s D W w0 w1 w2 w3 w4 w5 w6 w7 8589934593) w && frees Tryz.prog 94 1 (l4 cb sb c s D W w0 w1 w2 w3 w4 w5 w6 w7 12884901889) w) = true := by kernel_rfl

end
end Go.Proofs.Shardlog
