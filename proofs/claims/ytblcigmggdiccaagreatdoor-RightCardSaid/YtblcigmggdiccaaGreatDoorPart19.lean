/- The first goroutine waits till all shards of a cluster have left: at the semaphore, and behind it. -/
import Derived.Test.YtblcigmggdiccaaGreatDoorPart07
set_option linter.unusedSectionVars false
set_option linter.unusedSimpArgs false
set_option linter.unusedVariables false
namespace Go.Proofs.Shardlog
open Go.Conc Go.Tame
set_option maxRecDepth 100000
section
variable {c : Nat} {cs : List Frame} {J : Nat → Value} {n : Int} {a0 a1 a2 a3 a4 a5 a6 a7 a8 : Nat → World} {K : World → Prop} {Stop : Nat → Goroutine → Prop} {m : Nat}
theorem c5_at (hn : Count n) : AtOp (c5 c cs J n a0 a1 a2 a3 a4) (.call { callee := .value (.func 66), args := #[.tmp 70, .tmp 71], argTypes := #[131, 4] }) ∧ ((#[Operand.tmp 70, .tmp 71].map (actOf (c5 c cs J n a0 a1 a2 a3 a4)).eval))[0]? = some (.pointer (some ⟨c, 7, none⟩)) ∧ (c5 c cs J n a0 a1 a2 a3 a4).status = .running := by
  rcases hn with rfl | rfl | rfl | rfl <;> exact ⟨⟨by kernel_rfl, by kernel_rfl, by kernel_rfl, by kernel_rfl, by kernel_rfl⟩, by kernel_rfl, by kernel_rfl⟩
/-- It waits. -/
theorem c5_wait (hn : Count n) {w : World} (hc : w.cell? ⟨c, 7, none⟩ = some (.int .u32 0)) : stepG Tryz.prog true (c5 c cs J n a0 a1 a2 a3 a4) w = .go { c5 c cs J n a0 a1 a2 a3 a4 with status := .blocked } w #[] :=
  (c5_at hn).1.semWait Tryz.ext66 (c5_at hn).2.1 hc
/-- It has been woken. -/
theorem c5_go (hn : Count n) {w : World} (hc : w.cell? ⟨c, 7, none⟩ = some (.int .u32 1)) (hz : w.frozen? ⟨c, 7, none⟩ = false) : stepG Tryz.prog true (c5 c cs J n a0 a1 a2 a3 a4) w = .go (c6 c cs J n a0 a1 a2 a3 a4) (w.setCell ⟨c, 7, none⟩ (.int .u32 0)) (semEvents ⟨c, 7, none⟩) :=
  (c5_at hn).1.semacquire Tryz.ext66 (c5_at hn).2.1 hc (by decide) hz
theorem c6_way (hn : Count n) (h : ∀ a5, Stop 1 (c7 c cs J n a0 a1 a2 a3 a4 a5)) : WayD Tryz.prog true K (fun e => e.mute = true) Stop 16 1 (c6 c cs J n a0 a1 a2 a3 a4) := by
  rcases hn with rfl | rfl | rfl | rfl
  all_goals exact WayD.seg (p := Event.mute) (n := 16) (m := 0) (d' := 1) (fun _ he => he) (fun ws => by kernel_rfl) fun a5 => h a5
theorem c7_load (hn : Count n) {w : World} (hc : w.cell? ⟨c, 6, none⟩ = some (.int .u64 0)) : stepG Tryz.prog true (c7 c cs J n a0 a1 a2 a3 a4 a5) w = .go (c8 c cs J n a0 a1 a2 a3 a4 a5) w #[⟨.cell ⟨c, 6, none⟩, false, true⟩] := by
  have h : AtOp (c7 c cs J n a0 a1 a2 a3 a4 a5) (.call { callee := .value (.func 92), args := #[.tmp 5], argTypes := #[187] }) ∧ (actOf (c7 c cs J n a0 a1 a2 a3 a4 a5)).eval (.tmp 5) = .pointer (some ⟨c, 6, none⟩) := by
    rcases hn with rfl | rfl | rfl | rfl <;> exact ⟨⟨by kernel_rfl, by kernel_rfl, by kernel_rfl, by kernel_rfl, by kernel_rfl⟩, by kernel_rfl⟩
  exact h.1.loadA Tryz.ext92 h.2 hc
theorem c8_way (hn : Count n) (hK : ∀ w, K w → ∃ x e f, w.heap[c]? = some (.cells x e f) ∧ 7 < x.size) (h : ∀ a6, WayD Tryz.prog true K (fun e => e.mute = true) Stop m 0 (c10 c cs J n a0 a1 a2 a3 a4 a5 a6)) : WayD Tryz.prog true K (fun e => e.mute = true) Stop (15 + (m + 1)) 1 (c8 c cs J n a0 a1 a2 a3 a4 a5) := by
  have hat : ∀ a6, AtOp (c9 c cs J n a0 a1 a2 a3 a4 a5 a6) (.convert 123 127 (.tmp 79)) ∧ (actOf (c9 c cs J n a0 a1 a2 a3 a4 a5 a6)).eval (.tmp 79) = .pointer (some ⟨c, 6, none⟩) ∧ (c9 c cs J n a0 a1 a2 a3 a4 a5 a6).status = .running := by
    rcases hn with rfl | rfl | rfl | rfl <;> exact fun a6 => ⟨⟨by kernel_rfl, by kernel_rfl, by kernel_rfl, by kernel_rfl, by kernel_rfl⟩, by kernel_rfl, by kernel_rfl⟩
  have k : ∀ a6, WayD Tryz.prog true K (fun e => e.mute = true) Stop (m + 1) 0 (c9 c cs J n a0 a1 a2 a3 a4 a5 a6) := fun a6 => by
    refine WayD.one (m := m) (g' := c10 c cs J n a0 a1 a2 a3 a4 a5 a6) (es := #[]) (hat a6).2.2 (fun w hw => ?_) (by simp) (h a6)
    obtain ⟨x, e, f, h1, h2⟩ := hK w hw
    exact (hat a6).1.unsafePtr (a := ⟨c, 6, none⟩) (t := 92) (n := 1) (hat a6).2.1 Tryz.und123 Tryz.und127 Tryz.size92 h1 (by show 6 < x.size; omega)
  rcases hn with rfl | rfl | rfl | rfl
  all_goals exact WayD.seg (p := Event.mute) (n := 15) (m := m + 1) (d' := 0) (fun _ he => he) (fun ws => by kernel_rfl) fun a6 => k a6
theorem c10_mark (hn : Count n) (w : World) : stepG Tryz.prog true (c10 c cs J n a0 a1 a2 a3 a4 a5 a6) w = .go (c10b c cs J n a0 a1 a2 a3 a4 a5 a6 fun _ => w) w #[⟨.mark (.acquire ⟨c, 6, none⟩), false, true⟩] := by
  rcases hn with rfl | rfl | rfl | rfl
  · have : (fun w => stepG Tryz.prog true (c10 c cs J 4294967296 a0 a1 a2 a3 a4 a5 a6) w) = fun w => .go (c10b c cs J 4294967296 a0 a1 a2 a3 a4 a5 a6 fun _ => w) w #[⟨.mark (.acquire ⟨c, 6, none⟩), false, true⟩] := by kernel_rfl
    exact congrFun this w
  · have : (fun w => stepG Tryz.prog true (c10 c cs J 8589934592 a0 a1 a2 a3 a4 a5 a6) w) = fun w => .go (c10b c cs J 8589934592 a0 a1 a2 a3 a4 a5 a6 fun _ => w) w #[⟨.mark (.acquire ⟨c, 6, none⟩), false, true⟩] := by kernel_rfl
    exact congrFun this w
  · have : (fun w => stepG Tryz.prog true (c10 c cs J 12884901888 a0 a1 a2 a3 a4 a5 a6) w) = fun w => .go (c10b c cs J 12884901888 a0 a1 a2 a3 a4 a5 a6 fun _ => w) w #[⟨.mark (.acquire ⟨c, 6, none⟩), false, true⟩] := by kernel_rfl
    exact congrFun this w
  · have : (fun w => stepG Tryz.prog true (c10 c cs J 17179869184 a0 a1 a2 a3 a4 a5 a6) w) = fun w => .go (c10b c cs J 17179869184 a0 a1 a2 a3 a4 a5 a6 fun _ => w) w #[⟨.mark (.acquire ⟨c, 6, none⟩), false, true⟩] := by kernel_rfl
    exact congrFun this w
theorem c10_way (hn : Count n) (h : ∀ a8, Stop 0 (c11 c cs J n a0 a1 a2 a3 a4 a5 a6 a7 a8)) : WayD Tryz.prog true K (fun e => e.mute = true) Stop 9 0 (c10b c cs J n a0 a1 a2 a3 a4 a5 a6 a7) := by
  rcases hn with rfl | rfl | rfl | rfl
  all_goals exact WayD.seg (p := Event.mute) (n := 9) (m := 0) (d' := 0) (fun _ he => he) (fun ws => by kernel_rfl) fun a8 => h a8
theorem c11_back (hn : Count n) (b : Frame) (w : World) : stepG Tryz.prog true (c11 c (b :: cs) J n a0 a1 a2 a3 a4 a5 a6 a7 a8) w = .go (G (b.finish (.tuple #[])) cs) w #[] := by
  rcases hn with rfl | rfl | rfl | rfl
  · have : (fun w => stepG Tryz.prog true (c11 c (b :: cs) J 4294967296 a0 a1 a2 a3 a4 a5 a6 a7 a8) w) = fun w => .go (G (b.finish (.tuple #[])) cs) w #[] := by kernel_rfl
    exact congrFun this w
  · have : (fun w => stepG Tryz.prog true (c11 c (b :: cs) J 8589934592 a0 a1 a2 a3 a4 a5 a6 a7 a8) w) = fun w => .go (G (b.finish (.tuple #[])) cs) w #[] := by kernel_rfl
    exact congrFun this w
  · have : (fun w => stepG Tryz.prog true (c11 c (b :: cs) J 12884901888 a0 a1 a2 a3 a4 a5 a6 a7 a8) w) = fun w => .go (G (b.finish (.tuple #[])) cs) w #[] := by kernel_rfl
    exact congrFun this w
  · have : (fun w => stepG Tryz.prog true (c11 c (b :: cs) J 17179869184 a0 a1 a2 a3 a4 a5 a6 a7 a8) w) = fun w => .go (G (b.finish (.tuple #[])) cs) w #[] := by kernel_rfl
    exact congrFun this w
end
end Go.Proofs.Shardlog
