/- Several texts in one: TameWait, TameWay, TameTold, TameHall, TameRoute. -/
import Derived.Test.YtblcigmggdiccaaGreatDoorPart06
import Derived.Test.YtblcigmggdiccaaGreatDoorPart04
import Derived.Test.YtblcigmggdiccaaGreatDoorPart03
set_option linter.unusedSectionVars false
set_option linter.unusedSimpArgs false
set_option linter.unusedVariables false
/- The first goroutine waits till all shards of a cluster have left. -/
namespace Go.Proofs.Shardlog
open Go.Conc Go.Tame
/-- How many shards are still there, where nobody waits. -/
def Count (n : Int) : Prop := n = 4294967296 ∨ n = 8589934592 ∨ n = 12884901888 ∨ n = 17179869184

section
variable (c : Nat) (cs : List Frame)
noncomputable def m0 : Goroutine := G (Frame.enter Tryz.prog 34 #[.pointer (some ⟨c, 6, none⟩)] .normal) cs
noncomputable def todoLH : List Item := (fin Tryz.prog true 7 (G (Frame.enter Tryz.prog 34 #[.pointer none] .normal) []) (fun _ => default)).frame.todo
/-- At the head of the loop, whatever the last round has left. -/
noncomputable def LH (J : Nat → Value) : Goroutine := G ((base 34).at ⟨⟨.pointer (some ⟨c, 6, none⟩) :: (List.range 83).map fun i => J (i + 1)⟩, []⟩ todoLH) cs
variable (J : Nat → Value) (n : Int) (a0 a1 a2 a3 a4 a5 a6 a7 a8 a9 : Nat → World)
noncomputable def p0 : Goroutine := fin Tryz.prog true 16 (LH c cs J) a0
noncomputable def p1 : Goroutine := putOf (p0 c cs J a0) (.int .u64 n)
-- nobody is there any more
noncomputable def z1 : Goroutine := fin Tryz.prog true 35 (p1 c cs J 0 a0) a1
noncomputable def z2 : Goroutine := putOf (z1 c cs J a0 a1) (.pointer (some ⟨c, 6, none⟩))
noncomputable def z2b : Goroutine := fin Tryz.prog true 1 (z2 c cs J a0 a1) a2
noncomputable def z3 : Goroutine := fin Tryz.prog true 19 (z2b c cs J a0 a1 a2) a3
-- somebody is
noncomputable def c1 : Goroutine := fin Tryz.prog true 48 (p1 c cs J n a0) a1
noncomputable def c2 : Goroutine := putOf (c1 c cs J n a0 a1) (.bool true)
noncomputable def d2 : Goroutine := putOf (c1 c cs J n a0 a1) (.bool false)
noncomputable def c3 : Goroutine := fin Tryz.prog true 19 (c2 c cs J n a0 a1) a2
noncomputable def c4 : Goroutine := putOf (c3 c cs J n a0 a1 a2) (.pointer (some ⟨c, 7, none⟩))
noncomputable def c4b : Goroutine := fin Tryz.prog true 1 (c4 c cs J n a0 a1 a2) a3
noncomputable def c5 : Goroutine := fin Tryz.prog true 23 (c4b c cs J n a0 a1 a2 a3) a4
noncomputable def c6 : Goroutine := putOf (c5 c cs J n a0 a1 a2 a3 a4) (.tuple #[])
noncomputable def c7 : Goroutine := fin Tryz.prog true 16 (c6 c cs J n a0 a1 a2 a3 a4) a5
noncomputable def c8 : Goroutine := putOf (c7 c cs J n a0 a1 a2 a3 a4 a5) (.int .u64 0)
noncomputable def c9 : Goroutine := fin Tryz.prog true 15 (c8 c cs J n a0 a1 a2 a3 a4 a5) a6
noncomputable def c10 : Goroutine := putOf (c9 c cs J n a0 a1 a2 a3 a4 a5 a6) (.pointer (some ⟨c, 6, none⟩))
noncomputable def c10b : Goroutine := fin Tryz.prog true 1 (c10 c cs J n a0 a1 a2 a3 a4 a5 a6) a7
noncomputable def c11 : Goroutine := fin Tryz.prog true 9 (c10b c cs J n a0 a1 a2 a3 a4 a5 a6 a7) a8
end

set_option maxRecDepth 100000
section
variable {c : Nat} {cs : List Frame} {J : Nat → Value} {n : Int} {a0 a1 a2 a3 a4 a5 a6 a7 a8 : Nat → World} {K : World → Prop} {Stop : Nat → Goroutine → Prop} {m : Nat}
theorem w_begin (h : WayD Tryz.prog true K (fun e => e.mute = true) Stop m 1 (LH c cs fun _ => undef)) : WayD Tryz.prog true K (fun e => e.mute = true) Stop (7 + m) 0 (m0 c cs) := by
  refine WayD.seg (p := Event.mute) (n := 7) (d' := 1) (fun _ he => he) (fun ws => by kernel_rfl) fun ws => ?_
  have e : fin Tryz.prog true 7 (m0 c cs) ws = LH c cs fun _ => undef := by kernel_rfl
  rw [e]; exact h
theorem w_load (h : ∀ a0, WayD Tryz.prog true K (fun e => e.mute = true) Stop m 1 (p0 c cs J a0)) : WayD Tryz.prog true K (fun e => e.mute = true) Stop (16 + m) 1 (LH c cs J) :=
  WayD.seg (p := Event.mute) (n := 16) (d' := 1) (fun _ he => he) (fun ws => by kernel_rfl) h
theorem p0_load {w : World} (hc : w.cell? ⟨c, 6, none⟩ = some (.int .u64 n)) : stepG Tryz.prog true (p0 c cs J a0) w = .go (p1 c cs J n a0) w #[⟨.cell ⟨c, 6, none⟩, false, true⟩] := by
  have h : AtOp (p0 c cs J a0) (.call { callee := .value (.func 92), args := #[.tmp 5], argTypes := #[187] }) := ⟨by kernel_rfl, by kernel_rfl, by kernel_rfl, by kernel_rfl, by kernel_rfl⟩
  exact h.loadA Tryz.ext92 (by kernel_rfl) hc
theorem Tryz.und123 : Tryz.prog.underlying 123 = some (.pointer 92) := by kernel_rfl
theorem Tryz.und127 : Tryz.prog.underlying 127 = some .unsafePointer := by kernel_rfl
theorem Tryz.size92 : (Tryz.prog.info? 92).map (·.size) = some 2 := by kernel_rfl
theorem Tryz.und131 : Tryz.prog.underlying 131 = some (.pointer 75) := by kernel_rfl
theorem Tryz.size75 : (Tryz.prog.info? 75).map (·.size) = some 1 := by kernel_rfl
/-- Nobody is there any more: to the mark by which it hears. -/
theorem z_way (hK : ∀ w, K w → ∃ x e f, w.heap[c]? = some (.cells x e f) ∧ 7 < x.size) (h : ∀ a1, WayD Tryz.prog true K (fun e => e.mute = true) Stop m 0 (z2 c cs J a0 a1)) : WayD Tryz.prog true K (fun e => e.mute = true) Stop (35 + (m + 1)) 1 (p1 c cs J 0 a0) := by
  refine WayD.seg (p := Event.mute) (n := 35) (m := m + 1) (d' := 0) (fun _ he => he) (fun ws => by kernel_rfl) fun a1 => ?_
  have hat : AtOp (z1 c cs J a0 a1) (.convert 123 127 (.tmp 21)) := ⟨by kernel_rfl, by kernel_rfl, by kernel_rfl, by kernel_rfl, by kernel_rfl⟩
  refine WayD.one (m := m) (g' := z2 c cs J a0 a1) (es := #[]) (show (z1 c cs J a0 a1).status = .running by kernel_rfl) (fun w hw => ?_) (by simp) (h a1)
  obtain ⟨x, e, f, h1, h2⟩ := hK w hw
  exact hat.unsafePtr (a := ⟨c, 6, none⟩) (t := 92) (n := 1) (by kernel_rfl) Tryz.und123 Tryz.und127 Tryz.size92 h1 (by show 6 < x.size; omega)
theorem z_mark (w : World) : stepG Tryz.prog true (z2 c cs J a0 a1) w = .go (z2b c cs J a0 a1 fun _ => w) w #[⟨.mark (.acquire ⟨c, 6, none⟩), false, true⟩] := by
  have : (fun w => stepG Tryz.prog true (z2 c cs J a0 a1) w) = fun w => .go (z2b c cs J a0 a1 fun _ => w) w #[⟨.mark (.acquire ⟨c, 6, none⟩), false, true⟩] := by kernel_rfl
  exact congrFun this w
theorem z_out (h : ∀ a3, Stop 0 (z3 c cs J a0 a1 a2 a3)) : WayD Tryz.prog true K (fun e => e.mute = true) Stop 19 0 (z2b c cs J a0 a1 a2) :=
  WayD.seg (p := Event.mute) (n := 19) (m := 0) (d' := 0) (fun _ he => he) (fun ws => by kernel_rfl) fun a3 => h a3
theorem z_back (b : Frame) (w : World) : stepG Tryz.prog true (z3 c (b :: cs) J a0 a1 a2 a3) w = .go (G (b.finish (.tuple #[])) cs) w #[] := by
  have : (fun w => stepG Tryz.prog true (z3 c (b :: cs) J a0 a1 a2 a3) w) = fun w => .go (G (b.finish (.tuple #[])) cs) w #[] := by kernel_rfl
  exact congrFun this w
-- somebody is there
theorem c_way (hn : Count n) (h : ∀ a1, Stop 1 (c1 c cs J n a0 a1)) : WayD Tryz.prog true K (fun e => e.mute = true) Stop 48 1 (p1 c cs J n a0) := by
  rcases hn with rfl | rfl | rfl | rfl
  all_goals exact WayD.seg (p := Event.mute) (n := 48) (m := 0) (d' := 1) (fun _ he => he) (fun ws => by kernel_rfl) fun a1 => h a1
theorem Tryz.ext93 : Ext Tryz.prog 93 Tryz.f93 (Extern.Atomic.casT (.int .u64)) := ⟨Tryz.func93, by kernel_rfl, by kernel_rfl, by kernel_rfl, by kernel_rfl⟩
theorem Tryz.ext66 : Ext Tryz.prog 66 Tryz.f66 Extern.Sync.semacquire := ⟨Tryz.func66, by kernel_rfl, by kernel_rfl, by kernel_rfl, by kernel_rfl⟩
theorem c1_at (hn : Count n) : AtOp (c1 c cs J n a0 a1) (.call { callee := .value (.func 93), args := #[.tmp 9, .tmp 10, .tmp 11], argTypes := #[187, 88, 88] }) := by
  rcases hn with rfl | rfl | rfl | rfl <;> exact ⟨by kernel_rfl, by kernel_rfl, by kernel_rfl, by kernel_rfl, by kernel_rfl⟩
theorem c1_vals (hn : Count n) : (actOf (c1 c cs J n a0 a1)).eval (.tmp 9) = .pointer (some ⟨c, 6, none⟩) ∧ (actOf (c1 c cs J n a0 a1)).eval (.tmp 10) = .int .u64 n ∧ (actOf (c1 c cs J n a0 a1)).eval (.tmp 11) = .int .u64 (n + 1) := by
  rcases hn with rfl | rfl | rfl | rfl <;> exact ⟨by kernel_rfl, by kernel_rfl, by kernel_rfl⟩
theorem c1_hit (hn : Count n) {w : World} (hc : w.cell? ⟨c, 6, none⟩ = some (.int .u64 n)) (hz : w.frozen? ⟨c, 6, none⟩ = false) : stepG Tryz.prog true (c1 c cs J n a0 a1) w = .go (c2 c cs J n a0 a1) (w.setCell ⟨c, 6, none⟩ (.int .u64 (n + 1))) #[⟨.cell ⟨c, 6, none⟩, false, true⟩, ⟨.cell ⟨c, 6, none⟩, true, true⟩] :=
  (c1_at hn).casHit Tryz.ext93 (c1_vals hn).1 (c1_vals hn).2.1 (c1_vals hn).2.2 hc hz
theorem c1_miss (hn : Count n) {w : World} {v : Int} (hc : w.cell? ⟨c, 6, none⟩ = some (.int .u64 v)) (hz : w.frozen? ⟨c, 6, none⟩ = false) (hv : ¬ v = n) : stepG Tryz.prog true (c1 c cs J n a0 a1) w = .go (d2 c cs J n a0 a1) w #[⟨.cell ⟨c, 6, none⟩, false, true⟩] :=
  (c1_at hn).casMiss Tryz.ext93 (c1_vals hn).1 (c1_vals hn).2.1 (c1_vals hn).2.2 hc hz hv
/-- Another was quicker: again. -/
theorem d_way (hn : Count n) (h : ∀ J', WayD Tryz.prog true K (fun e => e.mute = true) Stop m 1 (LH c cs J')) : WayD Tryz.prog true K (fun e => e.mute = true) Stop (9 + m) 1 (d2 c cs J n a0 a1) := by
  rcases hn with rfl | rfl | rfl | rfl
  · refine WayD.seg (p := Event.mute) (n := 9) (m := m) (d' := 1) (fun _ he => he) (fun ws => by kernel_rfl) fun ws => ?_
    have e : ∃ J', fin Tryz.prog true 9 (d2 c cs J 4294967296 a0 a1) ws = LH c cs J' := ⟨fun i => (fin Tryz.prog true 9 (d2 c cs J 4294967296 a0 a1) ws).frame.tmps.getD i undef, by kernel_rfl⟩
    obtain ⟨J', e⟩ := e
    rw [e]; exact h J'
  · refine WayD.seg (p := Event.mute) (n := 9) (m := m) (d' := 1) (fun _ he => he) (fun ws => by kernel_rfl) fun ws => ?_
    have e : ∃ J', fin Tryz.prog true 9 (d2 c cs J 8589934592 a0 a1) ws = LH c cs J' := ⟨fun i => (fin Tryz.prog true 9 (d2 c cs J 8589934592 a0 a1) ws).frame.tmps.getD i undef, by kernel_rfl⟩
    obtain ⟨J', e⟩ := e
    rw [e]; exact h J'
  · refine WayD.seg (p := Event.mute) (n := 9) (m := m) (d' := 1) (fun _ he => he) (fun ws => by kernel_rfl) fun ws => ?_
    have e : ∃ J', fin Tryz.prog true 9 (d2 c cs J 12884901888 a0 a1) ws = LH c cs J' := ⟨fun i => (fin Tryz.prog true 9 (d2 c cs J 12884901888 a0 a1) ws).frame.tmps.getD i undef, by kernel_rfl⟩
    obtain ⟨J', e⟩ := e
    rw [e]; exact h J'
  · refine WayD.seg (p := Event.mute) (n := 9) (m := m) (d' := 1) (fun _ he => he) (fun ws => by kernel_rfl) fun ws => ?_
    have e : ∃ J', fin Tryz.prog true 9 (d2 c cs J 17179869184 a0 a1) ws = LH c cs J' := ⟨fun i => (fin Tryz.prog true 9 (d2 c cs J 17179869184 a0 a1) ws).frame.tmps.getD i undef, by kernel_rfl⟩
    obtain ⟨J', e⟩ := e
    rw [e]; exact h J'
theorem c2_way (hn : Count n) (hK : ∀ w, K w → ∃ x e f, w.heap[c]? = some (.cells x e f) ∧ 7 < x.size) (h : ∀ a2, WayD Tryz.prog true K (fun e => e.mute = true) Stop m 1 (c4 c cs J n a0 a1 a2)) : WayD Tryz.prog true K (fun e => e.mute = true) Stop (19 + (m + 1)) 1 (c2 c cs J n a0 a1) := by
  have hat : ∀ a2, AtOp (c3 c cs J n a0 a1 a2) (.convert 131 127 (.tmp 55)) ∧ (actOf (c3 c cs J n a0 a1 a2)).eval (.tmp 55) = .pointer (some ⟨c, 7, none⟩) ∧ (c3 c cs J n a0 a1 a2).status = .running := by
    rcases hn with rfl | rfl | rfl | rfl <;> exact fun a2 => ⟨⟨by kernel_rfl, by kernel_rfl, by kernel_rfl, by kernel_rfl, by kernel_rfl⟩, by kernel_rfl, by kernel_rfl⟩
  have k : ∀ a2, WayD Tryz.prog true K (fun e => e.mute = true) Stop (m + 1) 1 (c3 c cs J n a0 a1 a2) := fun a2 => by
    refine WayD.one (m := m) (g' := c4 c cs J n a0 a1 a2) (es := #[]) (hat a2).2.2 (fun w hw => ?_) (by simp) (h a2)
    obtain ⟨x, e, f, h1, h2⟩ := hK w hw
    exact (hat a2).1.unsafePtr (a := ⟨c, 7, none⟩) (t := 75) (n := 0) (hat a2).2.1 Tryz.und131 Tryz.und127 Tryz.size75 h1 (by show 7 < x.size; omega)
  rcases hn with rfl | rfl | rfl | rfl
  all_goals exact WayD.seg (p := Event.mute) (n := 19) (m := m + 1) (d' := 1) (fun _ he => he) (fun ws => by kernel_rfl) fun a2 => k a2
theorem c4_mark (hn : Count n) (w : World) : stepG Tryz.prog true (c4 c cs J n a0 a1 a2) w = .go (c4b c cs J n a0 a1 a2 fun _ => w) w #[⟨.mark (.write ⟨c, 7, none⟩), false, true⟩] := by
  rcases hn with rfl | rfl | rfl | rfl
  · have : (fun w => stepG Tryz.prog true (c4 c cs J 4294967296 a0 a1 a2) w) = fun w => .go (c4b c cs J 4294967296 a0 a1 a2 fun _ => w) w #[⟨.mark (.write ⟨c, 7, none⟩), false, true⟩] := by kernel_rfl
    exact congrFun this w
  · have : (fun w => stepG Tryz.prog true (c4 c cs J 8589934592 a0 a1 a2) w) = fun w => .go (c4b c cs J 8589934592 a0 a1 a2 fun _ => w) w #[⟨.mark (.write ⟨c, 7, none⟩), false, true⟩] := by kernel_rfl
    exact congrFun this w
  · have : (fun w => stepG Tryz.prog true (c4 c cs J 12884901888 a0 a1 a2) w) = fun w => .go (c4b c cs J 12884901888 a0 a1 a2 fun _ => w) w #[⟨.mark (.write ⟨c, 7, none⟩), false, true⟩] := by kernel_rfl
    exact congrFun this w
  · have : (fun w => stepG Tryz.prog true (c4 c cs J 17179869184 a0 a1 a2) w) = fun w => .go (c4b c cs J 17179869184 a0 a1 a2 fun _ => w) w #[⟨.mark (.write ⟨c, 7, none⟩), false, true⟩] := by kernel_rfl
    exact congrFun this w
theorem c4_way (hn : Count n) (h : ∀ a4, Stop 1 (c5 c cs J n a0 a1 a2 a3 a4)) : WayD Tryz.prog true K (fun e => e.mute = true) Stop 23 1 (c4b c cs J n a0 a1 a2 a3) := by
  rcases hn with rfl | rfl | rfl | rfl
  all_goals exact WayD.seg (p := Event.mute) (n := 23) (m := 0) (d' := 1) (fun _ he => he) (fun ws => by kernel_rfl) fun a4 => h a4
end
end Go.Proofs.Shardlog
/- The worker's own steps, reckoned, in the house. -/
namespace Go.Tame
open Go.Conc
open Go.ConcN (sumTo upd sumTo_upd upd_ne upd_same)

section
variable {P : Program} {S : Prot} {In : Nat → Option Chair} {h : Nat} {K : World → Prop} {E : Event → Prop} {Stop : Nat → Goroutine → Prop}

theorem deaf_good {es : Array Event} (he : ∀ e ∈ es, EvGood S e) (d : Nat) : deafBehind d es = d := deafBehind_still (fun e h => ⟨(he e h).2.1, (he e h).2.2.1⟩) d

/-- As 'House.own_go', whatever has been drawn. -/
theorem House.own_any {gs : Array Goroutine} {w : World} {T : Trace} {q : Nat → Nat} {a a' : Goroutine} {u : World} {es : Array Event} {sl : Option (Nat × Nat)} (C : House P S In h T gs w q) (ha : gs[h]? = some a) (h1 : stepG P (h == 0) a w = .go a' u es) (h2 : Kept S (w.at 0) u) (h3 : ∀ e ∈ es, EvGood S e) :
    ∃ gs' ops, runT P (crowd gs w sl) h = (.next (crowd gs' u sl), ops) ∧ gs'.size = gs.size ∧ gs'[h]? = some a' ∧ House P S In h (T ++ ops) gs' u q := by
  have hr := runT_crowd_go (sl := sl) ha h1
  obtain ⟨g1, g2, g3⟩ := good_ops (fn := a.frame.fn) (pos := a.frame.place) C h3
  have hlt : h < gs.size := (Array.getElem?_eq_some_iff.1 ha).1
  have hw' : ∀ x, x ≠ h → ((gs.map (woken P a a' u)).setIfInBounds h a')[x]? = gs[x]? := fun x hx => by
    rw [Array.getElem?_setIfInBounds_ne (fun e => hx e.symm), Array.getElem?_map]
    cases ex : gs[x]? with
    | none => rfl
    | some y =>
      have C0 : House P S In h (T ++ MemOp.ofEvents h a.frame.fn a.frame.place es) gs u q := (C.at 0).work h2 rfl (fun _ _ => rfl) g1 g2 g3
      simp [woken_of_again (C0.fixed hx ex)]
  exact ⟨_, _, hr, by simp, Array.getElem?_setIfInBounds_self_of_lt (by simpa using hlt), (C.at 0).work h2 (by simp) hw' g1 g2 g3⟩

/-- The worker's one step, whenever it is picked. -/
theorem one_any {a : Goroutine} (hrun : a.status = .running) {X : Goroutine → World → Prop} {w : World} (hs : ∀ d, ∃ a' u es, stepG P (h == 0) a (w.at d) = .go a' u es ∧ Kept S (w.at 0) u ∧ (∀ e ∈ es, EvGood S e) ∧ X a' u) :
    ∀ (μ : Nat) (T : Trace) (gs : Array Goroutine) (q : Nat → Nat) (sl : Option (Nat × Nat)) (d : Nat), sumTo gs.size q = μ → House P S In h T gs (w.at d) q → gs[h]? = some a →
      ∃ (N : Nat) (gs' : Array Goroutine) (a' : Goroutine) (u : World) (sl' : Option (Nat × Nat)) (T' : Trace) (q' : Nat → Nat),
        runNT P N (crowd gs (w.at d) sl) T = (.next (crowd gs' u sl'), T') ∧ gs'.size = gs.size ∧ gs'[h]? = some a' ∧ Kept S (w.at 0) u ∧ X a' u ∧ House P S In h T' gs' u q' := by
  intro μ
  induction μ using Nat.strongRecOn with
  | _ μ ihμ =>
    intro T gs q sl d hμ C ha
    obtain ⟨i, g, d', sl', hi, hg, hst⟩ := crowd_pick (P := P) (w := w.at d) (sl := sl) (C.awake ha hrun) ⟨_, _, ha, hrun⟩
    have hat : (w.at d).at d' = w.at d' := rfl
    have Cd : House P S In h T gs (w.at d') q := C.at d'
    have stepIt : ∀ {gs' : Array Goroutine} {u : World} {ops : Trace}, runT P (crowd gs (w.at d') sl') i = (.next (crowd gs' u sl'), ops) → runNT P 1 (crowd gs (w.at d) sl) T = (.next (crowd gs' u sl'), T ++ ops) := fun {gs' u ops} hr => by
      have : stepT P (crowd gs (w.at d) sl) = (.next (crowd gs' u sl'), ops) := by rw [hst, hat]; exact hr
      rw [runNT_succ_next this]; rfl
    by_cases e : i = h
    · subst e
      obtain ⟨a', u, es, h1, h2, h3, hX⟩ := hs d'
      obtain ⟨gs₁, ops, hr, hsz, hself, C'⟩ := Cd.own_any (sl := sl') ha h1 h2 h3
      exact ⟨1, gs₁, a', u, sl', _, q, stepIt hr, hsz, hself, h2, hX, C'⟩
    · obtain ⟨gs₁, ops, q₁, d₃, hr, hsz, ha₁, C₁, hlt⟩ := Cd.by_step (sl := sl') hi e hg ha hrun
      obtain ⟨N, gs', a', u, sl₂, T', q', k1, k2, k3⟩ := ihμ (sumTo gs₁.size q₁) (by rw [hsz]; omega) (T ++ ops) gs₁ q₁ sl' d₃ rfl C₁ ha₁
      exact ⟨1 + N, gs', a', u, sl₂, T', q', by rw [runNT_add, stepIt hr]; exact k1, k2.trans hsz, k3⟩

/-- Some own steps of the worker's. -/
theorem House.way (hat : ∀ w d, K w → K (w.at d)) (hE : ∀ e, E e → EvGood S e) 
    : ∀ (n d : Nat) (g : Goroutine), WayD P (h == 0) K E Stop n d g → ∀ (w : World) (T : Trace) (gs : Array Goroutine) (q : Nat → Nat) (sl : Option (Nat × Nat)), K w → House P S In h T gs w q → gs[h]? = some g →
    ∃ (N : Nat) (gs' : Array Goroutine) (g' : Goroutine) (x : Nat) (sl' : Option (Nat × Nat)) (T' : Trace) (q' : Nat → Nat), runNT P N (crowd gs w sl) T = (.next (crowd gs' (w.at x) sl'), T') ∧ gs'.size = gs.size ∧ gs'[h]? = some g' ∧ Stop d g' ∧ House P S In h T' gs' (w.at x) q'
  | 0, d, g, hw => fun w T gs q sl _ H ha => ⟨0, gs, g, w.drawn, sl, T, q, rfl, rfl, ha, hw, H⟩
  | n + 1, d, g, hw => by
    intro w T gs q sl hK H ha
    rcases hw with hw | ⟨hs, hw⟩
    · exact ⟨0, gs, g, w.drawn, sl, T, q, rfl, rfl, ha, hw, H⟩
    · obtain ⟨N, gs', a', u, sl', T', q', k1, k2, k3, k4, ⟨x, rfl, k5⟩, k6⟩ := one_any (h := h) (a := g) hs (X := fun a' u => ∃ x, u = w.at x ∧ WayD P (h == 0) K E Stop n d a') (w := w) (fun z => by
        obtain ⟨g', x, es, h1, h2, h3⟩ := hw (w.at z) (hat w z hK)
        have hg : ∀ e ∈ es, EvGood S e := fun e he => hE e (h2 e he)
        refine ⟨g', (w.at z).at x, es, h1, ⟨rfl, rfl, Nat.zero_le _, Nat.le_refl _, fun _ _ => rfl, fun i o hi hp => ⟨o, hi, hp⟩, fun _ _ _ _ _ _ _ h => h⟩, hg, x, rfl, ?_⟩
        rw [deaf_good hg] at h3; exact h3) _ T gs q sl w.drawn rfl H ha
      obtain ⟨M, gs₂, g₂, y, sl₂, T₂, q₂, m1, m2, m3, m4, m5⟩ := House.way hat hE n d a' k5 (w.at x) T' gs' q' sl' (hat w x hK) k6 k3
      exact ⟨N + M, gs₂, g₂, y, sl₂, T₂, q₂, by rw [runNT_add, show crowd gs w sl = crowd gs (w.at w.drawn) sl from rfl, k1]; exact m1, m2.trans k2, m3, m4, m5⟩
end
end Go.Tame
/- What the trace holds while those that waited leave: atomics that nobody hears, and the mark by which the worker hears of all. -/
namespace Go.Tame
open Go.Conc

section
variable {Still Near : Nat → Loc → Prop} {Gone : Loc → Prop} {t u : Trace} {h g : Nat} {a : Addr} {p : Nat}

/-- One that leaves touches what is gone, by atomics, deaf. -/
theorem Tr.aside (H : Tr Still Near Gone (Knows t h) t) (hu : ∀ op ∈ u, op.g = g) (hb : ∀ op ∈ u, ∀ b, op.act.touch? = some b → Gone b.loc ∧ b.kind = .atomic ∧ Near g b.loc)
    (hh : ∀ (i : Nat) (op : MemOp), (t ++ u)[i]? = some op → t.size ≤ i → op.act.touch? ≠ none → ¬ (t ++ u).heard i) (hG : ∀ g l, Gone l → ¬ Still g l) : Tr Still Near Gone (Knows (t ++ u) h) (t ++ u) := by
  refine ⟨fun said => noRace_append (H.clean said) hu fun i a ha op hop b hb' hc => ?_, fun i a ha hm => ?_, fun i a ha g' hS => ?_⟩
  · obtain ⟨_, h2, h3⟩ := hb op hop b hb'
    have hp : a.kind = .plain := by
      rcases hc.2.2.2 with x | x | ⟨_, _, x⟩
      · exact x
      · rw [h2] at x; cases x
      · rw [h2] at x; cases x
    exact H.wrote i a ha g (.inr ⟨hp, by rw [hc.1]; exact h3⟩)
  · obtain ⟨x, hx, hxa⟩ := touch_of ha
    rcases getElem?_append_cases hx with ⟨_, hx'⟩ | ⟨hge, hxu⟩
    · exact H.old (fun i => Knows.app u) hx' hxa hm
    · exact .inr (.inr ⟨(hb x hxu a hxa).1, (hb x hxu a hxa).2.1, hh i x hx hge (by rw [hxa]; simp)⟩)
  · obtain ⟨x, hx, hxa⟩ := touch_of ha
    rcases getElem?_append_cases hx with ⟨_, hx'⟩ | ⟨_, hxu⟩
    · exact (H.wrote i a (touch_old hx' hxa) g' hS).app u
    · rcases hS with ⟨_, hS⟩ | ⟨hk, _⟩
      · exact absurd hS (hG g' _ (hb x hxu a hxa).1)
      · rw [(hb x hxu a hxa).2.1] at hk; cases hk

/-- The worker touches what is gone, by atomics or by saying so. -/
theorem Tr.mine (H : Tr Still Near Gone (Knows t h) t) (hu : ∀ op ∈ u, op.g = h) (hb : ∀ op ∈ u, ∀ b, op.act.touch? = some b → Gone b.loc ∧ b.kind ≠ .plain) (hG : ∀ g l, Gone l → ¬ Still g l) : Tr Still Near Gone (Knows (t ++ u) h) (t ++ u) := by
  refine ⟨fun said => noRace_append (H.clean said) hu fun i a ha op hop b hb' hc => ?_, fun i a ha hm => ?_, fun i a ha g' hS => ?_⟩
  · obtain ⟨h1, h2⟩ := hb op hop b hb'
    rcases H.known i a ha hc.2.1 with hk | ⟨_, g, hS, _⟩ | ⟨_, hk, _⟩
    · exact hk
    · exact absurd hS (hG g _ (by rw [hc.1]; exact h1))
    · rcases hc.2.2.2 with x | x | ⟨_, x, _⟩
      · rw [hk] at x; cases x
      · exact absurd x h2
      · rw [hk] at x; cases x
  · obtain ⟨x, hx, hxa⟩ := touch_of ha
    rcases getElem?_append_cases hx with ⟨_, hx'⟩ | ⟨_, hxu⟩
    · exact H.old (fun i => Knows.app u) hx' hxa hm
    · have := knows_own hx
      rw [hu x hxu] at this
      exact .inl this
  · obtain ⟨x, hx, hxa⟩ := touch_of ha
    rcases getElem?_append_cases hx with ⟨_, hx'⟩ | ⟨_, hxu⟩
    · exact (H.wrote i a (touch_old hx' hxa) g' hS).app u
    · rcases hS with ⟨_, hS⟩ | ⟨hk, _⟩
      · exact absurd hS (hG g' _ (hb x hxu a hxa).1)
      · exact absurd hk (hb x hxu a hxa).2

/-- It has said that it is through; what it touches since is gone, and nobody hears it. Nobody has taken the word back. -/
structure Told (Gone : Loc → Prop) (a : Addr) (t : Trace) (g p : Nat) : Prop where
  act : t.act? p = some (.mark (.releaseMerge a))
  who : t.g? p = some g
  heard : t.heard p
  after : ∀ i x, touchAt t i = some x → t.g? i = some g → p < i → Gone x.loc ∧ x.kind = .atomic ∧ ¬ t.heard i
  norel : ∀ k, p < k → t.act? k ≠ some (.mark (.release a))

theorem Told.app (H : Told Gone a t g p) (hb : ∀ (i : Nat) (op : MemOp), (t ++ u)[i]? = some op → t.size ≤ i → op.g = g → ∀ x, op.act.touch? = some x → Gone x.loc ∧ x.kind = .atomic ∧ ¬ (t ++ u).heard i)
    (hn : ∀ op ∈ u, op.act ≠ .mark (.release a)) : Told Gone a (t ++ u) g p := by
  have hp : p < t.size := lt_of_act? H.act
  refine ⟨by rw [act?_old hp]; exact H.act, by rw [g?_old hp]; exact H.who, (heard_old hp).2 H.heard, fun i x hx hg hi => ?_, fun k hk e => ?_⟩
  · obtain ⟨op, ho, hox⟩ := touch_of hx
    rcases getElem?_append_cases ho with ⟨hlt, ho'⟩ | ⟨hge, _⟩
    · have := H.after i x (touch_old ho' hox) (by rw [← g?_old (u := u) hlt]; exact hg) hi
      exact ⟨this.1, this.2.1, fun hh => this.2.2 ((heard_old hlt).1 hh)⟩
    · rw [g?_of ho] at hg
      exact hb i op ho hge (Option.some.inj hg) x hox
  · obtain ⟨op, ho, hoa⟩ := Option.map_eq_some_iff.1 e
    rcases getElem?_append_cases ho with ⟨_, ho'⟩ | ⟨_, hou⟩
    · exact H.norel k hk (by rw [act?_of ho', hoa])
    · exact hn op hou hoa

theorem Told.new (hd : Deaf t g = 0) (fn : FuncId) (pos : String) : Told Gone a (t ++ MemOp.ofEvents g fn pos #[⟨.mark (.releaseMerge a), false, true⟩]) g t.size := by
  have e1 : MemOp.ofEvents g fn pos #[⟨.mark (.releaseMerge a), false, true⟩] = #[{ g, fn, pos, act := .mark (.releaseMerge a) }] := by rw [ofEvents_eq]; simp [MemAct.ofEvent]
  have hy : (t ++ #[({ g, fn, pos, act := .mark (.releaseMerge a) } : MemOp)])[t.size]? = some { g, fn, pos, act := .mark (.releaseMerge a) } := by simp
  have late : ∀ i op, (t ++ #[({ g, fn, pos, act := .mark (.releaseMerge a) } : MemOp)])[i]? = some op → ¬ t.size < i := fun i op ho => by
    have := lt_size_of_getElem? ho
    simp at this
    omega
  rw [e1]
  refine ⟨by rw [act?_of hy], by rw [g?_of hy], ⟨g, by rw [g?_of hy], by rw [deaf_old (Nat.le_refl _)]; exact hd⟩, fun i x hx _ hi => ?_, fun k hk e => ?_⟩
  · obtain ⟨op, ho, _⟩ := touch_of hx
    exact absurd hi (late i op ho)
  · obtain ⟨op, ho, _⟩ := Option.map_eq_some_iff.1 e
    exact absurd hk (late k op ho)

/-- The worker hears of it. -/
theorem Told.hear (H : Told Gone a t g p) (hd : Deaf t h = 0) (fn : FuncId) (pos : String) : Knows (t ++ MemOp.ofEvents h fn pos #[⟨.mark (.acquire a), false, true⟩]) h p := by
  have e1 : MemOp.ofEvents h fn pos #[⟨.mark (.acquire a), false, true⟩] = #[{ g := h, fn, pos, act := .mark (.acquire a) }] := by rw [ofEvents_eq]; simp [MemAct.ofEvent]
  have hy : (t ++ #[({ g := h, fn, pos, act := .mark (.acquire a) } : MemOp)])[t.size]? = some { g := h, fn, pos, act := .mark (.acquire a) } := by simp
  have hp : p < t.size := lt_of_act? H.act
  rw [e1]
  refine ⟨t.size, _, hy, rfl, .inr (.single (.inr ⟨.marked hp (.inr (by rw [act?_old hp]; exact H.act)) (act?_of hy) fun k hk hk' => ?_, (heard_old hp).2 H.heard, ⟨h, by rw [g?_of hy], by rw [deaf_old (Nat.le_refl _)]; exact hd⟩⟩))⟩
  rw [act?_old hk']
  exact H.norel k hk

/-- All have told it, and the worker has heard: their places are anybody's again. -/
theorem Tr.joined {Q : Nat → Prop} (H : Tr Still Near Gone (Knows t h) t) (hQ : ∀ g, Q g → ∃ p, Told Gone a t g p ∧ Knows t h p) : Tr (fun g l => ¬ Q g ∧ Still g l) (fun g l => ¬ Q g ∧ Near g l) Gone (Knows t h) t := by
  refine ⟨H.clean, fun i x hx hm => ?_, fun i x hx g hS => H.wrote i x hx g (hS.imp (fun y => ⟨y.1, y.2.2⟩) (fun y => ⟨y.1, y.2.2⟩))⟩
  rcases H.known i x hx hm with k | ⟨k, g, k1, k2⟩ | k
  · exact .inl k
  · by_cases hq : Q g
    · obtain ⟨p, hT, hk⟩ := hQ g hq
      by_cases hi : p < i
      · exact .inr (.inr (hT.after i x hx k2 hi))
      · refine .inl (Knows.of_before ?_ hk)
        by_cases e : i = p
        · exact .inl e
        · exact .inr (.single (.inl ⟨by omega, g, k2, hT.who⟩))
    · exact .inr (.inl ⟨k, g, ⟨hq, k1⟩, k2⟩)
  · exact .inr (.inr k)
end
end Go.Tame
/- While a cluster leaves: the house without its people, and the others' steps. -/
namespace Go.Tame
open Go.Conc
open Go.ConcN (sumTo upd sumTo_upd upd_ne upd_same)

/-- The house while those of 'Q', and the first goroutine, do as they must: of all others what the house says. -/
structure Hall (P : Program) (S : Prot) (In : Nat → Option Chair) (Q : Nat → Prop) (T : Trace) (gs : Array Goroutine) (w : World) (q : Nat → Nat) : Prop where
  waits : ∀ j g, j ≠ 0 → ¬ Q j → gs[j]? = some g → Waits P (q j) (Deaf T j) g j (In j)
  wf : ∀ j c, In j = some c → c.seat.Wf
  chans : ∀ j c x, In j = some c → ¬ Q j → c.seat.has x → ∃ (cap : Nat) (k : Nat × Nat), w.heap[x]? = some (.chan cap #[] false k.1 k.2 false)
  keep : ∀ j c, In j = some c → c.K w
  prot : ∀ j c a, In j = some c → c.still a → S.keep a
  nearGone : ∀ j c a, In j = some c → c.near a → S.gone a
  apart : ∀ a, S.gone a → ¬ S.keep a
  none : In 0 = none
  tr : Tr (stillOf In) (nearOf In) (goneOf S) (Knows T 0) T
  hear : ∀ j c, In j = some c → ¬ Q j → Deaf T j = 0
  new : ∀ j, gs.size ≤ j → Deaf T j = 0
  bound : ∀ j c, In j = some c → j < gs.size
  zero : ¬ Q 0
  seated : ∀ j, Q j → ∃ c, In j = some c

section
variable {P : Program} {S : Prot} {In : Nat → Option Chair} {Q : Nat → Prop} {T : Trace} {gs : Array Goroutine} {w : World} {q : Nat → Nat}

/-- It begins. -/
theorem House.hall (C : House P S In 0 T gs w q) (h0 : ¬ Q 0) (hs : ∀ j, Q j → ∃ c, In j = some c) : Hall P S In Q T gs w q :=
  ⟨fun j g hj _ => C.waits j g hj, C.wf, fun j c x e _ => C.chans j c x e, C.keep, C.prot, C.nearGone, C.apart, C.none, C.tr, fun j c e _ => C.hear j c e, C.new, C.bound, h0, hs⟩

theorem Hall.at (C : Hall P S In Q T gs w q) (d : Nat) : Hall P S In Q T gs (w.at d) q :=
  ⟨C.waits, C.wf, C.chans, fun j c e => (C.keep j c e).at d, C.prot, C.nearGone, C.apart, C.none, C.tr, C.hear, C.new, C.bound, C.zero, C.seated⟩

theorem Hall.fixed (C : Hall P S In Q T gs w q) {x : Nat} {y : Goroutine} (hx : x ≠ 0) (hq : ¬ Q x) (hy : gs[x]? = Option.some y) : y.again w = y := by
  have hw := C.waits x y hx hq hy
  cases e : In x with
  | none => rw [e] at hw; exact again_running w hw.2.status
  | some c =>
    rw [e] at hw
    exact Seated.again (C.keep x c e) hw (C.wf x c e) fun cc hcc => by obtain ⟨cap, k, hk⟩ := C.chans x c cc e hq hcc; exact ⟨_, _, _, _, _, hk⟩

theorem Hall.noSend (C : Hall P S In Q T gs w q) {x : Nat} {y : Goroutine} (hx : x ≠ 0) (hq : ¬ Q x) (hy : gs[x]? = Option.some y) (c : Nat) : offersAt y c true = [] := by
  have hw := C.waits x y hx hq hy
  cases e : In x with
  | none => rw [e] at hw; exact offersAt_of_not_blocked (fun hb => by rcases hw.2.status with z | z <;> (rw [z] at hb; cases hb)) c true
  | some s =>
    rw [e] at hw
    rcases hw with ⟨k, w₀, hq, hg⟩ | ⟨_, _, g₂, rfl, _⟩
    · have := (Seated.status (C.keep x s e) (.inl ⟨k, w₀, hq, hg⟩)).elim (·.1) (fun z => by omega)
      exact offersAt_of_not_blocked (fun hb => by rw [this] at hb; cases hb) c true
    · exact offersAt_parked_sends (fun cc hcc => by obtain ⟨c', z', rfl⟩ := (C.wf x s e).recvs cc hcc; rfl) _

/-- A step of one of those that leave, or of the first goroutine: the others stand. -/
theorem Hall.move (C : Hall P S In Q T gs w q) {i : Nat} {w' : World} {ops : Trace} {gs' : Array Goroutine} (hi : i = 0 ∨ Q i) (hsz : gs'.size = gs.size) (hother : ∀ x, x ≠ 0 → ¬ Q x → gs'[x]? = gs[x]?) (hu : ∀ op ∈ ops, op.g = i)
    (hk : ∀ j c, In j = Option.some c → c.K w') (hc : ∀ (x cap : Nat) (k : Nat × Nat), w.heap[x]? = some (Obj.chan cap #[] false k.1 k.2 false) → w'.heap[x]? = some (Obj.chan cap #[] false k.1 k.2 false)) (ht : Tr (stillOf In) (nearOf In) (goneOf S) (Knows (T ++ ops) 0) (T ++ ops)) (hlt : i < gs.size) :
    Hall P S In Q (T ++ ops) gs' w' q := by
  have hdeaf : ∀ j, j ≠ i → Deaf (T ++ ops) j = Deaf T j := fun j e => Deaf_other T (fun z => e z.symm) ops hu
  have hne : ∀ x, x ≠ 0 → ¬ Q x → x ≠ i := fun x h1 h2 e => by subst e; exact hi.elim h1 h2
  refine ⟨fun x y hx hq hy => ?_, C.wf, fun j c x e hq hx => ?_, hk, C.prot, C.nearGone, C.apart, C.none, ht, fun j c e hq => ?_, fun j hj => (hdeaf j (by omega)).trans (C.new j (by omega)), fun j c e => by rw [hsz]; exact C.bound j c e, C.zero, C.seated⟩
  · rw [hdeaf x (hne x hx hq)]
    exact C.waits x y hx hq (by rw [← hother x hx hq]; exact hy)
  · obtain ⟨cap, k, h⟩ := C.chans j c x e hq hx
    exact ⟨cap, k, hc _ _ _ h⟩
  · have h0 : j ≠ 0 := fun z => by subst z; rw [C.none] at e; cases e
    exact (hdeaf j (hne j h0 hq)).trans (C.hear j c e hq)

/-- One that waits is laid anew. -/
theorem Hall.put (C : Hall P S In Q T gs w q) {i n' : Nat} {g' : Goroutine} {ops : Trace} {gs' : Array Goroutine} {c : Chair} (hc : In i = Option.some c) (hsz : gs'.size = gs.size) (hother : ∀ x, x ≠ i → x ≠ 0 → ¬ Q x → gs'[x]? = gs[x]?) (hself : gs'[i]? = Option.some g')
    (hops : ∀ op ∈ ops, op.g = i) (hr : ∀ op ∈ ops, ∀ b, op.act.touch? = Option.some b → b.write = false ∧ c.loc b.loc) (hd : ∀ t : Trace, Deaf (t ++ ops) i = Deaf t i) (hs : Seated P (i == 0) c.K c.loc c.B c.seat n' g') : Hall P S In Q (T ++ ops) gs' w (upd q i n') := by
  have hdeaf : ∀ j, Deaf (T ++ ops) j = Deaf T j := fun j => by
    by_cases e : j = i
    · subst e; rw [hd]
    · rw [Deaf_other T (fun z => e z.symm) ops hops]
  refine ⟨fun x y hx hq hy => ?_, C.wf, C.chans, C.keep, C.prot, C.nearGone, C.apart, C.none, C.tr.read (g := i) hops (fun op hop b hb => ⟨(hr op hop b hb).1, c, hc, (hr op hop b hb).2⟩) (near_still C.nearGone C.prot C.apart), fun j c e hq => (hdeaf j).trans (C.hear j c e hq), fun j hj => (hdeaf j).trans (C.new j (by rw [← hsz]; exact hj)), fun j c e => by rw [hsz]; exact C.bound j c e, C.zero, C.seated⟩
  rw [hdeaf]
  by_cases e : x = i
  · subst e
    rw [hself] at hy
    obtain rfl := Option.some.inj hy
    rw [hc, upd_same]
    exact hs
  · rw [hother x e hx hq] at hy
    rw [upd_ne q n' e]
    exact C.waits x y hx hq hy

/-- One that only leaves is laid anew. -/
theorem Hall.putLeaver (C : Hall P S In Q T gs w q) {i n' : Nat} {g' : Goroutine} {ops : Trace} {gs' : Array Goroutine} (h0 : i ≠ 0) (hc : In i = Option.none) (hsz : gs'.size = gs.size) (hother : ∀ x, x ≠ i → x ≠ 0 → ¬ Q x → gs'[x]? = gs[x]?) (hself : gs'[i]? = Option.some g') (hi : i < gs.size)
    (hops : ∀ op ∈ ops, op.g = i) (hn : ∀ op ∈ ops, op.act.touch? = Option.none) (hs : QuitsD P n' (Deaf (T ++ ops) i) g') : Hall P S In Q (T ++ ops) gs' w (upd q i n') := by
  have hdeaf : ∀ j, j ≠ i → Deaf (T ++ ops) j = Deaf T j := fun j e => Deaf_other T (fun z => e z.symm) ops hops
  refine ⟨fun x y hx hq hy => ?_, C.wf, C.chans, C.keep, C.prot, C.nearGone, C.apart, C.none, C.tr.mute hn, fun j c e hq => (hdeaf j (fun z => by rw [z, hc] at e; cases e)).trans (C.hear j c e hq), fun j hj => (hdeaf j (fun z => by omega)).trans (C.new j (by omega)), fun j c e => by rw [hsz]; exact C.bound j c e, C.zero, C.seated⟩
  by_cases e : x = i
  · subst e
    rw [hself] at hy
    obtain rfl := Option.some.inj hy
    rw [hc, upd_same]
    exact ⟨h0, hs⟩
  · rw [hother x e hx hq] at hy
    rw [upd_ne q n' e, hdeaf x e]
    exact C.waits x y hx hq hy

/-- ████ A STEP OF ONE OF THE OTHERS. ████ What becomes of those that leave, and of the first: as they were, or let try again. -/
theorem Hall.by_step (C : Hall P S In Q T gs w q) {i : Nat} {g : Goroutine} {sl : Option (Nat × Nat)} (hi : gs[i]? = some g) (hne : i ≠ 0) (hQ : ¬ Q i) (hrun : g.status = .running) (hquiet : ∀ j y, (j = 0 ∨ Q j) → gs[j]? = Option.some y → ∀ c, offersAt y c true = []) :
    ∃ gs' ops q' d, runT P (crowd gs w sl) i = (.next (crowd gs' (w.at d) sl), ops) ∧ gs'.size = gs.size ∧ (∀ k, k ≠ i → gs'[k]? = gs[k]? ∨ gs'[k]? = (gs[k]?).map (·.again (w.at d))) ∧ (∀ op ∈ ops, op.g = i) ∧ (∀ op ∈ ops, ∀ m, op.act ≠ .mark (.release m)) ∧ Hall P S In Q (T ++ ops) gs' (w.at d) q' ∧ sumTo gs.size q' < sumTo gs.size q ∧ ∀ j, j ≠ i → q' j = q j := by
  have hlt : i < gs.size := (Array.getElem?_eq_some_iff.1 hi).1
  have harr : ∀ (d : Nat) (x g' : Goroutine) (k : Nat), k ≠ i → k ≠ 0 → ¬ Q k → ((gs.map (woken P g x (w.at d))).setIfInBounds i g')[k]? = gs[k]? := by
    intro d x g' k hk h0 hq
    rw [Array.getElem?_setIfInBounds_ne (fun e => hk e.symm), Array.getElem?_map]
    cases e : gs[k]? with
    | none => rfl
    | some y => simp [woken_of_again ((C.at d).fixed h0 hq e)]
  have hall : ∀ (d : Nat) (x g' : Goroutine) (k : Nat), k ≠ i → ((gs.map (woken P g x (w.at d))).setIfInBounds i g')[k]? = gs[k]? ∨ ((gs.map (woken P g x (w.at d))).setIfInBounds i g')[k]? = (gs[k]?).map (·.again (w.at d)) := by
    intro d x g' k hk
    rw [Array.getElem?_setIfInBounds_ne (fun e => hk e.symm), Array.getElem?_map]
    unfold woken
    split
    · exact .inr rfl
    · exact .inl (by cases gs[k]? <;> rfl)
  have hrel : ∀ (es : Array Event), (∀ e ∈ es, e.mute = true ∨ ∃ a, e = ⟨.cell a, false, false⟩) → ∀ (fn : FuncId) (pos : String), ∀ op ∈ MemOp.ofEvents i fn pos es, ∀ m, op.act ≠ .mark (.release m) := by
    intro es hes fn pos op hop m e
    obtain ⟨ev, hev, rfl⟩ := Go.Conc.mem_ofEvents hop
    rcases hes ev hev with h | ⟨a, rfl⟩
    · obtain ⟨loc, wr, sy⟩ := ev
      cases loc with
      | mark m' => cases m' <;> simp_all [MemAct.ofEvent, Event.mute]
      | _ => simp_all [Event.mute]
    · simp [MemAct.ofEvent] at e
  have hself : ∀ (d : Nat) (x g' : Goroutine), ((gs.map (woken P g x (w.at d))).setIfInBounds i g')[i]? = some g' := fun d x g' => Array.getElem?_setIfInBounds_self_of_lt (by simpa using hlt)
  have hw := C.waits i g hne hQ hi
  cases e : In i with
  | none =>
    rw [e] at hw
    obtain ⟨h0, hw⟩ := hw
    cases hq : q i with
    | zero => rw [hq] at hw; rw [show g.status = .finished from hw.1] at hrun; cases hrun
    | succ k =>
      rw [hq] at hw
      rcases hw with ⟨hf, _⟩ | ⟨_, g', es, hm, hst, hQQ⟩
      · rw [hf] at hrun; cases hrun
      · have h00 : (i == 0) = false := beq_eq_false_iff_ne.2 h0
        have hgo : stepG P (i == 0) g w = .go g' (w.at w.drawn) es := by rw [h00]; exact hst w
        refine ⟨_, _, upd q i k, w.drawn, runT_crowd_go (sl := sl) hi hgo, by simp, hall w.drawn _ _, fun op hop => by obtain ⟨e, _, rfl⟩ := Go.Conc.mem_ofEvents hop; rfl, hrel es (fun e he => .inl (hm e he)) _ _, C.putLeaver h0 e (by simp) (harr w.drawn _ _) (hself w.drawn _ _) hlt (fun op hop => by obtain ⟨e, _, rfl⟩ := Go.Conc.mem_ofEvents hop; rfl) (fun op hop => ?_) (by rw [Deaf_own]; exact hQQ), ?_, fun j hj => upd_ne q k hj⟩
        · obtain ⟨ev, hev, rfl⟩ := Go.Conc.mem_ofEvents hop
          exact touch_mute (hm ev hev)
        · have h2 : sumTo gs.size (upd q i k) + (k + 1) = sumTo gs.size q + k := by
            have := sumTo_upd q k id hlt
            simpa [hq] using this
          omega
  | some s =>
    rw [e] at hw
    obtain ⟨k, w₀, hqi, hg⟩ : ∃ k w₀, q i = k + 1 ∧ Goes P (i == 0) (RK s.K) (DQ s.loc s.B) (fun g _ => ∃ g₂, AtIn P (i == 0) s.K s.loc s.B s.seat g g₂) k g w₀ := by
      rcases hw with h | ⟨_, _, g₂, rfl, _⟩
      · exact h
      · cases hrun
    have hK := C.keep i s e
    have hcase : (∃ g₂, AtIn P (i == 0) s.K s.loc s.B s.seat g g₂) ∨ ∃ k' g' es d, k = k' + 1 ∧ stepG P (i == 0) g w = .go g' (w.at d) es ∧ (∀ e ∈ es, EvC s.loc s.B e) ∧ Goes P (i == 0) (RK s.K) (DQ s.loc s.B) (fun g _ => ∃ g₂, AtIn P (i == 0) s.K s.loc s.B s.seat g g₂) k' g' (w.at d) := by
      cases k with
      | zero => exact .inl (hg w hK)
      | succ k' =>
        rcases hg with hstop | ⟨_, hstep⟩
        · exact .inl (hstop w hK)
        · have hs := hstep w hK
          cases hgo : stepG P (i == 0) g w with
          | go g' w' es =>
            rw [hgo, goes_go] at hs
            obtain ⟨⟨⟨d, rfl⟩, hes⟩, hG'⟩ := hs
            exact .inr ⟨k', g', es, d, rfl, rfl, hes, hG'⟩
          | _ => rw [hgo] at hs; exact hs.elim
    have hsum : ∀ m, m < k + 1 → sumTo gs.size (upd q i m) < sumTo gs.size q := by
      intro m hm
      have h2 : sumTo gs.size (upd q i m) + (k + 1) = sumTo gs.size q + m := by
        have := sumTo_upd q m id hlt
        simpa [hqi] using this
      omega
    rcases hcase with ⟨g₂, hat⟩ | ⟨k', g', es, d, rfl, hgo, hes, hG'⟩
    · obtain ⟨_, _, _, _, _, es, hes, hstp⟩ := id hat
      obtain ⟨hops, hr, hd⟩ := read_ops (i := i) (fn := g.frame.fn) (pos := g.frame.place) hes
      have hno : ∀ cc ∈ s.seat.cases, NoWays w (gs.setIfInBounds i ph) cc := by
        intro cc hcc
        obtain ⟨c, z, rfl⟩ := (C.wf i s e).recvs cc hcc
        obtain ⟨cap, kk, hc⟩ := C.chans i s c e hQ (Seat.has_of_mem hcc)
        refine ways_recv_none hc (partners_nil fun x y hy => ?_)
        rcases getElem?_stand gs i x y hy with ⟨_, rfl⟩ | ⟨hx, hy'⟩
        · exact offersAt_ph _ _
        · by_cases hh : x = 0 ∨ Q x
          · exact hquiet x y hh hy' _
          · exact C.noSend (fun z => hh (.inl z)) (fun z => hh (.inr z)) hy' _
      refine ⟨_, _, upd q i 0, w.drawn, crowd_waits (sl := sl) hi (hstp w hK) hno, by simp, fun x hx => .inl (Array.getElem?_setIfInBounds_ne (fun z => hx z.symm)), hops, hrel es (fun e he => .inr (by obtain ⟨a, h, _⟩ := hes e he; exact ⟨a, h⟩)) _ _, (C.put e (by simp) (fun x hx _ _ => Array.getElem?_setIfInBounds_ne (fun z => hx z.symm)) (Array.getElem?_setIfInBounds_self_of_lt hlt) hops hr hd (.inr ⟨rfl, g, g₂, rfl, hat⟩)).at w.drawn, hsum 0 (by omega), fun j hj => upd_ne q 0 hj⟩
    · obtain ⟨hops, hr, hd⟩ := read_ops (i := i) (fn := g.frame.fn) (pos := g.frame.place) hes
      exact ⟨_, _, upd q i (k' + 1), d, runT_crowd_go (sl := sl) hi hgo, by simp, hall d _ _, hops, hrel es (fun e he => .inr (by obtain ⟨a, h, _⟩ := hes e he; exact ⟨a, h⟩)) _ _, (C.at d).put e (by simp) (harr d _ _) (hself d _ _) hops hr hd (.inl ⟨k', w.at d, rfl, hG'⟩), hsum _ (by omega), fun j hj => upd_ne q _ hj⟩

end
end Go.Tame
/- The first goroutine's own stretch with its ears shut now and then, or where it touches what is gone: a route, step by step, in the house. -/
namespace Go.Tame
open Go.Conc
open Go.ConcN (sumTo upd sumTo_upd upd_ne upd_same)

/-- What such a step may list: touches of what is not gone, and no write of what is kept; or touches of what is gone, not plainly. -/
def Fine (S : Prot) (es : Array Event) : Prop :=
  (∀ e ∈ es, ∀ x, (MemAct.ofEvent e).touch? = some x → (x.write = true → ∀ a, x.loc = .cell a → ¬ S.keep a) ∧ ¬ goneOf S x.loc) ∨ (∀ e ∈ es, ∀ x, (MemAct.ofEvent e).touch? = some x → goneOf S x.loc ∧ x.kind ≠ .plain)
/-- What it leaves as it was: what is kept, the channels. -/
structure Leaves (S : Prot) (w w' : World) : Prop where
  still : ∀ a, S.keep a → w'.cell? a = w.cell? a
  chan : ∀ (i cap : Nat) (buf : Array Value) (cl : Bool) (s r : Nat) (tm : Bool), w.heap[i]? = some (.chan cap buf cl s r tm) → w'.heap[i]? = some (.chan cap buf cl s r tm)
theorem Leaves.refl (S : Prot) (w : World) : Leaves S w w := ⟨fun _ _ => rfl, fun _ _ _ _ _ _ _ h => h⟩
theorem Leaves.at (S : Prot) (w : World) (d : Nat) : Leaves S w (w.at d) := ⟨fun _ _ => rfl, fun _ _ _ _ _ _ _ h => h⟩
theorem setCell_chan' {w : World} {a : Addr} {x : Value} {i cap s r : Nat} {buf : Array Value} {cl tm : Bool} (h : w.heap[i]? = some (.chan cap buf cl s r tm)) : (w.setCell a x).heap[i]? = some (.chan cap buf cl s r tm) := by
  unfold World.setCell
  simp only [Array.getElem?_modify]
  by_cases e : a.block = i
  · simp only [e, if_true, h, Option.map_some]
  · simp only [e, if_false, h]
theorem Leaves.set {S : Prot} {w : World} {a : Addr} {x : Value} (h : ¬ S.keep a) : Leaves S w (w.setCell a x) :=
  ⟨fun b hb => World.cell?_setCell_other _ _ _ _ (fun e => h (e ▸ hb)), fun _ _ _ _ _ _ _ h => setCell_chan' h⟩
section
variable (P : Program) (S : Prot) (Stop : Goroutine → World → Prop)
/-- On a route; 'd': how deaf it is. -/
def Route : Nat → Nat → Goroutine → World → Prop
  | 0, d, g, w => d = 0 ∧ Stop g w
  | n + 1, d, g, w => (d = 0 ∧ Stop g w) ∨ (g.status = .running ∧ ∀ x, ∃ g' w' es, stepG P true g (w.at x) = .go g' w' es ∧ Leaves S w w' ∧ Fine S es ∧ Route n (deafBehind d es) g' w')
end

section
variable {P : Program} {S : Prot} {In : Nat → Option Chair} {Stop : Goroutine → World → Prop}
theorem Route.stop {n : Nat} {g : Goroutine} {w : World} (h : Stop g w) : Route P S Stop n 0 g w := by
  cases n with
  | zero => exact ⟨rfl, h⟩
  | succ n => exact .inl ⟨rfl, h⟩
theorem Route.step {n d : Nat} {g : Goroutine} {w : World} (hs : g.status = .running) (h : ∀ x, ∃ g' w' es, stepG P true g (w.at x) = .go g' w' es ∧ Leaves S w w' ∧ Fine S es ∧ Route P S Stop n (deafBehind d es) g' w') : Route P S Stop (n + 1) d g w := .inr ⟨hs, h⟩
theorem Route.more {n m d : Nat} {g : Goroutine} {w : World} (h : Route P S Stop n d g w) (hm : n ≤ m) : Route P S Stop m d g w := by
  induction n generalizing m d g w with
  | zero =>
    obtain ⟨rfl, h⟩ := h
    exact .stop h
  | succ n ih =>
    obtain ⟨m, rfl⟩ : ∃ k, m = k + 1 := ⟨m - 1, by omega⟩
    rcases h with h | ⟨hs, h⟩
    · exact .inl h
    · refine .inr ⟨hs, fun x => ?_⟩
      obtain ⟨g', w', es, h1, h2, h3, h4⟩ := h x
      exact ⟨g', w', es, h1, h2, h3, ih h4 (by omega)⟩
theorem Fine.mute {es : Array Event} (h : ∀ e ∈ es, e.mute = true) : Fine S es := .inl fun e he x hx => by rw [touch_mute (h e he)] at hx; cases hx
theorem Fine.good {es : Array Event} (h : ∀ e ∈ es, EvGood S e) : Fine S es := by
  refine .inl fun e he x hx => ?_
  obtain ⟨g1, g2, g3, g4, g5⟩ := h e he
  obtain ⟨loc, wr, sy⟩ := e
  cases loc with
  | mark m =>
    cases m with
    | read y => exact absurd rfl (g4 y)
    | write y => exact absurd rfl (g5 y)
    | _ => simp [MemAct.ofEvent, MemAct.touch?] at hx
  | cell y =>
    simp only [MemAct.ofEvent, MemAct.touch?, Option.some.injEq] at hx
    subst hx
    exact ⟨fun hw a ha => by cases ha; exact (g1 _ rfl).1 hw, fun ⟨a, ha, hg⟩ => by cases ha; exact (g1 _ rfl).2 hg⟩
  | obj r =>
    refine ⟨fun hw a ha => ?_, fun ⟨a, ha, hg⟩ => ?_⟩
    all_goals (cases wr <;> cases sy <;> simp [MemAct.ofEvent, MemAct.touch?] at hx <;> (subst hx; cases ha))
  | output =>
    simp only [MemAct.ofEvent, MemAct.touch?, Option.some.injEq] at hx
    subst hx
    exact ⟨fun hw a ha => (by cases ha), fun ⟨a, ha, hg⟩ => (by cases ha)⟩
  | goroutines =>
    simp only [MemAct.ofEvent, MemAct.touch?, Option.some.injEq] at hx
    subst hx
    exact ⟨fun hw a ha => (by cases ha), fun ⟨a, ha, hg⟩ => (by cases ha)⟩
/-- A stretch that looks at no world. -/
theorem Route.way {K : World → Prop} {E : Event → Prop} {St : Nat → Goroutine → Prop} (hat : ∀ w d, K w → K (w.at d)) (hE : ∀ es : Array Event, (∀ e ∈ es, E e) → Fine S es) {m : Nat} : ∀ {n d : Nat} {g : Goroutine} {w : World}, WayD P true K E St n d g → K w → (∀ d g x, St d g → Route P S Stop m d g (w.at x)) → Route P S Stop (n + m) d g w
  | 0, d, g, w, h, _, k => by rw [Nat.zero_add]; exact k d g w.drawn h
  | n + 1, d, g, w, h, hw, k => by
    rcases h with h | ⟨hs, h⟩
    · exact (k d g w.drawn h).more (by omega)
    · rw [Nat.add_right_comm]
      refine .step hs fun x => ?_
      obtain ⟨g', y, es, h1, h2, h3⟩ := h (w.at x) (hat w x hw)
      exact ⟨g', _, es, h1, .at S w y, hE es h2, Route.way hat hE h3 (hat w y hw) fun d g z hz => k d g z hz⟩

/-- The worker's step that says nothing new to whoever waits. -/
theorem Tr.fine {t : Trace} {fn : FuncId} {pos : String} {es : Array Event} (hp : ∀ j c a, In j = some c → c.still a → S.keep a) (hn : ∀ j c a, In j = some c → c.near a → S.gone a) (ha : ∀ a, S.gone a → ¬ S.keep a) (H : Tr (stillOf In) (nearOf In) (goneOf S) (Knows t 0) t) (h : Fine S es) :
    Tr (stillOf In) (nearOf In) (goneOf S) (Knows (t ++ MemOp.ofEvents 0 fn pos es) 0) (t ++ MemOp.ofEvents 0 fn pos es) := by
  have hu : ∀ op ∈ MemOp.ofEvents 0 fn pos es, op.g = 0 := fun op hop => by obtain ⟨e, _, rfl⟩ := Go.Conc.mem_ofEvents hop; rfl
  rcases h with h | h
  · refine H.work hu (fun op hop b hb => ?_) (near_gone hn)
    obtain ⟨e, he, rfl⟩ := Go.Conc.mem_ofEvents hop
    obtain ⟨h1, h2⟩ := h e he b hb
    exact ⟨fun hw g ⟨c, hc, a, hl, hs⟩ => h1 hw a hl (hp g c a hc hs), h2⟩
  · refine H.mine hu (fun op hop b hb => ?_) fun g l ⟨a, hl, hg⟩ ⟨c, hc, x, hx, hs⟩ => by rw [hl] at hx; cases hx; exact ha a hg (hp g c a hc hs)
    obtain ⟨e, he, rfl⟩ := Go.Conc.mem_ofEvents hop
    exact h e he b hb

theorem Hall.house {T : Trace} {gs : Array Goroutine} {w : World} {q : Nat → Nat} (C : Hall P S In (fun _ => False) T gs w q) (h : Deaf T 0 = 0) : House P S In 0 T gs w q :=
  ⟨fun j g hj => C.waits j g hj (fun z => z), C.wf, fun j c x e => C.chans j c x e (fun z => z), C.keep, C.prot, C.nearGone, C.apart, C.none, C.tr, h, fun j c e => C.hear j c e (fun z => z), C.new, C.bound⟩

/-- ████ A ROUTE IN THE HOUSE. ████ -/
theorem Hall.route : ∀ (n : Nat) (g : Goroutine) (w : World), (∀ d, Route P S Stop n d g w → ∀ (μ : Nat) (T : Trace) (gs : Array Goroutine) (q : Nat → Nat) (sl : Option (Nat × Nat)) (x : Nat), sumTo gs.size q = μ → Deaf T 0 = d → Hall P S In (fun _ => False) T gs (w.at x) q → gs[0]? = some g →
      ∃ (N : Nat) (gs' : Array Goroutine) (g' : Goroutine) (w' : World) (x' : Nat) (sl' : Option (Nat × Nat)) (T' : Trace) (q' : Nat → Nat), runNT P N (crowd gs (w.at x) sl) T = (.next (crowd gs' (w'.at x') sl'), T') ∧ gs'.size = gs.size ∧ gs'[0]? = some g' ∧ Stop g' w' ∧ House P S In 0 T' gs' (w'.at x') q') := by
  intro n
  induction n with
  | zero =>
    rintro g w d ⟨rfl, hs⟩ μ T gs q sl x _ hd H ha
    exact ⟨0, gs, g, w, x, sl, T, q, rfl, rfl, ha, hs, H.house hd⟩
  | succ n ih =>
    intro g w d hR μ
    induction μ using Nat.strongRecOn with
    | _ μ ihμ =>
      intro T gs q sl x hμ hd C ha
      rcases hR with ⟨rfl, hs⟩ | ⟨hrun, hstep⟩
      · exact ⟨0, gs, g, w, x, sl, T, q, rfl, rfl, ha, hs, C.house hd⟩
      · have hawake : ∀ g ∈ gs, Conc.awake g := by
          intro y hy
          obtain ⟨i, hi, rfl⟩ := Array.mem_iff_getElem.1 hy
          by_cases e : i = 0
          · subst e
            have : gs[0] = g := by simpa [Array.getElem?_eq_getElem hi] using ha
            rw [this]; exact awake_of (.inl hrun)
          · have hw := C.waits i _ e (fun z => z) (Array.getElem?_eq_getElem hi)
            cases es : In i with
            | none => rw [es] at hw; exact awake_of (hw.2.status.elim .inl fun x => .inr (.inr x))
            | some s => rw [es] at hw; exact awake_of ((Seated.status (C.keep i s es) hw).elim (fun x => .inl x.1) fun x => .inr (.inl x.1))
        obtain ⟨i, y, x', sl', hi, hy, hpick⟩ := crowd_pick (P := P) (w := w.at x) (sl := sl) hawake ⟨_, _, ha, hrun⟩
        have hat : (w.at x).at x' = w.at x' := rfl
        have Cd : Hall P S In (fun _ => False) T gs (w.at x') q := C.at x'
        have stepIt : ∀ {gs' : Array Goroutine} {u : World} {ops : Trace}, runT P (crowd gs (w.at x') sl') i = (.next (crowd gs' u sl'), ops) → runNT P 1 (crowd gs (w.at x) sl) T = (.next (crowd gs' u sl'), T ++ ops) := fun {gs' u ops} hr => by
          have : stepT P (crowd gs (w.at x) sl) = (.next (crowd gs' u sl'), ops) := by rw [hpick, hat]; exact hr
          rw [runNT_succ_next this]; rfl
        by_cases e : i = 0
        · subst e
          rw [ha] at hi
          obtain rfl := Option.some.inj hi
          have hlt : 0 < gs.size := (Array.getElem?_eq_some_iff.1 ha).1
          obtain ⟨g', w', es, h1, h2, h3, h4⟩ := hstep x'
          have hr := runT_crowd_go (P := P) (sl := sl') ha h1
          have hops : ∀ op ∈ MemOp.ofEvents 0 g.frame.fn g.frame.place es, op.g = 0 := fun op hop => by obtain ⟨e, _, rfl⟩ := Go.Conc.mem_ofEvents hop; rfl
          have htr := Tr.fine (fn := g.frame.fn) (pos := g.frame.place) Cd.prot Cd.nearGone Cd.apart Cd.tr h3
          have hkeep : ∀ j c, In j = some c → c.K w' := fun j c hc a v hv => by
            rw [h2.still a (Cd.prot j c a hc ⟨v, hv⟩)]; exact Cd.keep j c hc a v hv
          have hch : ∀ (z cap : Nat) (k : Nat × Nat), (w.at x').heap[z]? = some (Obj.chan cap #[] false k.1 k.2 false) → w'.heap[z]? = some (Obj.chan cap #[] false k.1 k.2 false) := fun z cap k h => h2.chan _ _ _ _ _ _ _ h
          have C0 : Hall P S In (fun _ => False) (T ++ MemOp.ofEvents 0 g.frame.fn g.frame.place es) gs w' q := Cd.move (.inl rfl) rfl (fun _ _ _ => rfl) hops hkeep hch htr hlt
          have hsame : ∀ z, z ≠ 0 → ((gs.map (woken P g g' w')).setIfInBounds 0 g')[z]? = gs[z]? := fun z hz => by
            rw [Array.getElem?_setIfInBounds_ne (fun e => hz e.symm), Array.getElem?_map]
            cases e : gs[z]? with
            | none => rfl
            | some v => simp [woken_of_again (C0.fixed hz (fun h => h) e)]
          have C1 : Hall P S In (fun _ => False) (T ++ MemOp.ofEvents 0 g.frame.fn g.frame.place es) ((gs.map (woken P g g' w')).setIfInBounds 0 g') w' q := Cd.move (.inl rfl) (by simp) (fun z hz _ => hsame z hz) hops hkeep hch htr hlt
          obtain ⟨N, gs₂, g₂, w₂, x₂, sl₂, T₂, q₂, k1, k2, k3, k4, k5⟩ := ih g' w' _ h4 _ _ _ q sl' w'.drawn rfl (by rw [Deaf_own, hd]) C1 (Array.getElem?_setIfInBounds_self_of_lt (by simpa using hlt))
          exact ⟨1 + N, gs₂, g₂, w₂, x₂, sl₂, T₂, q₂, by rw [runNT_add, stepIt hr]; exact k1, by rw [k2]; simp, k3, k4, k5⟩
        · obtain ⟨gs₁, ops, q₁, d₃, hr, hsz, hall, hops, _, C₁, hlt, _⟩ := Cd.by_step (sl := sl') hi e (fun h => h) hy fun j v hj hv c => by
            rcases hj with rfl | hj
            · rw [ha] at hv; obtain rfl := Option.some.inj hv
              exact offersAt_of_not_blocked (fun h => by rw [hrun] at h; cases h) _ _
            · exact hj.elim
          have ha₁ : gs₁[0]? = some g := by
            rcases hall 0 (fun h => e h.symm) with h | h
            · rw [h]; exact ha
            · rw [h, ha, Option.map_some, again_running _ (.inl hrun)]
          obtain ⟨N, gs₂, g₂, w₂, x₂, sl₂, T₂, q₂, k1, k2, k3⟩ := ihμ (sumTo gs₁.size q₁) (by rw [hsz]; omega) (T ++ ops) gs₁ q₁ sl' d₃ rfl (by rw [Deaf_other T (fun h => e h) ops hops]; exact hd) C₁ ha₁
          exact ⟨1 + N, gs₂, g₂, w₂, x₂, sl₂, T₂, q₂, by rw [runNT_add, stepIt hr]; exact k1, k2.trans hsz, k3⟩

theorem House.route {n : Nat} {g : Goroutine} {w : World} (h : Route P S Stop n 0 g w) {T : Trace} {gs : Array Goroutine} {q : Nat → Nat} (sl : Option (Nat × Nat)) (H : House P S In 0 T gs w q) (ha : gs[0]? = some g) :
    ∃ (N : Nat) (gs' : Array Goroutine) (g' : Goroutine) (w' : World) (x' : Nat) (sl' : Option (Nat × Nat)) (T' : Trace) (q' : Nat → Nat), runNT P N (crowd gs w sl) T = (.next (crowd gs' (w'.at x') sl'), T') ∧ gs'.size = gs.size ∧ gs'[0]? = some g' ∧ Stop g' w' ∧ House P S In 0 T' gs' (w'.at x') q' :=
  Hall.route n g w 0 h _ T gs q sl w.drawn rfl H.hears (H.hall (fun z => z) fun j hj => hj.elim) ha
end
end Go.Tame
