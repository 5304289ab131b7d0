/- Several texts in one: TameStageZ, TameShutW, TameShutY, TameBorn, TameSeat, TameNewA, TameNewB, TameNewC. -/
import Derived.Test.YtblcigmggdiccaaGreatDoorPart19
import Derived.Test.YtblcigmggdiccaaGreatDoorPart10
import Derived.Test.YtblcigmggdiccaaGreatDoorPart11
import Derived.Test.YtblcigmggdiccaaGreatDoorPart13
set_option linter.unusedSectionVars false
set_option linter.unusedSimpArgs false
set_option linter.unusedVariables false
set_option maxRecDepth 100000
/- The stages, of the program. -/
namespace Go.Proofs.Shardlog
open Go.Conc Go.Tame
set_option maxRecDepth 100000
section
variable {cb sb c s D W : Nat} {w0 w1 : Nat → World} {w2 : Nat → Nat → World} {w3 w4 w5 w6 w7 w8 w9 w10 : Nat → World} {K : World → Prop}
theorem s_rel : SRel Tryz.prog ⟨c, 7, none⟩ 1 (x5 cb sb c s D W w0 w1 w2 w3 w4 w5 w6 w7 w8 w9 w10) :=
  ⟨rfl, by kernel_rfl, by kernel_rfl, fun _ _ hc hz => ⟨_, wake6 hc hz, QuitsD.free (wake7 default)⟩⟩
theorem s_store : SStore Tryz.prog K ⟨c, 6, none⟩ ⟨c, 7, none⟩ 1 (x3 cb sb c s D W w0 w1 w2 w3 w4 w5 w6 w7 w8 w9) :=
  ⟨rfl, by kernel_rfl, fun _ _ hc hz => ⟨_, wake4 hc hz, wake5 fun _ => s_rel⟩⟩
theorem s_load : SLoad Tryz.prog K ⟨c, 6, none⟩ ⟨c, 7, none⟩ 1 (x1 cb sb c s D W w0 w1 w2 w3 w4 w5 w6 w7 w8) :=
  ⟨rfl, by kernel_rfl, fun _ hc => ⟨_, wake2 hc, wake3 fun _ => s_store⟩⟩
theorem s_add : SAdd Tryz.prog K ⟨c, 6, none⟩ ⟨c, 7, none⟩ 1 (l3 cb sb c s D W w0 w1 w2 w3 w4 w5 w6 w7) := by
  refine ⟨rfl, by kernel_rfl, fun n w hc hz => ⟨_, leave3 hc hz, fun e => ?_, fun e => ?_⟩⟩
  · rw [e]; exact wake1 fun _ => s_load
  · have h4 := leave4 (cb := cb) (sb := sb) (c := c) (s := s) (D := D) (W := W) (w0 := w0) (w1 := w1) (w2 := w2) (w3 := w3) (w4 := w4) (w5 := w5) (w6 := w6) (w7 := w7) default
    have h5 := leave5 (cb := cb) (sb := sb) (c := c) (s := s) (D := D) (W := W) (w0 := w0) (w1 := w1) (w2 := w2) (w3 := w3) (w4 := w4) (w5 := w5) (w6 := w6) (w7 := w7) default
    simp only [Bool.and_eq_true] at h4 h5
    rcases e with e | e | e | e | e | e | e <;> rw [e]
    · exact QuitsD.free h4.1.1.1
    · exact QuitsD.free h4.1.1.2
    · exact QuitsD.free h4.1.2
    · exact QuitsD.free h4.2
    · exact QuitsD.free h5.1.1
    · exact QuitsD.free h5.1.2
    · exact QuitsD.free h5.2
theorem s_tell : STell Tryz.prog K ⟨c, 6, none⟩ ⟨c, 7, none⟩ 0 (l2 cb sb c s D W w0 w1 w2 w3 w4 w5) :=
  ⟨rfl, by kernel_rfl, fun w => ⟨_, leave1 w, leave2 fun _ => s_add⟩⟩
/-- From the select, served as 'done' is closed, to the word that it is through. -/
theorem s_out (hK : ∀ w, K w → ∃ x e f, w.heap[c]? = some (.cells x e f) ∧ 6 < x.size) : WayD Tryz.prog false K (fun _ => False) (STell Tryz.prog K ⟨c, 6, none⟩ ⟨c, 7, none⟩) 27 0 (l0 cb sb c s D W w0 w1 w2 w3 w4) :=
  leave0 hK fun _ => s_tell
end
section
variable {c : Nat} {b : Frame} {cs : List Frame} {J : Nat → Value} {n : Int} {a0 a1 a2 a3 a4 a5 a6 a7 a8 : Nat → World} {K : World → Prop}
theorem m_last (hK : ∀ w, K w → ∃ x e f, w.heap[c]? = some (.cells x e f) ∧ 7 < x.size) (hn : Count n) : MLast Tryz.prog K ⟨c, 6, none⟩ b cs 1 (c7 c (b :: cs) J n a0 a1 a2 a3 a4 a5) := by
  refine ⟨rfl, by rcases hn with rfl | rfl | rfl | rfl <;> kernel_rfl, fun w hc => ⟨_, c7_load hn hc, c8_way (m := 0) hn hK fun a6 => ⟨rfl, by rcases hn with rfl | rfl | rfl | rfl <;> kernel_rfl, fun w => ⟨_, c10_mark hn w, ?_⟩⟩⟩⟩
  exact WayD.pad (n := 9) (k := 10) (c10_way hn fun a8 => ⟨rfl, by rcases hn with rfl | rfl | rfl | rfl <;> kernel_rfl, fun w => c11_back hn b w⟩)
theorem m_sem (hK : ∀ w, K w → ∃ x e f, w.heap[c]? = some (.cells x e f) ∧ 7 < x.size) (hn : Count n) : MSem Tryz.prog K ⟨c, 6, none⟩ ⟨c, 7, none⟩ b cs 1 (c5 c (b :: cs) J n a0 a1 a2 a3 a4) :=
  ⟨rfl, (c5_at hn).2.2, by rcases hn with rfl | rfl | rfl | rfl <;> kernel_rfl, fun _ hc => c5_wait hn hc, fun _ hc hz => ⟨_, c5_go hn hc hz, c6_way hn fun _ => m_last hK hn⟩⟩
theorem m_say (hK : ∀ w, K w → ∃ x e f, w.heap[c]? = some (.cells x e f) ∧ 7 < x.size) (hn : Count n) : MSay Tryz.prog K ⟨c, 6, none⟩ ⟨c, 7, none⟩ b cs 1 (c4 c (b :: cs) J n a0 a1 a2) :=
  ⟨rfl, by rcases hn with rfl | rfl | rfl | rfl <;> kernel_rfl, fun w => ⟨_, c4_mark hn w, c4_way hn fun _ => m_sem hK hn⟩⟩
def Heads (c : Nat) (cs : List Frame) (g : Goroutine) : Prop := ∃ J, g = LH c cs J
theorem m_cas (hK : ∀ w, K w → ∃ x e f, w.heap[c]? = some (.cells x e f) ∧ 7 < x.size) (hn : Count n) : MCas Tryz.prog K ⟨c, 6, none⟩ ⟨c, 7, none⟩ b cs (Heads c (b :: cs)) n 1 (c1 c (b :: cs) J n a0 a1) :=
  ⟨rfl, by rcases hn with rfl | rfl | rfl | rfl <;> kernel_rfl, fun _ hc hz => ⟨_, c1_hit hn hc hz, c2_way (m := 0) hn hK fun _ => m_say hK hn⟩, fun _ _ hc hz hv => ⟨_, c1_miss hn hc hz hv, d_way (m := 0) hn fun J' => ⟨rfl, J', rfl⟩⟩⟩
theorem m_load (hK : ∀ w, K w → ∃ x e f, w.heap[c]? = some (.cells x e f) ∧ 7 < x.size) : MLoad Tryz.prog K ⟨c, 6, none⟩ ⟨c, 7, none⟩ b cs (Heads c (b :: cs)) 1 (p0 c (b :: cs) J a0) := by
  refine ⟨rfl, by kernel_rfl, fun n w hc => ⟨_, p0_load hc, fun e => ?_, fun hn => c_way hn fun _ => m_cas hK hn⟩⟩
  subst e
  exact z_way (m := 0) hK fun a1 => ⟨rfl, by kernel_rfl, fun w => ⟨_, z_mark w, z_out fun a3 => ⟨rfl, by kernel_rfl, fun w => z_back b w⟩⟩⟩
theorem m_loop (hK : ∀ w, K w → ∃ x e f, w.heap[c]? = some (.cells x e f) ∧ 7 < x.size) : MLoop Tryz.prog K ⟨c, 6, none⟩ ⟨c, 7, none⟩ b cs (Heads c (b :: cs)) :=
  ⟨fun _ ⟨_, e⟩ => e ▸ w_load (m := 0) fun _ => m_load hK⟩
/-- From the call to the loop. -/
theorem m_begin : WayD Tryz.prog true K (fun e => e.mute = true) (fun d g => d = 1 ∧ Heads c cs g) 7 0 (m0 c cs) := w_begin (m := 0) ⟨rfl, _, rfl⟩
end
end Go.Proofs.Shardlog
/- The way from the close of 'done' to Wait's loop. -/
namespace Go.Proofs.Shardlog
open Go Go.Conc Go.Tame Go.Proofs
variable {Ω : World}
noncomputable def shut2 : Array Oper :=
  #[{ dst := some 7, op := .load 23 (.tmp 0), type := 23, pos := "cluster.go:158", after := #[], guard := none }, { dst := some 8, op := .nilCheck (.tmp 7), type := 0, pos := "cluster.go:158", after := #[{ on := 0, ground := .data }], guard := none },
    { dst := some 9, op := .fieldAddr 94 (.tmp 8) 5, type := 0, pos := "cluster.go:158", after := #[{ on := 1, ground := .data }], guard := none },
    { dst := some 10, op := .call { callee := .value (.func 34), args := #[.tmp 9], argTypes := #[92] }, type := 0, pos := "cluster.go:158", after := #[{ on := 2, ground := .data }], guard := none }]
section
variable (c B D : Nat) (b : Frame) (cs : List Frame)
def shutTmps (x y z : Value) : Array Value := #[.pointer (some ⟨B, 0, none⟩), .pointer (some ⟨c, 0, none⟩), .bool false, .pointer (some ⟨c, 0, none⟩), .pointer (some ⟨c, 0, none⟩), .pointer (some ⟨c, 5, none⟩), .chan (some D), x, y, z, undef]
noncomputable def q1 : Goroutine := G ((base 32).at ⟨shutTmps c B D undef undef undef, []⟩ [.inRegion shut2 [0, 1, 2, 3]]) (b :: cs)
noncomputable def q2 : Goroutine := putOf (q1 c B D b cs) (.pointer (some ⟨c, 0, none⟩))
noncomputable def qf : Frame := (base 32).at ⟨shutTmps c B D (.pointer (some ⟨c, 0, none⟩)) (.pointer (some ⟨c, 0, none⟩)) (.pointer (some ⟨c, 6, none⟩)), []⟩ [.inRegion shut2 [3]]
end
section
variable {c B D : Nat} {b : Frame} {cs : List Frame} {K : World → Prop} {own : Addr → Prop}
theorem q2_seg (ws : Nat → World) : chk Tryz.prog true Event.mute 3 0 (q2 c B D b cs) ws = some (tgt 3 ws, 0) := by kernel_rfl
theorem q2_end (ws : Nat → World) : fin Tryz.prog true 3 (q2 c B D b cs) ws = m0 c (qf c B D :: b :: cs) := by kernel_rfl
theorem shut_way {ops : Array Oper} (hK : ∀ w, K w → w.cell? ⟨B, 0, none⟩ = some (.pointer (some ⟨c, 0, none⟩))) (hown : own ⟨B, 0, none⟩) :
    WayD Tryz.prog true K (E0 own) (fun d g => d = 1 ∧ Heads c (qf c B D :: b :: cs) g) 13 0 (G ((base 32).at ⟨shutTmps c B D undef undef undef, []⟩ [.inRegion ops [], .code (.region 2 shut2 false)]) (b :: cs)) := by
  refine WayD.one (m := 12) (es := #[]) rfl (fun w _ => stepG_region_end) (by simp) ?_
  refine WayD.one (m := 11) (g' := q1 c B D b cs) (es := #[]) rfl (fun w _ => stepG_region) (by simp) ?_
  refine WayD.load (m := 10) (g := q1 c B D b cs) (t := 23) (x := .tmp 0) (a := ⟨B, 0, none⟩) (v := .pointer (some ⟨c, 0, none⟩)) (by kernel_rfl) ⟨by kernel_rfl, by kernel_rfl, by kernel_rfl, by kernel_rfl, by kernel_rfl⟩ (by kernel_rfl) Tryz.und23 rfl (by kernel_rfl) hK (.inr ⟨_, hown, rfl⟩) ?_
  refine WayD.seg (p := Event.mute) (n := 3) (m := 7) (d' := 0) (g := q2 c B D b cs) (fun _ he => .inl he) (fun ws => q2_seg ws) fun ws => ?_
  rw [q2_end]
  exact WayD.events (fun e he => .inl he) m_begin
end
section
variable {g : List Rec} {r : Rec} {x : Member} {w : World} {In : Nat → Option Chair} {K : World → Prop} {B : Nat} {b : Frame} {cs : List Frame}
theorem exit_result {D W : Nat} : commResult (seatCases D W) .select 1 (.agg #[]) false = .tuple #[goInt 1, .bool false, .nilFunc, .agg #[]] := by kernel_rfl
theorem exit_way {cb sb c s D W : Nat} {w0 w1 : Nat → World} {w2 : Nat → Nat → World} {w3 w4 : Nat → World} {a : Goroutine} {y : Value} (ha : a = b7 cb sb c s D W w0 w1 w2 w3 w4) (hy : y = .tuple #[goInt 1, .bool false, .nilFunc, .agg #[]]) (hK : ∀ w, K w → ∃ x e f, w.heap[c]? = some (.cells x e f) ∧ 6 < x.size) :
    WayD Tryz.prog false K (fun _ => False) (STell Tryz.prog K ⟨c, 6, none⟩ ⟨c, 7, none⟩) 27 0 (Go.Conc.served a y) := by
  have e : l0 cb sb c s D W w0 w1 w2 w3 w4 = Go.Conc.served a y := by
    rw [ha, hy, l0, forceG_eq]
    rfl
  rw [← e]
  exact s_out hK
theorem chair_exit (hK : ∀ w, K w → ∃ x e f, w.heap[r.c]? = some (.cells x e f) ∧ 6 < x.size) : Go.Tame.Exit Tryz.prog K ⟨r.c, 6, none⟩ ⟨r.c, 7, none⟩ r.D (chairOf r x) := by
  refine ⟨⟨1, .agg #[], rfl, fun g hg => ?_⟩, .inl rfl, .inr rfl⟩
  obtain ⟨w0, w1, w2, w3, w4, e⟩ := hg
  exact exit_way e exit_result hK
def shutK (B c : Nat) (w : World) : Prop := (∃ x e f, w.heap[c]? = some (.cells x e f) ∧ 7 < x.size) ∧ w.cell? ⟨B, 0, none⟩ = some (.pointer (some ⟨c, 0, none⟩))
theorem shutK_set {c : Nat} {a : Addr} {y : Value} (ha : a = ⟨c, 6, none⟩ ∨ a = ⟨c, 7, none⟩) (h : shutK B c w) : shutK B c (w.setCell a y) := by
  obtain ⟨⟨x, e, f, h1, h2⟩, h3⟩ := h
  refine ⟨?_, ?_⟩
  · rcases ha with rfl | rfl
    · exact ⟨x.setIfInBounds 6 y, e, f, by simp [World.setCell, Array.getElem?_modify, h1], by simpa using h2⟩
    · exact ⟨x.setIfInBounds 7 y, e, f, by simp [World.setCell, Array.getElem?_modify, h1], by simpa using h2⟩
  · rw [World.cell?_setCell_other _ _ _ _ (by rcases ha with rfl | rfl <;> simp)]
    exact h3
theorem shut_firm (hr : r ∈ g) (hl : r.live = true) (hj : Held g w In) (hB : ¬ (protOf Ω g).gone ⟨B, 0, none⟩) :
    Firm Tryz.prog (protOf Ω g) (shutK B r.c) ⟨r.c, 6, none⟩ ⟨r.c, 7, none⟩ (qf r.c B r.D) (b :: cs) (Heads r.c (qf r.c B r.D :: b :: cs)) (fun a => a = ⟨B, 0, none⟩) r.D (r.ms.map (·.j)) In where
  loop := m_loop fun w h => h.1
  ne := by simp
  gone := ⟨r, hr, .inl rfl⟩
  gone' := ⟨r, hr, .inr rfl⟩
  mine := fun a e => e ▸ hB
  tick := fun _ _ h => h
  set := fun w a x h k => shutK_set h k
  nodup := (hj.nodup r hr hl).1
  four := by rw [List.length_map]; exact (hj.nodup r hr hl).2.2
  exit := fun j hjm c hc => by
    obtain ⟨x, hx, rfl⟩ := List.mem_map.1 hjm
    rw [hj.sits r hr hl x hx] at hc
    cases hc
    exact chair_exit fun w h => by obtain ⟨x, e, f, h1, h2⟩ := h.1; exact ⟨x, e, f, h1, by omega⟩
end
end Go.Proofs.Shardlog
/- A cluster that has been stopped: what is held of the others. -/
namespace Go.Tame
open Go.Conc
/-- What the lone world lacks is not frozen in company. -/
theorem Like.warm {S : Prot} {w v : World} (h : Like S w v) {a : Addr} {x : Value} (hg : S.gone a) (hw : w.cell? a = Option.some x) : (∃ y e f, w.heap[a.block]? = Option.some (.cells y e f) ∧ a.off < y.size) ∧ w.frozen? a = false := by
  obtain ⟨hsp, hv, hlt⟩ := h.gone a hg
  have hv' : v.heap[a.block]? = Option.some (v.heap[a.block]'hlt) := Array.getElem?_eq_getElem _
  unfold World.cell? at hw hv
  unfold World.frozen?
  cases hb : w.heap[a.block]? with
  | none => rw [hb] at hw; cases hw
  | some o =>
    rw [hb] at hw
    have ho := h.obj a.block o _ hb hv'
    rw [hv'] at hv
    generalize v.heap[a.block]'hlt = o' at ho hv
    cases ho with
    | cells c e f g hw' =>
      simp only [hsp, Option.isSome_none, Bool.false_eq_true, if_false] at hw hv
      rw [hw] at hv
      cases hv
    | short c c' e f g h0 hle hc hz =>
      simp only [hsp, Option.isSome_none, Bool.false_eq_true, if_false] at hw
      refine ⟨⟨c, e, f, rfl, (Array.getElem?_eq_some_iff.1 hw).1⟩, ?_⟩
      simp only [Bool.and_eq_false_imp, decide_eq_true_eq, decide_eq_false_iff_not]
      exact hz _
    | chan => cases hw
    | same _ hp =>
      cases o <;> first | (cases hw; done) | exact hp.elim
    | odd _ hp =>
      cases o <;> first | (cases hw; done) | exact hp.elim
end Go.Tame
namespace Go.Proofs.Shardlog
open Go Go.Conc Go.Tame Go.Proofs
variable {Ω : World}
noncomputable section
/-- The record of the cluster whose channel that is, stopped. -/
def shutRec (D : Nat) (g : List Rec) : List Rec := g.map fun r => if r.D = D then { r with live := false } else r
end
section
variable {g : List Rec} {r : Rec} {w w' v : World} {In : Nat → Option Chair} {D : Nat}
theorem shutRec_mem {x : Rec} (h : x ∈ shutRec D g) : ∃ y ∈ g, x.cb = y.cb ∧ x.c = y.c ∧ x.D = y.D ∧ x.ms = y.ms ∧ x.cnt = y.cnt ∧ (x.live = true → x = y ∧ y.D ≠ D) := by
  obtain ⟨y, hy, rfl⟩ := List.mem_map.1 h
  refine ⟨y, hy, ?_⟩
  by_cases e : y.D = D
  · simp [e]
  · simp [e]
theorem mem_shutRec {y : Rec} (h : y ∈ g) : ∃ x ∈ shutRec D g, x.cb = y.cb ∧ x.c = y.c ∧ x.D = y.D ∧ x.ms = y.ms ∧ x.cnt = y.cnt ∧ (y.D ≠ D → x = y) := by
  refine ⟨_, List.mem_map.2 ⟨y, h, rfl⟩, ?_⟩
  by_cases e : y.D = D
  · simp [e]
  · simp [e]
theorem protOf_shut : protOf Ω (shutRec D g) = protOf Ω g := by
  unfold protOf
  congr 1
  · funext a
    apply propext
    constructor
    · rintro ⟨x, hx, y, hy, hk⟩
      obtain ⟨z, hz, h1, h2, h3, h4, _⟩ := shutRec_mem hx
      refine ⟨z, hz, y, h4 ▸ hy, ?_⟩
      unfold keepAt at *
      rw [← h1, ← h2]
      exact hk
    · rintro ⟨z, hz, y, hy, hk⟩
      obtain ⟨x, hx, h1, h2, h3, h4, _⟩ := mem_shutRec (D := D) hz
      refine ⟨x, hx, y, h4 ▸ hy, ?_⟩
      unfold keepAt at *
      rw [h1, h2]
      exact hk
  · funext a
    apply propext
    constructor
    · rintro ⟨x, hx, hk⟩
      obtain ⟨z, hz, h1, h2, h3, h4, _⟩ := shutRec_mem hx
      exact ⟨z, hz, by rw [← h2]; exact hk⟩
    · rintro ⟨z, hz, hk⟩
      obtain ⟨x, hx, h1, h2, h3, h4, _⟩ := mem_shutRec (D := D) hz
      exact ⟨x, hx, by rw [h2]; exact hk⟩
theorem seat_has {r : Rec} {x : Member} (h : (chairOf r x).seat.has D) : D = r.D ∨ D = x.W := by
  obtain ⟨k, z, h⟩ := h
  have h : (seatCases r.D x.W)[k]? = some (rcase D z) := h
  unfold seatCases at h
  rcases k with _ | _ | k
  · simp [rcase] at h
    exact .inr h.1.symm
  · simp [rcase] at h
    exact .inl h.1.symm
  · simp at h
theorem chairOf_D {r r' : Rec} {x x' : Member} (h : chairOf r x = chairOf r' x') : r.D = r'.D := by
  have := congrArg (fun c => c.cells[2]?) h
  simp [chairOf] at this
  exact this.2
/-- What is held once it is stopped. -/
theorem Held.shut (h : Held g w In) (hr : r ∈ g) (hl : r.live = true) {cap : Nat} {k : Nat × Nat} (hd : w.heap[r.D]? = some (.chan cap #[] false k.1 k.2 false)) (hs : Shut ⟨r.c, 6, none⟩ ⟨r.c, 7, none⟩ r.D cap k w w') : Held (shutRec r.D g) w' (left In (r.ms.map (·.j))) := by
  have alive : ∀ x ∈ shutRec r.D g, x.live = true → x ∈ g ∧ x.D ≠ r.D := fun x hx hxl => by
    obtain ⟨y, hy, _, _, _, _, _, h6⟩ := shutRec_mem hx
    obtain ⟨rfl, h7⟩ := h6 hxl
    exact ⟨hy, h7⟩
  refine ⟨fun j c hc => ?_, fun x hx hxl y hy => ?_, fun x hx hxl => ?_, fun x hx hxl => h.nodup x (alive x hx hxl).1 hxl, fun x hx x' hx' hxl hxl' => h.apart x (alive x hx hxl).1 x' (alive x' hx' hxl').1 hxl hxl'⟩
  · unfold left at hc
    split at hc
    · cases hc
    · rename_i hj
      obtain ⟨r', hr', hl', x, hx, rfl, rfl⟩ := h.who j c hc
      have hne : r'.D ≠ r.D := fun e => by
        obtain rfl := (h.apart r' hr' r hr hl' hl).1 e
        exact hj (List.mem_map.2 ⟨x, hx, rfl⟩)
      obtain ⟨z, hz, _, _, _, _, _, h6⟩ := mem_shutRec (D := r.D) hr'
      obtain rfl := h6 hne
      exact ⟨z, hz, hl', x, hx, rfl, rfl⟩
  · obtain ⟨hx', hne⟩ := alive x hx hxl
    unfold left
    rw [if_neg, h.sits x hx' hxl y hy]
    intro hj
    obtain ⟨z, hz, e⟩ := List.mem_map.1 hj
    have h1 := h.sits x hx' hxl y hy
    have h2 := h.sits r hr hl z hz
    rw [e, h1] at h2
    exact hne (chairOf_D (Option.some.inj h2))
  · obtain ⟨hx', hne⟩ := alive x hx hxl
    have hc : x.c ≠ r.c := fun e => hne (by rw [(h.apart x hx' r hr hxl hl).2.1 e])
    rw [Shut.cell hs hd (by simp [hc]) (by simp [hc]), Shut.cell hs hd (by simp [hc]) (by simp [hc])]
    exact h.count x hx' hxl
end
end Go.Proofs.Shardlog
/- A cluster is made: the places that nobody writes, or that only the count's methods touch, become protected; a shard is born. -/
namespace Go.Tame
open Go.Conc
/-- A row of cells: some places frozen. -/
def World.ice (v : World) (b lo hi : Nat) : World := { v with heap := v.heap.modify b fun
  | .cells x e _ => .cells x e (lo, hi)
  | o => o }
/-- A row of cells: the first ones alone, some of them frozen. -/
def World.cut (v : World) (b n lo hi : Nat) : World := { v with heap := v.heap.modify b fun
  | .cells x e _ => .cells (x.extract 0 n) e (lo, hi)
  | o => o }
section
variable {S S' : Prot} {w v : World} {b lo hi n : Nat} {x : Array Value} {e : TypeId} {f : Nat × Nat}
theorem ice_size : (World.ice v b lo hi).heap.size = v.heap.size := by simp [World.ice]
theorem ice_self (h : v.heap[b]? = Option.some (.cells x e f)) : (World.ice v b lo hi).heap[b]? = Option.some (.cells x e (lo, hi)) := by simp [World.ice, Array.getElem?_modify, h]
theorem ice_ne {i : Nat} (h : i ≠ b) : (World.ice v b lo hi).heap[i]? = v.heap[i]? := by simp [World.ice, Array.getElem?_modify, Ne.symm h]
theorem ice_cell (a : Addr) : (World.ice v b lo hi).cell? a = v.cell? a := by
  unfold World.cell?
  by_cases h : a.block = b
  · simp only [World.ice, Array.getElem?_modify, h, if_true]
    cases v.heap[b]? with
    | none => rfl
    | some o => cases o <;> rfl
  · rw [ice_ne h]
theorem ice_frozen {a : Addr} (h : a.block ≠ b) : (World.ice v b lo hi).frozen? a = v.frozen? a := by unfold World.frozen?; rw [ice_ne h]
theorem ice_frozen_self {a : Addr} (hb : a.block = b) (h : v.heap[b]? = Option.some (.cells x e f)) : (World.ice v b lo hi).frozen? a = (decide (lo ≤ a.off) && decide (a.off < hi)) := by
  unfold World.frozen?
  rw [hb, ice_self h]
theorem cut_size : (World.cut v b n lo hi).heap.size = v.heap.size := by simp [World.cut]
theorem cut_self (h : v.heap[b]? = Option.some (.cells x e f)) : (World.cut v b n lo hi).heap[b]? = Option.some (.cells (x.extract 0 n) e (lo, hi)) := by simp [World.cut, Array.getElem?_modify, h]
theorem cut_ne {i : Nat} (h : i ≠ b) : (World.cut v b n lo hi).heap[i]? = v.heap[i]? := by simp [World.cut, Array.getElem?_modify, Ne.symm h]
/-- The lone world, frozen in more places. -/
theorem Like.ice (h : Like S w v) (hv : v.heap[b]? = Option.some (.cells x e f)) (hf : Within f (lo, hi)) (hn : S.base.heap.size ≤ b) : Like S w (World.ice v b lo hi) := by
  refine ⟨by rw [ice_size]; exact h.size, fun i o o' hi' ho' => ?_, fun a ha => ⟨(h.still a ha).1, ?_⟩, fun a ha => ⟨(h.gone a ha).1, by rw [ice_cell]; exact (h.gone a ha).2.1, by rw [ice_size]; exact (h.gone a ha).2.2⟩, h.os, h.out⟩
  · by_cases hb : i = b
    · subst hb
      rw [ice_self hv] at ho'
      cases ho'
      have := h.obj i o _ hi' hv
      cases this with
      | cells c e f1 g hw => exact .cells _ _ _ _ (fun j h1 h2 => hf j (hw j h1 h2).1 (hw j h1 h2).2) fun hlt => by omega
      | short c c' e f g h0 hle hc hz hn => exact .short _ _ _ _ _ h0 hle hc hz hn
      | same _ hp => exact hp.elim
    · rw [ice_ne hb] at ho'
      exact h.obj i o o' hi' ho'
  · have := (h.still a ha).2
    by_cases hb : a.block = b
    · rw [ice_frozen_self hb hv]
      unfold World.frozen? at this
      rw [hb, hv] at this
      simp only [Bool.and_eq_true, decide_eq_true_eq] at this ⊢
      exact hf _ this.1 this.2
    · rw [ice_frozen hb]
      exact this
/-- More places are protected. -/
theorem Like.more (h : Like S w v) (hk : ∀ a, S'.keep a → S.keep a ∨ (a.spot = Option.none ∧ v.frozen? a = true)) (hg : ∀ a, S'.gone a → S.gone a) (hB : S'.base = S.base) : Like S' w v :=
  ⟨h.size, by rw [hB]; exact h.obj, fun a ha => (hk a ha).elim (h.still a) id, fun a ha => h.gone a (hg a ha), h.os, by rw [hB]; exact h.out⟩
/-- The lone world loses the last cells of a row. -/
theorem Like.cut (h : Like S w v) (hv : v.heap[b]? = Option.some (.cells x e f)) (hf : ∀ i, f.1 ≤ i → ¬ i < f.2) (hn : 0 < n) (hx : n ≤ x.size) (hk : ∀ a, S'.keep a → S.keep a) (hg : ∀ a, S'.gone a → S.gone a ∨ (a.spot = Option.none ∧ a.block = b ∧ n ≤ a.off)) (hB : S'.base = S.base) (hb0 : S.base.heap.size ≤ b) : Like S' w (World.cut v b n lo hi) := by
  have hlt : b < v.heap.size := (Array.getElem?_eq_some_iff.1 hv).1
  refine ⟨by rw [cut_size]; exact h.size, fun i o o' hi' ho' => ?_, fun a ha => ⟨(h.still a (hk a ha)).1, ?_⟩, fun a ha => ?_, h.os, by rw [hB]; exact h.out⟩
  · by_cases hb : i = b
    · subst hb
      rw [cut_self hv] at ho'
      cases ho'
      have := h.obj i o _ hi' hv
      have hsz : (x.extract 0 n).size = n := by simp; omega
      have hget : ∀ j, j < (x.extract 0 n).size → (x.extract 0 n)[j]? = x[j]? := fun j hj => by
        rw [hsz] at hj
        rw [Array.getElem?_extract]
        simp [Nat.lt_of_lt_of_le hj hx]
        omega
      cases this with
      | cells c e f1 g hw =>
        exact .short _ _ _ _ _ (by omega) (by omega) hget (fun j h1 h2 => by
          obtain ⟨k1, k2⟩ := hw j h1 h2
          exact hf j k1 k2) (by rw [hB]; exact hb0)
      | short c c' e f g h0 hle hc hz hn => exact .short _ _ _ _ _ (by omega) (by omega) (fun j hj => (hget j hj).trans (hc j (by omega))) hz (by rw [hB]; exact hb0)
      | same _ hp => exact hp.elim
    · rw [cut_ne hb] at ho'
      rw [hB]
      exact h.obj i o o' hi' ho'
  · have := (h.still a (hk a ha)).2
    by_cases hb : a.block = b
    · unfold World.frozen? at this
      rw [hb, hv] at this
      simp only [Bool.and_eq_true, decide_eq_true_eq] at this
      exact absurd this.2 (hf _ this.1)
    · unfold World.frozen? at this ⊢
      rw [cut_ne hb]
      exact this
  · rw [cut_size]
    rcases hg a ha with hg | ⟨h1, h2, h3⟩
    · refine ⟨(h.gone a hg).1, ?_, (h.gone a hg).2.2⟩
      have := (h.gone a hg).2.1
      unfold World.cell? at this ⊢
      by_cases hb : a.block = b
      · rw [hb, cut_self hv]
        rw [hb, hv] at this
        simp only [(h.gone a hg).1, Option.isSome_none, Bool.false_eq_true, if_false] at this ⊢
        have := Array.getElem?_eq_none_iff.1 this
        exact Array.getElem?_eq_none_iff.2 (by simp <;> omega)
      · rw [cut_ne hb]
        exact this
    · refine ⟨h1, ?_, by rw [h2]; exact hlt⟩
      unfold World.cell?
      rw [h2, cut_self hv]
      simp only [h1, Option.isSome_none, Bool.false_eq_true, if_false]
      exact Array.getElem?_eq_none_iff.2 (by simp <;> omega)
end
end Go.Tame
namespace Go.Proofs.Shardlog
open Go Go.Conc Go.Tame Go.Proofs
open Go.ConcN (upd upd_ne upd_same)
variable {Ω : World}
section
variable {g : List Rec} {r : Rec} {x : Member} {w v : World} {In : Nat → Option Chair}
theorem prot_apart (g : List Rec) (a : Addr) (h : (protOf Ω g).gone a) : ¬ (protOf Ω g).keep a := by
  obtain ⟨r, _, h⟩ := h
  rintro ⟨r', _, x, _, h'⟩
  rcases h with rfl | rfl <;> rcases h' with h' | h' | h' | h' <;> simp at h'
theorem chair_wf (h : r.D ≠ x.W) : (chairOf r x).seat.Wf := by
  constructor
  · intro cc hcc
    simp only [chairOf, seatOf, seatCases, List.mem_toArray, List.mem_cons, List.not_mem_nil, or_false] at hcc
    rcases hcc with rfl | rfl
    · exact ⟨_, _, rfl⟩
    · exact ⟨_, _, rfl⟩
  · intro k m c z z' h1 h2
    simp only [chairOf, seatOf, seatCases] at h1 h2
    rcases k with _ | _ | k <;> rcases m with _ | _ | m <;> simp [rcase] at h1 h2 <;> first | rfl | (exfalso; exact h (by omega))
/-- Of all that has been made, it lies below. -/
def Below (g : List Rec) (n : Nat) : Prop := ∀ r ∈ g, r.D < n ∧ r.c < n ∧ ∀ x ∈ r.ms, x.W < n
theorem Below.mono {n m : Nat} (h : Below g n) (hm : n ≤ m) : Below g m := fun r hr => by
  obtain ⟨h1, h2, h3⟩ := h r hr
  exact ⟨by omega, by omega, fun x hx => by have := h3 x hx; omega⟩
/-- A new cluster, without shards as yet. -/
theorem Held.newRec (h : Held g w In) {n cb c D : Nat} (hb : Below g n) (hc : n ≤ c) (hD : n ≤ D) (h6 : w.cell? ⟨c, 6, none⟩ = some (.int .u64 0)) (h7 : w.cell? ⟨c, 7, none⟩ = some (.int .u32 0)) : Held (⟨cb, c, D, [], 0, true⟩ :: g) w In := by
  refine ⟨fun j ch hj => ?_, fun r hr hl x hx => ?_, fun r hr hl => ?_, fun r hr hl => ?_, fun r hr r' hr' hl hl' => ?_⟩
  · obtain ⟨r, hr, k⟩ := h.who j ch hj
    exact ⟨r, List.mem_cons_of_mem _ hr, k⟩
  · rcases List.mem_cons.1 hr with rfl | hr
    · cases hx
    · exact h.sits r hr hl x hx
  · rcases List.mem_cons.1 hr with rfl | hr
    · exact ⟨by simpa using h6, h7⟩
    · exact h.count r hr hl
  · rcases List.mem_cons.1 hr with rfl | hr
    · simp
    · exact h.nodup r hr hl
  · rcases List.mem_cons.1 hr with rfl | hr <;> rcases List.mem_cons.1 hr' with rfl | hr'
    · exact ⟨fun _ => rfl, fun _ => rfl, fun x hx => by cases hx⟩
    · obtain ⟨b1, b2, b3⟩ := hb r' hr'
      exact ⟨fun e => by dsimp only at e; omega, fun e => by dsimp only at e; omega, fun x hx e => by have := b3 x hx; dsimp only at e; omega⟩
    · obtain ⟨b1, b2, b3⟩ := hb r hr
      exact ⟨fun e => by dsimp only at e; omega, fun e => by dsimp only at e; omega, fun x hx => by cases hx⟩
    · exact h.apart r hr r' hr' hl hl'
/-- One more is counted. -/
theorem Held.countUp {cb c D cnt n : Nat} {ms : List Member} (h : Held (⟨cb, c, D, ms, cnt, true⟩ :: g) w In) (hb : Below g n) (hc : n ≤ c) (k : Nat) (d : Nat) (hk : (k : Int) = cnt + 1) : Held (⟨cb, c, D, ms, k, true⟩ :: g) ((w.setCell ⟨c, 6, none⟩ (.int .u64 ((cnt : Int) * 4294967296 + 4294967296))).at d) In := by
  obtain ⟨c6, c7⟩ := h.count _ (List.mem_cons_self ..) rfl
  refine ⟨fun j ch hj => ?_, fun r hr hl x hx => ?_, fun r hr hl => ?_, fun r hr hl => ?_, fun r hr r' hr' hl hl' => ?_⟩
  · obtain ⟨r, hr, hl, x, hx, e, e'⟩ := h.who j ch hj
    rcases List.mem_cons.1 hr with rfl | hr
    · exact ⟨_, List.mem_cons_self .., rfl, x, hx, e, e'⟩
    · exact ⟨r, List.mem_cons_of_mem _ hr, hl, x, hx, e, e'⟩
  · rcases List.mem_cons.1 hr with rfl | hr
    · exact h.sits _ (List.mem_cons_self ..) rfl x hx
    · exact h.sits r (List.mem_cons_of_mem _ hr) hl x hx
  · show (w.setCell _ _).cell? _ = _ ∧ (w.setCell _ _).cell? _ = _
    rcases List.mem_cons.1 hr with rfl | hr
    · refine ⟨?_, ?_⟩
      · rw [World.cell?_setCell_same _ _ _ c6]
        have e : ((cnt : Int) * 4294967296 + 4294967296) = (k : Int) * 4294967296 := by omega
        rw [e]
      · rw [World.cell?_setCell_other _ _ _ _ (by simp)]
        exact c7
    · obtain ⟨_, b2, _⟩ := hb r hr
      rw [World.cell?_setCell_other _ _ _ _ (by simp <;> omega), World.cell?_setCell_other _ _ _ _ (by simp)]
      exact h.count r (List.mem_cons_of_mem _ hr) hl
  · rcases List.mem_cons.1 hr with rfl | hr
    · exact h.nodup ⟨cb, c, D, ms, cnt, true⟩ (List.mem_cons_self ..) rfl
    · exact h.nodup r (List.mem_cons_of_mem _ hr) hl
  · rcases List.mem_cons.1 hr with rfl | hr <;> rcases List.mem_cons.1 hr' with rfl | hr'
    · exact ⟨fun _ => rfl, fun _ => rfl, (h.apart _ (List.mem_cons_self ..) _ (List.mem_cons_self ..) rfl rfl).2.2⟩
    · obtain ⟨b1, b2, b3⟩ := hb r' hr'
      obtain ⟨a1, a2, a3⟩ := h.apart _ (List.mem_cons_self ..) r' (List.mem_cons_of_mem _ hr') rfl hl'
      refine ⟨fun e => ?_, fun e => by dsimp only at e; omega, a3⟩
      have := congrArg Rec.c (a1 e)
      dsimp only at this
      omega
    · obtain ⟨b1, b2, b3⟩ := hb r hr
      obtain ⟨a1, a2, a3⟩ := h.apart r (List.mem_cons_of_mem _ hr) _ (List.mem_cons_self ..) hl rfl
      refine ⟨fun e => ?_, fun e => by dsimp only at e; omega, a3⟩
      have := congrArg Rec.c (a1 e)
      dsimp only at this
      omega
    · exact h.apart r (List.mem_cons_of_mem _ hr) r' (List.mem_cons_of_mem _ hr') hl hl'
/-- One more shard. -/
theorem Held.more {cb c D cnt n j : Nat} {ms : List Member} {sb s W : Nat} (h : Held (⟨cb, c, D, ms, cnt, true⟩ :: g) w In) (hb : Below g n) (hc : n ≤ c) (hD : n ≤ D) (hW : n ≤ W) (hDW : D ≠ W) (hj : 0 < j) (hIn : ∀ i d, In i = some d → i < j) (hms : ms.length ≤ 3) :
    Held (⟨cb, c, D, ms ++ [⟨j, sb, s, W⟩], cnt, true⟩ :: g) w (upd In j (some (chairOf ⟨cb, c, D, ms ++ [⟨j, sb, s, W⟩], cnt, true⟩ ⟨j, sb, s, W⟩))) := by
  have ch : ∀ (ms' : List Member) (y : Member), chairOf ⟨cb, c, D, ms', cnt, true⟩ y = chairOf ⟨cb, c, D, ms, cnt, true⟩ y := fun _ _ => rfl
  have no : In j = none := by
    cases e : In j with
    | none => rfl
    | some d => exact absurd (hIn j d e) (Nat.lt_irrefl _)
  refine ⟨fun i d hi => ?_, fun r hr hl x hx => ?_, fun r hr hl => ?_, fun r hr hl => ?_, fun r hr r' hr' hl hl' => ?_⟩
  · by_cases e : i = j
    · subst e
      rw [upd_same] at hi
      exact ⟨_, List.mem_cons_self .., rfl, _, List.mem_append_right _ (List.mem_cons_self ..), rfl, (Option.some.inj hi).symm⟩
    · rw [upd_ne _ _ e] at hi
      obtain ⟨r, hr, hl, x, hx, e1, e2⟩ := h.who i d hi
      rcases List.mem_cons.1 hr with rfl | hr
      · exact ⟨_, List.mem_cons_self .., rfl, x, List.mem_append_left _ hx, e1, e2⟩
      · exact ⟨r, List.mem_cons_of_mem _ hr, hl, x, hx, e1, e2⟩
  · have key : ∀ r0 : Rec, r0 ∈ (⟨cb, c, D, ms, cnt, true⟩ :: g : List Rec) → r0.live = true → ∀ y ∈ r0.ms, upd In j (some (chairOf ⟨cb, c, D, ms ++ [⟨j, sb, s, W⟩], cnt, true⟩ ⟨j, sb, s, W⟩)) y.j = some (chairOf r0 y) := fun r0 h0 hl0 y hy => by
      have := h.sits r0 h0 hl0 y hy
      have hne : y.j ≠ j := fun e => by rw [e, no] at this; cases this
      rw [upd_ne _ _ hne]
      exact this
    rcases List.mem_cons.1 hr with rfl | hr
    · rcases List.mem_append.1 hx with hx | hx
      · rw [ch]
        exact key _ (List.mem_cons_self ..) rfl x hx
      · rcases List.mem_cons.1 hx with rfl | hx
        · exact upd_same ..
        · cases hx
    · exact key r (List.mem_cons_of_mem _ hr) hl x hx
  · rcases List.mem_cons.1 hr with rfl | hr
    · exact h.count ⟨cb, c, D, ms, cnt, true⟩ (List.mem_cons_self ..) rfl
    · exact h.count r (List.mem_cons_of_mem _ hr) hl
  · rcases List.mem_cons.1 hr with rfl | hr
    · obtain ⟨n1, n2, n3⟩ := h.nodup _ (List.mem_cons_self ..) rfl
      have hout : ∀ y ∈ ms, y.j ≠ j := fun y hy e => by
        have := h.sits _ (List.mem_cons_self ..) rfl y hy
        rw [e, no] at this
        cases this
      refine ⟨?_, fun x hx => ?_, by simp; omega⟩
      · show ((ms ++ [_]).map _).Nodup
        rw [List.map_append, List.nodup_append]
        refine ⟨n1, by simp, fun a ha b hb e => ?_⟩
        obtain ⟨y, hy, rfl⟩ := List.mem_map.1 ha
        simp only [List.map_cons, List.map_nil, List.mem_cons, List.not_mem_nil, or_false] at hb
        exact hout y hy (e.trans hb)
      · rcases List.mem_append.1 hx with hx | hx
        · exact n2 x hx
        · rcases List.mem_cons.1 hx with rfl | hx
          · dsimp only; omega
          · cases hx
    · exact h.nodup r (List.mem_cons_of_mem _ hr) hl
  · rcases List.mem_cons.1 hr with rfl | hr <;> rcases List.mem_cons.1 hr' with rfl | hr'
    · refine ⟨fun _ => rfl, fun _ => rfl, fun x hx => ?_⟩
      rcases List.mem_append.1 hx with hx | hx
      · exact (h.apart _ (List.mem_cons_self ..) _ (List.mem_cons_self ..) rfl rfl).2.2 x hx
      · rcases List.mem_cons.1 hx with rfl | hx
        · exact hDW
        · cases hx
    · obtain ⟨b1, b2, b3⟩ := hb r' hr'
      exact ⟨fun e => by dsimp only at e; omega, fun e => by dsimp only at e; omega, fun x hx e => by have := b3 x hx; dsimp only at e; omega⟩
    · obtain ⟨b1, b2, b3⟩ := hb r hr
      refine ⟨fun e => by dsimp only at e; omega, fun e => by dsimp only at e; omega, fun x hx => ?_⟩
      rcases List.mem_append.1 hx with hx | hx
      · exact (h.apart r (List.mem_cons_of_mem _ hr) _ (List.mem_cons_self ..) hl rfl).2.2 x hx
      · rcases List.mem_cons.1 hx with rfl | hx
        · dsimp only; omega
        · cases hx
    · exact h.apart r (List.mem_cons_of_mem _ hr) r' (List.mem_cons_of_mem _ hr') hl hl'
end
end Go.Proofs.Shardlog
/- A shard is born. -/
namespace Go.Proofs.Shardlog
open Go Go.Conc Go.Tame Go.Proofs
section
variable {r : Rec} {x : Member}
theorem chair_cells : (chairOf r x).cells = [(⟨r.cb, 0, none⟩, .pointer (some ⟨r.c, 0, none⟩)), (⟨x.sb, 0, none⟩, .pointer (some ⟨x.s, 0, none⟩)), (⟨r.c, 5, none⟩, .chan (some r.D)), (⟨x.s, 16, none⟩, .chan (some x.W))] := rfl
theorem chair_still {a : Addr} (ha : a = ⟨r.cb, 0, none⟩ ∨ a = ⟨x.sb, 0, none⟩ ∨ a = ⟨r.c, 5, none⟩ ∨ a = ⟨x.s, 16, none⟩) : (chairOf r x).still a := by
  unfold Chair.still
  rw [chair_cells]
  rcases ha with rfl | rfl | rfl | rfl
  · exact ⟨.pointer (some ⟨r.c, 0, none⟩), by simp⟩
  · exact ⟨.pointer (some ⟨x.s, 0, none⟩), by simp⟩
  · exact ⟨.chan (some r.D), by simp⟩
  · exact ⟨.chan (some x.W), by simp⟩
theorem chair_reads {w : World} (h : (chairOf r x).K w) : Reads r.cb x.sb r.c x.s r.D x.W w := by
  unfold Chair.K at h
  rw [chair_cells] at h
  exact ⟨h _ _ (by simp), h _ _ (by simp), h _ _ (by simp), h _ _ (by simp)⟩
theorem b7_runs {cb sb c s D W : Nat} {w0 w1 : Nat → World} {w2 : Nat → Nat → World} {w3 w4 : Nat → World} : isRun (b7 cb sb c s D W w0 w1 w2 w3 w4) = true := by kernel_rfl
theorem running_of {g : Goroutine} (h : isRun g = true) : g.status = .running := by
  unfold isRun at h
  revert h
  cases g.status <;> simp
theorem atIn_b7 {w0 w1 : Nat → World} {w2 : Nat → Nat → World} {w3 w4 : Nat → World} {K : World → Prop} {Still : Loc → Prop} {B : Nat} : AtIn Tryz.prog false K Still B (seatOf r x) (b7 r.cb x.sb r.c x.s r.D x.W w0 w1 w2 w3 w4) (b7 r.cb x.sb r.c x.s r.D x.W w0 w1 w2 w3 w4) :=
  ⟨running_of b7_runs, rfl, rfl, rfl, ⟨w0, w1, w2, w3, w4, rfl⟩, #[], by simp, fun w _ => b7_sel w⟩
/-- A shard is on its way to its seat. -/
theorem seated_born : Seated Tryz.prog false (chairOf r x).K (chairOf r x).loc (chairOf r x).B (chairOf r x).seat 32 (born0 r.cb x.sb) := by
  refine .inl ⟨31, default, rfl, ?_⟩
  refine WayD.goes (Stop := fun d g => ∃ w0 w1 w2 w3 w4, g = b7 r.cb x.sb r.c x.s r.D x.W w0 w1 w2 w3 w4) (fun w d h => h.at d) (fun d g w h => ?_) (birth (c := r.c) (s := x.s) (D := r.D) (W := x.W) (fun w h => chair_reads h) (fun a ha => ?_) fun w0 w1 w2 w3 w4 => ⟨w0, w1, w2, w3, w4, rfl⟩)
  · obtain ⟨w0, w1, w2, w3, w4, e⟩ := h
    rw [e]
    exact ⟨_, atIn_b7⟩
  · refine ⟨a, rfl, ⟨a, rfl, chair_still ha⟩, ?_⟩
    show a.block < r.cb + x.sb + r.c + x.s + 1
    rcases ha with rfl | rfl | rfl | rfl <;> (dsimp only; omega)
end
end Go.Proofs.Shardlog
/- Walks of the first goroutine: what New is made of. -/
namespace Go.Tame
open Go.Conc
section
variable {P : Program} {Z : Setting P} {cs : List Frame} {X : Z.Gh → Frame → List Frame → World → Prop} {b : Frame} {k : List Item}
/-- A loop, by what is left to do. -/
theorem CW.loopI (ok : Z.Ok) {c : Code} (I : Nat → Z.Gh → Act → World → Prop) (h : ∀ n, (∀ m, m < n → ∀ g a v, I m g a v → CW Z g (b.at a (.inLoop c :: k)) cs v X) → ∀ g a v, I n g a v → CW Z g (b.at a (.code c :: .inLoop c :: k)) cs v X) (n : Nat) (g : Z.Gh) (a : Act) (v : World) (hI : I n g a v) :
    CW Z g (b.at a (.code (.loop c) :: k)) cs v X := by
  have key : ∀ n g a v, I n g a v → CW Z g (b.at a (.code c :: .inLoop c :: k)) cs v X := by
    intro n
    induction n using Nat.strongRecOn with
    | _ n ih => exact h n fun m hm g a v hI => .inLoop ok (ih m hm g a v hI)
  exact .loop ok (key n g a v hI)
end
end Go.Tame
namespace Go.Proofs.Shardlog
open Go Go.Conc Go.Tame Go.Proofs
open Go.ConcN (upd upd_ne upd_same)
variable {Ω : World}
section
variable {g : List Rec} {fr : Frame} {cs : List Frame} {v : World} {X : List Rec → Frame → List Frame → World → Prop} {b : Frame} {a : Act} {k : List Item} {cb c D cnt n : Nat} {ms : List Member}
/-- What is left of a region behind a call, walked alone. -/
theorem ZZ.rest {l m : List Oper} {x : Oper} {rest : List Nat} (hr : rest = List.range' (l.length + 1) m.length) (hops : (m.all fun o => valOp o.op && okOp Tryz.prog o.op) = true) (hk : b.kind ≠ .early)
    (h : ∀ (Q : _root_.Go.Exit → Act → World → Prop) (u : World), u.heap = v.heap → u.os = v.os → (∀ a' v', CW (ZZ Ω) g (b.at a' k) cs v' X → Q .normal a' v') → wpList Tryz.L (l ++ x :: m).toArray Q m a u) : CW (ZZ Ω) g (b.at a (.inRegion (l ++ x :: m).toArray rest :: k)) cs v X := by
  have e : rest = List.range' (l.length + 1) m.length ++ [] := by simp [hr]
  rw [e]
  refine CW.preK ZZ.ok hk m (l.length + 1) a v (fun j hj => ?_) (fun o ho => ?_) fun t _ => h _ (retape v t) rfl rfl fun a' v' hx => ⟨rfl, .regionEnd ZZ.ok hx⟩
  · rw [List.getElem?_toArray, List.getElem?_append_right (by omega), show l.length + 1 + j - l.length = j + 1 by omega, List.getElem?_cons_succ]
  · have := List.all_eq_true.1 hops o ho
    simpa using this
theorem ops_all {ops : Array Oper} (h : (ops.toList.all fun o => valOp o.op && okOp Tryz.prog o.op) = true) (i : Nat) (o : Oper) (ho : ops[i]? = some o) : valOp o.op = true ∧ okOp Tryz.prog o.op = true := by
  have hm : o ∈ ops.toList := List.mem_of_getElem? (i := i) (by simpa using ho)
  have := List.all_eq_true.1 h o hm
  simpa using this
theorem spawn_runs {Q : Program} {ρ : Operand → Value} {o : Oper} {c : Call} {x : Operand} {f : Fn} {first captured args : Array Value} (ho : o.op = .go c) (hc : c.callee = .value x) (hx : ρ x = .func f first captured) (ha : first ++ c.args.map ρ = args) (w : World) :
    (execOp ρ o).run Q w = .ok (.spawn { target := .fn f captured, args := args }) w ∧ (execOp ρ o).events Q w #[] = #[] := by
  subst ha
  have e : execOp ρ o = (do pure (Next.spawn { target := .fn f captured, args := first ++ c.args.map ρ }) : Sem Next) := by
    unfold execOp
    rw [ho]
    show (do pure (Next.spawn (← resolve ρ c o.type)) : Sem Next) = _
    unfold resolve
    rw [hc]
    show (do pure (Next.spawn (← Deferred.ofValue (ρ x) (c.args.map ρ))) : Sem Next) = _
    rw [hx]
    rfl
  rw [e]
  exact ⟨rfl, rfl⟩
theorem protOf_cnt (m : Nat) : protOf Ω (⟨cb, c, D, ms, m, true⟩ :: g) = protOf Ω (⟨cb, c, D, ms, cnt, true⟩ :: g) := by
  unfold protOf
  congr 1
  · funext a
    simp only [List.mem_cons, exists_eq_or_imp, keepAt]
  · funext a
    simp only [List.mem_cons, exists_eq_or_imp]
theorem few {cnt : Nat} (h : cnt ≤ 3) : (cnt : Int) * 4294967296 = 0 ∨ Fewer ((cnt : Int) * 4294967296) := by
  unfold Fewer
  omega
/-- One more is counted: function 38. -/
theorem zz_add (hb : Below g n) (hc : n ≤ c) (hcnt : cnt ≤ 3) (h : CW (ZZ Ω) (⟨cb, c, D, ms, cnt + 1, true⟩ :: g) (b.finish (.tuple #[])) cs v X) :
    CW (ZZ Ω) (⟨cb, c, D, ms, cnt, true⟩ :: g) (Frame.enter Tryz.prog 38 #[.pointer (some ⟨c, 6, none⟩), .int .i64 1] .normal) (b :: cs) v X := by
  have g6 : (protOf Ω (⟨cb, c, D, ms, cnt, true⟩ :: g)).gone ⟨c, 6, none⟩ := ⟨_, List.mem_cons_self .., .inl rfl⟩
  have g7 : (protOf Ω (⟨cb, c, D, ms, cnt, true⟩ :: g)).gone ⟨c, 7, none⟩ := ⟨_, List.mem_cons_self .., .inr rfl⟩
  refine CW.route (n := 143) (g' := ⟨cb, c, D, ms, cnt + 1, true⟩ :: g) (fr' := b.finish (.tuple #[])) (cs' := cs) (v' := v) (Rel := fun w u => ∃ d, u = (w.setCell ⟨c, 6, none⟩ (.int .u64 ((cnt : Int) * 4294967296 + 4294967296))).at d) (protOf_cnt (cnt + 1)) (fun w In hl hj => ?_) (fun w u d hl ⟨d', e⟩ => ?_) (fun w u d In hl hj ⟨d', e⟩ => ?_) h
  · obtain ⟨c6, c7⟩ := hj.count _ (List.mem_cons_self ..) rfl
    exact add_route (few hcnt) c6 (hl.warm g6 c6).2 (by rw [c7]; rfl) (prot_apart _ _ g6) g6 g7 fun d => ⟨rfl, d, rfl⟩
  · subst e
    exact ((Like.goneSet hl g6 _).at _).at _
  · subst e
    exact (hj.countUp hb hc (cnt + 1) d' (by omega)).at d
/-- A shard is started. -/
theorem zz_go {ops : Array Oper} {i : Nat} {rest : List Nat} {o : Oper} {sb s W : Nat} {xc xs : Array Value} {ec es : TypeId} {sr sr' : Nat × Nat} (hb : Below g n) (hc : n ≤ c) (hD : n ≤ D) (hW : n ≤ W) (hDW : D ≠ W) (hms : ms.length ≤ 3) (hne : s ≠ sb ∧ s ≠ cb ∧ s ≠ c ∧ sb ≠ c ∧ sb ≠ cb) (hΩ : Ω.heap.size ≤ sb ∧ Ω.heap.size ≤ s)
    (ho : ops[i]? = some o) (hw : Region.wanted o (yielded ops a.tmps) = true) (hk : b.kind ≠ .early) (hr : ∀ w, (execOp a.eval o).run Tryz.prog w = .ok (.spawn (call39 cb sb)) w ∧ (execOp a.eval o).events Tryz.prog w #[] = #[])
    (hcb : v.heap[cb]? = some (.cells #[.pointer (some ⟨c, 0, none⟩)] 23 (0, 1))) (hsb : v.heap[sb]? = some (.cells #[.pointer (some ⟨s, 0, none⟩)] 100 (0, 0))) (hcc : v.heap[c]? = some (.cells xc ec (5, 6))) (hc5 : xc[5]? = some (.chan (some D)))
    (hs : v.heap[s]? = some (.cells xs es (0, 0))) (hs16 : xs[16]? = some (.chan (some W))) (hDc : v.heap[D]? = some (.chan 0 #[] false sr.1 sr.2 false)) (hWc : v.heap[W]? = some (.chan 0 #[] false sr'.1 sr'.2 false))
    (h : ∀ j, CW (ZZ Ω) (⟨cb, c, D, ms ++ [⟨j, sb, s, W⟩], cnt, true⟩ :: g) (b.at (a.put o.dst undef) (.inRegion ops rest :: k)) cs (World.ice (World.ice v sb 0 1) s 16 17) X) :
    CW (ZZ Ω) (⟨cb, c, D, ms, cnt, true⟩ :: g) (b.at a (.inRegion ops (i :: rest) :: k)) cs v X := by
  obtain ⟨n1, n2, n3, n4, n5⟩ := hne
  have cell_of : ∀ {x : Nat} {cs : Array Value} {e : TypeId} {f : Nat × Nat} (j : Nat), v.heap[x]? = some (.cells cs e f) → v.cell? ⟨x, j, none⟩ = cs[j]? := fun {x cs e f} j h => by
    unfold World.cell?
    rw [h]
    rfl
  have hs' : (World.ice v sb 0 1).heap[s]? = some (.cells xs es (0, 0)) := by rw [ice_ne n1]; exact hs
  have frz : ∀ x : Addr, x = ⟨cb, 0, none⟩ ∨ x = ⟨sb, 0, none⟩ ∨ x = ⟨c, 5, none⟩ ∨ x = ⟨s, 16, none⟩ → (World.ice (World.ice v sb 0 1) s 16 17).frozen? x = true := by
    rintro x (rfl | rfl | rfl | rfl)
    · rw [ice_frozen (show cb ≠ s from Ne.symm n2), ice_frozen (show cb ≠ sb from Ne.symm n5)]
      unfold World.frozen?
      rw [hcb]
      rfl
    · rw [ice_frozen (show sb ≠ s from Ne.symm n1), show (World.ice v sb 0 1).frozen? ⟨sb, 0, none⟩ = _ from ice_frozen_self (a := ⟨sb, 0, none⟩) rfl hsb]
      rfl
    · rw [ice_frozen (show c ≠ s from Ne.symm n3), ice_frozen (show c ≠ sb from Ne.symm n4)]
      unfold World.frozen?
      rw [hcc]
      rfl
    · rw [show (World.ice (World.ice v sb 0 1) s 16 17).frozen? ⟨s, 16, none⟩ = _ from ice_frozen_self (a := ⟨s, 16, none⟩) rfl hs']
      rfl
  refine CW.go ZZ.ok (child := born0 cb sb) (es := #[]) (c := chairOf ⟨cb, c, D, [], 0, true⟩ ⟨0, sb, s, W⟩) (n := 32) (fr' := b.at (a.put o.dst undef) (.inRegion ops rest :: k)) (g' := fun j => ⟨cb, c, D, ms ++ [⟨j, sb, s, W⟩], cnt, true⟩ :: g) (v' := fun _ => World.ice (World.ice v sb 0 1) s 16 17) (fun w hl => ?_) (by simp) (chair_wf hDW) (fun x hx => ?_) (fun x y hxy => ?_) seated_born
    (fun j => ⟨fun x hx => ?_, fun x hx => ?_⟩) (fun j x hx => ?_) (fun j x hx => ?_) (fun j => prot_apart _) (fun w j hl => ?_) (fun w In j hj hIn hl hh => ?_) h
  · rw [stepG_spawn ho hw hk (hr w).1 (d := call39 cb sb) rfl, listed_none (hr w).2]
    rfl
  · rcases seat_has hx with rfl | rfl
    · exact ⟨_, _, _, hDc⟩
    · exact ⟨_, _, _, hWc⟩
  · rw [chair_cells] at hxy
    simp only [List.mem_cons, Prod.mk.injEq, List.not_mem_nil, or_false] at hxy
    rcases hxy with ⟨rfl, rfl⟩ | ⟨rfl, rfl⟩ | ⟨rfl, rfl⟩ | ⟨rfl, rfl⟩
    · rw [cell_of 0 hcb]; rfl
    · rw [cell_of 0 hsb]; rfl
    · rw [cell_of 5 hcc]; exact hc5
    · rw [cell_of 16 hs]; exact hs16
  · obtain ⟨r, hr, y, hy, hk⟩ := hx
    rcases List.mem_cons.1 hr with rfl | hr
    · exact ⟨_, List.mem_cons_self .., y, List.mem_append_left _ hy, hk⟩
    · exact ⟨r, List.mem_cons_of_mem _ hr, y, hy, hk⟩
  · obtain ⟨r, hr, hk⟩ := hx
    rcases List.mem_cons.1 hr with rfl | hr
    · exact ⟨_, List.mem_cons_self .., hk⟩
    · exact ⟨r, List.mem_cons_of_mem _ hr, hk⟩
  · obtain ⟨y, hy⟩ := hx
    rw [chair_cells] at hy
    refine ⟨_, List.mem_cons_self .., ⟨j, sb, s, W⟩, List.mem_append_right _ (List.mem_cons_self ..), ?_⟩
    simp only [List.mem_cons, Prod.mk.injEq, List.not_mem_nil, or_false] at hy
    rcases hy with ⟨h, _⟩ | ⟨h, _⟩ | ⟨h, _⟩ | ⟨h, _⟩
    · exact .inl h
    · exact .inr (.inl h)
    · exact .inr (.inr (.inl h))
    · exact .inr (.inr (.inr h))
  · exact ⟨_, List.mem_cons_self .., hx⟩
  · refine Like.more ((Like.ice hl hsb (fun i h1 h2 => by simp at h2) hΩ.1).ice hs' (fun i h1 h2 => by simp at h2) hΩ.2) (fun x hx => ?_) (fun x hx => ?_) rfl
    · obtain ⟨r, hr, y, hy, hk⟩ := hx
      rcases List.mem_cons.1 hr with rfl | hr
      · rcases List.mem_append.1 hy with hy | hy
        · exact .inl ⟨_, List.mem_cons_self .., y, hy, hk⟩
        · rcases List.mem_cons.1 hy with rfl | hy
          · refine .inr ⟨?_, frz x hk⟩
            rcases hk with rfl | rfl | rfl | rfl <;> rfl
          · cases hy
      · exact .inl ⟨r, List.mem_cons_of_mem _ hr, y, hy, hk⟩
    · obtain ⟨r, hr, hk⟩ := hx
      rcases List.mem_cons.1 hr with rfl | hr
      · exact ⟨_, List.mem_cons_self .., hk⟩
      · exact ⟨r, List.mem_cons_of_mem _ hr, hk⟩
  · exact Held.more hh hb hc hD hW hDW hj hIn hms
/-- A cluster of which the lone world has the first cells alone. -/
theorem zz_ghost {xc : Array Value} {ec : TypeId} {yb : Array Value} {eb : TypeId} (hΩ : Ω.heap.size ≤ c ∧ Ω.heap.size ≤ cb) (hb : Below g n) (hc : n ≤ c) (hD : n ≤ D) (hne : cb ≠ c) (hcc : v.heap[c]? = some (.cells xc ec (0, 0))) (h6 : xc[6]? = some (.int .u64 0)) (h7 : xc[7]? = some (.int .u32 0)) (hcb : v.heap[cb]? = some (.cells yb eb (0, 0)))
    (h : CW (ZZ Ω) (⟨cb, c, D, [], 0, true⟩ :: g) fr cs (World.ice (World.cut v c 6 5 6) cb 0 1) X) : CW (ZZ Ω) g fr cs v X := by
  have hlt : 7 < xc.size := (Array.getElem?_eq_some_iff.1 h7).1
  have cell_of : ∀ (j : Nat), v.cell? ⟨c, j, none⟩ = xc[j]? := fun j => by
    unfold World.cell?
    rw [hcc]
    rfl
  refine CW.ghost (g' := ⟨cb, c, D, [], 0, true⟩ :: g) ⟨fun x hx => ?_, fun x hx => ?_⟩ (prot_apart _) (fun w In hl hj => ⟨?_, hj.newRec hb hc hD (hl.cell ((cell_of 6).trans h6)) (hl.cell ((cell_of 7).trans h7))⟩) h
  · obtain ⟨r, hr, k⟩ := hx
    exact ⟨r, List.mem_cons_of_mem _ hr, k⟩
  · obtain ⟨r, hr, k⟩ := hx
    exact ⟨r, List.mem_cons_of_mem _ hr, k⟩
  · refine Like.ice (f := (0, 0)) (x := yb) (e := eb) (Like.cut hl hcc (fun i _ h2 => by simp at h2) (by omega) (by omega) (fun x hx => ?_) (fun x hx => ?_) rfl hΩ.1) (by rw [cut_ne hne]; exact hcb) (fun i h1 h2 => by simp at h2) hΩ.2
    · obtain ⟨r, hr, y, hy, k⟩ := hx
      rcases List.mem_cons.1 hr with rfl | hr
      · cases hy
      · exact ⟨r, hr, y, hy, k⟩
    · obtain ⟨r, hr, k⟩ := hx
      rcases List.mem_cons.1 hr with rfl | hr
      · refine .inr ?_
        rcases k with rfl | rfl
        · exact ⟨rfl, rfl, by simp⟩
        · exact ⟨rfl, rfl, by simp⟩
      · exact .inl ⟨r, hr, k⟩
end
end Go.Proofs.Shardlog
/- New: what stands as its loop goes. -/
namespace Go.Proofs.Shardlog
open Go Go.Conc Go.Tame Go.Proofs
variable {Ω : World}
/-- A shard that has been started. -/
structure ShardAt (u : World) (i N : Nat) (x : Member) (m R lo hi : Nat) : Prop where
  cells : u.heap[x.s]? = some (.cells (newCells i N m x.W R) 154 (16, 17))
  maps : ∀ j, j < 6 → u.heap[m + j]? = some emptyMap
  work : u.heap[x.W]? = some (.chan 0 #[] false 0 0 false)
  worked : u.heap[R]? = some (.chan 0 #[] false 0 0 false)
  two : x.W ≠ R
  ge : lo ≤ x.s ∧ lo ≤ m ∧ lo ≤ x.W ∧ lo ≤ R
  lt : x.s < hi ∧ m + 6 ≤ hi ∧ x.W < hi ∧ R < hi
/-- The cells of a cluster, but for its last two. -/
def clusterCells (mu : Int) (sl txs bag : Value) (D : Nat) : Array Value := #[.int .i32 mu, .int .u32 0, sl, txs, bag, .chan (some D)]
/-- A cluster of which k shards have been started. -/
structure NewAt (v u : World) (N k cb c D : Nat) (ms : List Member) (pos : Nat → Nat) : Prop where
  len : ms.length = k
  cbox : u.heap[cb]? = some (.cells #[.pointer (some ⟨c, 0, none⟩)] 23 (0, 1))
  cell : ∃ sl, u.heap[c]? = some (.cells (clusterCells 0 sl (.slice none 0 0) (.slice none 0 0) D) 94 (5, 6)) ∧ u.ownsRow (v.heap.size + 3) 100 1 sl k (ms.map fun x => .pointer (some ⟨x.s, 0, none⟩)) ∧ (k = 0 → sl = .slice none 0 0)
  done : u.heap[D]? = some (.chan 0 #[] false 0 0 false)
  shards : ∀ i x, ms[i]? = some x → ∃ m R, ShardAt u i N x m R (pos i) (pos (i + 1))
  mono : ∀ i, i < k → pos i ≤ pos (i + 1)
  first : v.heap.size + 3 ≤ pos 0
  last : pos k ≤ u.heap.size
  size : v.heap.size + 3 ≤ u.heap.size
  old : ∀ i, i < v.heap.size → u.heap[i]? = v.heap[i]?
  os : u.os = v.os
theorem own_more {u w : World} {base base' : Nat} {e : TypeId} {size n : Nat} {sl : Value} {xs : List Value} (h : u.ownsRow base e size sl n xs) (hb : base' ≤ base) (hw : ∀ g, sl.ownBlock = some g → w.heap[g]? = u.heap[g]?) : w.ownsRow base' e size sl n xs := by
  refine ⟨h.1, ?_⟩
  rcases h.2 with h | ⟨g, cap, cur, rfl, h2, h3, h4⟩
  · exact .inl h
  · exact .inr ⟨g, cap, cur, rfl, Nat.le_trans hb h2, by rw [hw g rfl]; exact h3, h4⟩
section
variable {v u u1 u2 w' : World} {N k cb c D : Nat} {ms : List Member} {pos : Nat → Nat} {s m W R base j : Nat} {sl sl' : Value} {xs : List Value}
theorem NewAt.next (h : NewAt v u N k cb c D ms pos) (hc : c = v.heap.size + 1) (hcb : cb = v.heap.size + 2) (hD : D = v.heap.size) (hcell : u.heap[c]? = some (.cells (clusterCells 0 sl (.slice none 0 0) (.slice none 0 0) D) 94 (5, 6))) (hxs : xs = ms.map fun x => .pointer (some ⟨x.s, 0, none⟩))
    (hown : u.ownsRow (v.heap.size + 3) 100 1 sl k xs) (hs : NewShard u u1 k N s m W R) (hu2 : u2.heap = (u1.alloc (.cells #[.pointer (some ⟨s, 0, none⟩)] 100)).heap) (hos2 : u2.os = u1.os)
    (hb : v.heap.size + 3 ≤ base) (hb0 : k = 0 → u1.heap.size < base) (hrow : w'.ownsRow base 100 1 sl' (k + 1) (xs ++ [.pointer (some ⟨s, 0, none⟩)])) (hgr : (u2.alloc (.cells #[.pointer (some ⟨s, 0, none⟩)] 100)).grownBy w' sl.ownBlock) :
    NewAt v (Tame.World.ice (Tame.World.ice (w'.setCell ⟨c, 2, none⟩ sl') u1.heap.size 0 1) s 16 17) N (k + 1) cb c D (ms ++ [⟨j, u1.heap.size, s, W⟩]) (fun i => if i ≤ k then pos i else u1.heap.size) ∧
      (w'.setCell ⟨c, 2, none⟩ sl').heap[u1.heap.size]? = some (.cells #[.pointer (some ⟨s, 0, none⟩)] 100) ∧ (w'.setCell ⟨c, 2, none⟩ sl').heap[s]? = some (.cells (newCells k N m W R) 154) ∧ s < u1.heap.size := by
  have hlt1 : ∀ {x : Nat} {o : Obj}, u1.heap[x]? = some o → x < u1.heap.size := fun hx => (Array.getElem?_eq_some_iff.1 hx).1
  have hltu : ∀ {x : Nat} {o : Obj}, u.heap[x]? = some o → x < u.heap.size := fun hx => (Array.getElem?_eq_some_iff.1 hx).1
  have u2old : ∀ {x : Nat} {o : Obj}, u1.heap[x]? = some o → u2.heap[x]? = some o := fun {x o} hx => by
    rw [hu2, alloc_get, if_neg (Nat.ne_of_lt (hlt1 hx))]
    exact hx
  have uold : ∀ {x : Nat} {o : Obj}, u.heap[x]? = some o → u2.heap[x]? = some o := fun {x o} hx => u2old (by rw [hs.old x (hltu hx)]; exact hx)
  have u2sb : u2.heap[u1.heap.size]? = some (.cells #[.pointer (some ⟨s, 0, none⟩)] 100) := by rw [hu2, alloc_get, if_pos rfl]
  have size2 : u2.heap.size = u1.heap.size + 1 := by rw [hu2, alloc_size]
  have hsle := hs.le
  -- the row's block
  have own : ∀ g, sl.ownBlock = some g → ∃ cur, u2.heap[g]? = some (.cells cur 100 (0, 0)) ∧ g < u.heap.size := fun g hg => by
    rcases hown.2 with ⟨rfl, _⟩ | ⟨g', cap, cur, rfl, h2, h3, h4⟩
    · cases hg
    · cases hg
      exact ⟨cur, uold h3, hltu h3⟩
  have wold : ∀ {x : Nat} {o : Obj}, u2.heap[x]? = some o → (∀ g cur, sl.ownBlock = some g → x = g → o = .cells cur 100 (0, 0) → False) → w'.heap[x]? = some o := fun {x o} hx hne => by
    have hlt : x < u2.heap.size := (Array.getElem?_eq_some_iff.1 hx).1
    rw [hgr.block x (by rw [alloc_size]; omega) fun e => ?_, alloc_get, if_neg (Nat.ne_of_lt hlt)]
    · exact hx
    · obtain ⟨cur, h1, _⟩ := own x e.symm
      rw [hx] at h1
      exact hne x cur e.symm rfl (Option.some.inj h1)
  -- the last world
  have fin : ∀ {x : Nat} {o : Obj}, w'.heap[x]? = some o → x ≠ c → x ≠ u1.heap.size → x ≠ s → (Tame.World.ice (Tame.World.ice (w'.setCell ⟨c, 2, none⟩ sl') u1.heap.size 0 1) s 16 17).heap[x]? = some o := fun {x o} hx n1 n2 n3 => by
    rw [ice_ne n3, ice_ne n2]
    have : (w'.setCell ⟨c, 2, none⟩ sl').heap[x]? = w'.heap[x]? := by
      simp only [World.setCell, Array.getElem?_modify]
      rw [if_neg (show ¬ c = x from fun e => n1 e.symm)]
    rw [this]
    exact hx
  have hsge := hs.ge
  have hslt := hlt1 hs.cells
  have husz := h.size
  have hnes : ∀ {x : Nat}, x < u.heap.size → x ≠ s ∧ x ≠ u1.heap.size := fun {x} hx => ⟨by omega, by omega⟩
  have both : ∀ {x : Nat} {o : Obj}, u.heap[x]? = some o → x ≠ c → (∀ cur, o ≠ .cells cur 100 (0, 0)) → (Tame.World.ice (Tame.World.ice (w'.setCell ⟨c, 2, none⟩ sl') u1.heap.size 0 1) s 16 17).heap[x]? = some o := fun {x o} hx n1 hno =>
    fin (wold (uold hx) fun g cur _ _ e => hno cur e) n1 (hnes (hltu hx)).2 (hnes (hltu hx)).1
  have both1 : ∀ {x : Nat} {o : Obj}, u1.heap[x]? = some o → x ≠ c → x ≠ s → (∀ cur, o ≠ .cells cur 100 (0, 0)) → (Tame.World.ice (Tame.World.ice (w'.setCell ⟨c, 2, none⟩ sl') u1.heap.size 0 1) s 16 17).heap[x]? = some o := fun {x o} hx n1 n2 hno =>
    fin (wold (u2old hx) fun g cur _ _ e => hno cur e) n1 (Nat.ne_of_lt (hlt1 hx)) n2
  have hc' := wold (uold hcell) (fun g cur _ _ e => by cases e)
  have hsz : (Tame.World.ice (Tame.World.ice (w'.setCell ⟨c, 2, none⟩ sl') u1.heap.size 0 1) s 16 17).heap.size = w'.heap.size := by
    rw [ice_size, ice_size]
    simp [World.setCell]
  have hw'sz : u1.heap.size + 2 ≤ w'.heap.size := by
    have := hgr.size
    rw [alloc_size] at this
    omega
  have hclt := hltu hcell
  have set_ne : ∀ {x : Nat}, x ≠ c → (w'.setCell ⟨c, 2, none⟩ sl').heap[x]? = w'.heap[x]? := fun {x} hx => by
    simp only [World.setCell, Array.getElem?_modify]
    rw [if_neg (show ¬ c = x from fun e => hx e.symm)]
  refine ⟨?_, by rw [set_ne (by omega)]; exact wold u2sb (fun g cur h1 h2 _ => by obtain ⟨_, _, h3⟩ := own g h1; omega), by rw [set_ne (by omega)]; exact wold (u2old hs.cells) (fun g cur _ _ e => by cases e), hslt⟩
  refine ⟨by rw [List.length_append, h.len]; rfl, both h.cbox (by omega) (fun cur e => by cases e), ⟨sl', ?_, ?_, fun e => by omega⟩, both h.done (by omega) (fun cur e => by cases e), fun i x hx => ?_, fun i hi => ?_, ?_, ?_, by rw [hsz]; omega, fun i hi => ?_, ?_⟩
  · rw [ice_ne (hnes hclt).1, ice_ne (hnes hclt).2]
    simp only [World.setCell, Array.getElem?_modify, if_true, hc']
    rfl
  · rw [List.map_append, ← hxs]
    refine own_more hrow hb fun g hg => ?_
    obtain ⟨hg1, hg2⟩ := hrow.lt g hg
    have e1 : g ≠ c := by omega
    have hgc : ∃ cap cur, w'.heap[g]? = some (.cells cur 100 (0, 0)) ∧ k + 1 ≤ cap ∧ cur.size = cap := by
      rcases hrow.2 with ⟨rfl, _⟩ | ⟨g', cap, cur, rfl, h2, h3, h4, h5, h6, _⟩
      · cases hg
      · cases hg
        exact ⟨cap, cur, h3, h4, by omega⟩
    obtain ⟨cap, cur, hg3, hg4, hg5⟩ := hgc
    have e2 : g ≠ u1.heap.size := fun e => by
      by_cases hk : k = 0
      · have := hb0 hk
        omega
      · have := wold u2sb (fun g' cur' h1 h2 _ => by
          obtain ⟨_, _, h3⟩ := own g' h1
          omega)
        rw [← e, hg3] at this
        injection this with this
        injection this with this
        have hz : cur.size = 1 := by rw [this]; rfl
        omega
    have e3 : g ≠ s := fun e => by
      have := wold (u2old hs.cells) (fun g' cur' _ _ e => by cases e)
      rw [← e, hg3] at this
      cases this
    rw [ice_ne e3, ice_ne e2]
    simp only [World.setCell, Array.getElem?_modify]
    rw [if_neg (show ¬ c = g from fun e => e1 e.symm)]
  · rcases Nat.lt_or_ge i ms.length with hi | hi
    · rw [List.getElem?_append_left hi] at hx
      have hik : i < k := h.len ▸ hi
      obtain ⟨m', R', k1, k2, k3, k4, k5, k6, k7⟩ := h.shards i x hx
      have hp0 : ∀ i, i ≤ k → v.heap.size + 3 ≤ pos i := fun i => by
        induction i with
        | zero => intro _; exact h.first
        | succ i ih => intro hi; have := h.mono i (by omega); have := ih (by omega); omega
      have := hp0 i (by omega)
      refine ⟨m', R', both k1 (by omega) (fun cur e => by cases e), fun j hj => both (k2 j hj) (by omega) (fun cur e => by cases e), both k3 (by omega) (fun cur e => by cases e), both k4 (by omega) (fun cur e => by cases e), k5, ?_, ?_⟩
      · try dsimp only
        rw [if_pos (show i ≤ k by omega)]; exact k6
      · try dsimp only
        rw [if_pos (show i + 1 ≤ k by omega)]; exact k7
    · rw [List.getElem?_append_right hi] at hx
      have hi0 : i - ms.length = 0 := by
        rcases Nat.eq_zero_or_pos (i - ms.length) with h | h
        · exact h
        · rw [List.getElem?_eq_none (by simp; omega)] at hx
          cases hx
      rw [hi0] at hx
      cases hx
      have hik : i = k := by have := h.len; omega
      subst hik
      have hWlt := hlt1 hs.work
      have hRlt := hlt1 hs.worked
      have hmlt := hlt1 (hs.maps 5 (by omega))
      have hmaps : ∀ j, j < 6 → m + j ≠ s := fun j hj e => by
        have := hs.maps j hj
        rw [e, hs.cells] at this
        cases this
      have hWs : W ≠ s := fun e => by
        have := hs.work
        rw [e, hs.cells] at this
        cases this
      have hRs : R ≠ s := fun e => by
        have := hs.worked
        rw [e, hs.cells] at this
        cases this
      refine ⟨m, R, ?_, fun j hj => both1 (hs.maps j hj) (by omega) (hmaps j hj) (fun cur e => by cases e), both1 hs.work (by dsimp only; omega) hWs (fun cur e => by cases e), both1 hs.worked (by omega) hRs (fun cur e => by cases e), hs.two, ?_, ?_⟩
      · have h1 := wold (u2old hs.cells) (fun g' cur' _ _ e => by cases e)
        have h2 : (Tame.World.ice (w'.setCell ⟨c, 2, none⟩ sl') u1.heap.size 0 1).heap[s]? = some (.cells (newCells i N m W R) 154) := by
          rw [ice_ne (Nat.ne_of_lt hslt)]
          simp only [World.setCell, Array.getElem?_modify]
          rw [if_neg (show ¬ c = s by omega)]
          exact h1
        exact ice_self h2
      · try dsimp only
        rw [if_pos (Nat.le_refl _)]
        have := h.last
        omega
      · try dsimp only
        rw [if_neg (by omega)]
        omega
  · try dsimp only
    rw [if_pos (show i ≤ k by omega)]
    split
    · exact h.mono i (by omega)
    · have : i = k := by omega
      subst this
      have := h.last
      omega
  · try dsimp only
    rw [if_pos (Nat.zero_le _)]
    exact h.first
  · try dsimp only
    rw [if_neg (by omega), hsz]
    omega
  · have hi' : i < u.heap.size := by omega
    have hbase : ∀ g, sl.ownBlock = some g → v.heap.size + 3 ≤ g := fun g hg => (hown.lt g hg).1
    have h1 : w'.heap[i]? = u.heap[i]? := by
      rw [hgr.block i (by rw [alloc_size]; omega) fun e => by have := hbase i e.symm; omega, alloc_get, if_neg (by omega), hu2, alloc_get, if_neg (by omega), hs.old i hi']
    rw [← h.old i hi, ← h1, ice_ne (hnes hi').1, ice_ne (hnes hi').2]
    simp only [World.setCell, Array.getElem?_modify]
    rw [if_neg (show ¬ c = i by omega)]
  · show (w'.setCell ⟨c, 2, none⟩ sl').os = _
    rw [← h.os, ← hs.os, ← hos2]
    have : (w'.setCell ⟨c, 2, none⟩ sl').os = w'.os := rfl
    rw [this]
    exact hgr.os
end
end Go.Proofs.Shardlog
/- Walks of the first goroutine: New. -/
namespace Go.Proofs.Shardlog
open Go Go.Conc Go.Tame Go.Proofs
variable {Ω : World}
def slots (n kv : Value) (cb : Nat) (six : Value) (J : Nat → Value) : Array Value := #[n, J 1, J 2, J 3, .pointer (some ⟨cb, 0, none⟩), J 5, six, J 7, J 8, J 9, J 10, J 11, J 12, J 13, J 14, J 15, J 16, n, kv, J 19, J 20, J 21, J 22, J 23, J 24, J 25, J 26, J 27, J 28, J 29, J 30, J 31, J 32, J 33, J 34, J 35, J 36, J 37, J 38, J 39, J 40]
theorem results_two {fn : Func} {x y : Tmp} (h : fn.results = #[.tmp x, .tmp y]) (tmps : Array Value) (P : Program) (w : World) : (results fn tmps).run P w = .ok (.tuple #[tmps.getD x undef, tmps.getD y undef]) w ∧ (results fn tmps).events P w #[] = #[] := by
  unfold results
  rw [h, Array.mapM_eq_mapM_toList, map_eq_pure_bind]
  show Sem.run P (((do
    let __do_lift ← List.mapM _ [ResultVar.tmp x, ResultVar.tmp y]
    pure __do_lift.toArray) : Sem (Array Value)) >>= _) w = _ ∧ _
  simp only [List.mapM_cons, List.mapM_nil]
  exact ⟨rfl, rfl⟩
theorem slots_of {A : Array Value} {n kv : Value} {cb : Nat} (h : A = slots n kv cb (A.getD 6 undef) fun i => A.getD i undef) : ∃ six J, (⟨A, []⟩ : Act) = ⟨slots n kv cb six J, []⟩ := ⟨_, _, congrArg (fun t => (⟨t, []⟩ : Act)) h⟩
theorem new_append' {c cb sb s base k : Nat} {n kv sl : Value} {w : World} {xs : List Value} {Q : _root_.Go.Exit → Act → World → Prop} {A : Array Value} (hA : A = slots n kv cb (.pointer (some ⟨sb, 0, none⟩)) fun i => A.getD i undef)
    (hcb : w.cell? ⟨cb, 0, none⟩ = some (.pointer (some ⟨c, 0, none⟩))) (hsb : w.cell? ⟨sb, 0, none⟩ = some (.pointer (some ⟨s, 0, none⟩))) (hc2 : w.cell? ⟨c, 2, none⟩ = some sl) (hz : w.frozen? ⟨c, 2, none⟩ = false) (hown : w.ownsRow base 100 1 sl k xs) (hk : k ≤ 3) (hb : base ≤ w.heap.size) (hcl : c < base) (hcbl : cb < base)
    (hQ : ∀ J sl' w', w'.ownsRow base 100 1 sl' (k + 1) (xs ++ [.pointer (some ⟨s, 0, none⟩)]) → (w.alloc (.cells #[.pointer (some ⟨s, 0, none⟩)] 100)).grownBy w' sl.ownBlock → Q .normal ⟨slots n kv cb (.pointer (some ⟨sb, 0, none⟩)) J, []⟩ (w'.setCell ⟨c, 2, none⟩ sl')) :
    wpAny Tryz.L .any ops8 Q 11 (Array.replicate 11 false) ⟨A, []⟩ w := by
  rw [hA]
  generalize (fun i => A.getD i undef) = J
  refine new_append hcb hsb hc2 hz hown hk hb hcl hcbl fun sl' w' h1 h2 => ?_
  exact hQ (fun i => if i = 24 then .pointer (some ⟨c, 0, none⟩) else if i = 25 then .pointer (some ⟨c, 0, none⟩) else if i = 26 then .pointer (some ⟨c, 0, none⟩) else if i = 27 then .pointer (some ⟨c, 2, none⟩) else if i = 28 then sl else if i = 29 then .pointer (some ⟨s, 0, none⟩) else if i = 30 then .slice (some ⟨w.heap.size, 0, none⟩) 1 1 else if i = 31 then sl' else if i = 32 then .pointer (some ⟨c, 0, none⟩) else if i = 33 then .pointer (some ⟨c, 2, none⟩) else J i) sl' w' h1 h2
section
variable {g : List Rec} {v : World} {N : Nat}
theorem NewAt.same {u u' : World} {k cb c D : Nat} {ms : List Member} {pos : Nat → Nat} (h : NewAt v u N k cb c D ms pos) (hu : u'.heap = u.heap) (ho : u'.os = u.os) : NewAt v u' N k cb c D ms pos := by
  obtain ⟨h1, h2, ⟨sl, h3, h4, h5⟩, h6, h7, h8, h9, h10, h11, h12, h13⟩ := h
  refine ⟨h1, by rw [hu]; exact h2, ⟨sl, by rw [hu]; exact h3, own_more h4 (Nat.le_refl _) fun g _ => by rw [hu], h5⟩, by rw [hu]; exact h6, fun i x hx => ?_, h8, h9, by rw [hu]; exact h10, by rw [hu]; exact h11, fun i hi => by rw [hu]; exact h12 i hi, ho.trans h13⟩
  obtain ⟨m, R, k1, k2, k3, k4, k5, k6, k7⟩ := h7 i x hx
  exact ⟨m, R, by rw [hu]; exact k1, fun j hj => by rw [hu]; exact k2 j hj, by rw [hu]; exact k3, by rw [hu]; exact k4, k5, k6, k7⟩
set_option maxHeartbeats 4000000 in
theorem zz_new (hΩ : Ω.heap.size ≤ v.heap.size) (h1 : 1 ≤ N) (h4 : N ≤ 4) (hb : Below g v.heap.size) :
    CWCall (ZZ Ω) g 25 #[.int .i64 N] v fun g' y v' => ∃ ms pos, g' = ⟨v.heap.size + 2, v.heap.size + 1, v.heap.size, ms, N, true⟩ :: g ∧ y = .tuple #[.pointer (some ⟨v.heap.size + 1, 0, none⟩), .nilIface] ∧ NewAt v v' N N (v.heap.size + 2) (v.heap.size + 1) v.heap.size ms pos := by
  refine ZZ.body (tmps := #[.int .i64 N, undef, undef, undef, undef, undef, undef, undef, undef, undef, undef, undef, undef, undef, undef, undef, undef, undef, undef, undef, undef, undef, undef, undef, undef, undef, undef, undef, undef, undef, undef, undef, undef, undef, undef, undef, undef, undef, undef, undef, undef]) Tryz.func25 (by rfl) (by kernel_rfl) ?_
  intro b cs
  refine CW.seq ZZ.ok (ZZ.plain (by kernel_rfl) (by simp [base]) fun Q u0 hu0 ho0 hQ => ?_)
  go_wp2
  refine CW.seq ZZ.ok (CW.seq ZZ.ok (ZZ.plain (by kernel_rfl) (by simp [base]) fun Q u1 hu1 ho1 hQ => ?_))
  go_wp2
  refine CW.cond (t := false) ZZ.ok ?_ ?_
  · show Value.bool (decide ((N : Int) < 1) || decide (4 < (N : Int))) = Value.bool false
    rw [decide_eq_false (by omega), decide_eq_false (by omega)]
    rfl
  simp only [if_false, Bool.false_eq_true]
  refine CW.skip ZZ.ok (CW.seq ZZ.ok (ZZ.plain (by kernel_rfl) (by simp [base]) fun Q u2 hu2 ho2 hQ => ?_))
  have hs2 : u2.heap.size = v.heap.size := by rw [hu2, hu1, hu0]
  have hh2 : u2.heap = v.heap := by rw [hu2, hu1, hu0]
  have hos2 : u2.os = v.os := by rw [ho2, ho1, ho0]
  go_wp2
  clear hu0 hu1 hu2 ho0 ho1 ho2
  generalize hcbE : v.heap.size + 1 + 1 = cb
  generalize hcE : v.heap.size + 1 = c
  generalize hw3 : (((u2.alloc (Obj.chan 0 #[] false 0 0 false)).alloc (Obj.cells #[Value.int IntKind.i32 0, Value.int IntKind.u32 0, Value.slice none 0 0, Value.slice none 0 0, Value.slice none 0 0, Value.chan (some v.heap.size), Value.int IntKind.u64 0, Value.int IntKind.u32 0] 94)).alloc (Obj.cells #[Value.pointer (some { block := c, off := 0 })] 23)) = w3
  have g0 : w3.heap[v.heap.size]? = some (.chan 0 #[] false 0 0 false) := by
    rw [← hw3]
    simp only [alloc_get, alloc_size, hs2]
    rw [if_neg (by omega), if_neg (by omega), if_pos trivial]
  have g1 : w3.heap[c]? = some (.cells #[Value.int IntKind.i32 0, Value.int IntKind.u32 0, Value.slice none 0 0, Value.slice none 0 0, Value.slice none 0 0, Value.chan (some v.heap.size), Value.int IntKind.u64 0, Value.int IntKind.u32 0] 94 (0, 0)) := by
    rw [← hw3, ← hcE]
    simp only [alloc_get, alloc_size, hs2]
    simp
  have g2 : w3.heap[cb]? = some (.cells #[Value.pointer (some { block := c, off := 0 })] 23 (0, 0)) := by
    rw [← hw3, ← hcbE]
    simp only [alloc_get, alloc_size, hs2]
    simp
  have g3 : w3.heap.size = v.heap.size + 3 := by
    rw [← hw3]
    simp only [alloc_size, hs2]
  have g4 : ∀ i, i < v.heap.size → w3.heap[i]? = v.heap[i]? := fun i hi => by
    rw [← hw3]
    simp only [alloc_get, alloc_size, hs2]
    rw [if_neg (by omega), if_neg (by omega), if_neg (by omega), hh2]
  have g5 : w3.os = v.os := by rw [← hw3]; exact hos2
  have hne : cb ≠ c := by omega
  refine zz_ghost (n := v.heap.size) (cb := cb) (c := c) (D := v.heap.size) (by omega) hb (by omega) (Nat.le_refl _) hne g1 (by rfl) (by rfl) g2 ?_
  have hNA : NewAt v (Tame.World.ice (Tame.World.cut w3 c 6 5 6) cb 0 1) N 0 cb c v.heap.size [] (fun _ => v.heap.size + 3) := by
    refine ⟨rfl, ice_self (by rw [cut_ne hne]; exact g2), ⟨.slice none 0 0, ?_, World.ownsRow_nil _ _ _ _, fun _ => rfl⟩, ?_, fun i x hx => by simp at hx, fun i hi => by omega, Nat.le_refl _, ?_, ?_, fun i hi => ?_, g5⟩
    · rw [ice_ne (Ne.symm hne)]
      exact cut_self g1
    · rw [ice_ne (by omega), cut_ne (by omega)]
      exact g0
    · rw [ice_size, cut_size]
      omega
    · rw [ice_size, cut_size]
      omega
    · rw [ice_ne (by omega), cut_ne (by omega)]
      exact g4 i hi
  refine CW.seq ZZ.ok (CW.seq ZZ.ok (ZZ.plain (by kernel_rfl) (by simp [base]) fun Q u3 hu3 ho3 hQ => ?_))
  have hN0 := hNA.same hu3 ho3
  clear hNA hu3 ho3
  go_wp2
  refine CW.block ZZ.ok (CW.loopI ZZ.ok (fun n g' a v' => ∃ k ms pos, n = N - k ∧ k ≤ N ∧ g' = ⟨cb, c, v.heap.size, ms, k, true⟩ :: g ∧ (∃ six J, a = ⟨slots (.int .i64 N) (.int .i64 k) cb six J, []⟩) ∧ NewAt v v' N k cb c v.heap.size ms pos) (fun n ih g' a v' hI => ?_) N _ _ _ ⟨0, [], _, rfl, Nat.zero_le _, rfl, slots_of (by kernel_rfl), hN0⟩)
  · obtain ⟨k, ms, pos, rfl, hk, rfl, ⟨six, J, rfl⟩, hn⟩ := hI
    refine CW.seq ZZ.ok (ZZ.plain (by kernel_rfl) (by simp [base]) fun Q u hu ho hQ => ?_)
    simp only [slots]
    have hn := hn.same hu ho
    clear hu ho
    go_wp2
    refine CW.seq ZZ.ok ?_
    by_cases hkN : k < N
    · refine CW.cond (t := true) ZZ.ok ?_ ?_
      · show Value.bool (decide (k < N)) = _
        rw [decide_eq_true hkN]
      simp only [if_true]
      refine CW.skip ZZ.ok (CW.seq ZZ.ok (CW.block ZZ.ok (CW.seq ZZ.ok (ZZ.plain (by kernel_rfl) (by simp [base]) fun Q u4 hu4 ho4 hQ => ?_))))
      have hn := hn.same hu4 ho4
      clear hu4 ho4
      go_wp2
      refine CW.seq ZZ.ok (ZZ.pre [_, _] [_, _, _] (by kernel_rfl) (by simp [base]) fun Q u5 hu5 ho5 hQ => ?_)
      have hn := hn.same hu5 ho5
      clear hu5 ho5
      go_wp2
      refine .enter ZZ.ok (i := 2) rfl (by simp [Region.wanted]) (by simp [base]) (fun w => call_enters (f := 37) (first := #[]) (captured := #[]) (args := #[.int .i64 k, .int .i64 N]) rfl rfl rfl (by simp [Act.eval]) Tryz.func37 (by kernel_rfl) (by kernel_rfl) w) (.calls ZZ.ok (fun h => ?_) (by kernel_rfl) fun t0 _ => Calls.mono (lone_newShard (v := retape u5 t0) k N) ?_)
      · rcases h with h | h | h
        · cases h
        · cases h
        · revert h; decide
      rintro e u6 ⟨s, m, W, R, rfl, hs⟩
      refine ⟨_, rfl, ?_⟩
      rw [Frame.finish_at]
      obtain ⟨sl, hcell, hown, hsl0⟩ := hn.cell
      refine ZZ.rest rfl (by kernel_rfl) (by simp [base]) fun Q u7 hu7 ho7 hQ => ?_
      have hs7 : u7.heap.size = u6.heap.size := by rw [hu7]
      go_wp2
      refine CW.seq ZZ.ok (CW.regionDraw ZZ.ok (by simp [base]) (ops_all (by kernel_rfl)) Tryz.mixed fun t d => ?_)
      generalize hu8 : World.mk (u7.alloc (Obj.cells #[Value.pointer (some { block := s, off := 0 })] 100)).heap t d (u7.alloc (Obj.cells #[Value.pointer (some { block := s, off := 0 })] 100)).os (u7.alloc (Obj.cells #[Value.pointer (some { block := s, off := 0 })] 100)).output = u8
      have hn5 := hn.same (u' := retape u5 t0) rfl rfl
      have e8 : u8.heap = (u6.alloc (Obj.cells #[Value.pointer (some { block := s, off := 0 })] 100)).heap := by
        rw [← hu8]
        show u7.heap.push _ = u6.heap.push _
        rw [hu7]
      have o8 : u8.os = u6.os := by
        rw [← hu8]
        exact ho7
      clear hu8 hu7 ho7 hs7
      have z8 : u8.heap.size = u6.heap.size + 1 := by rw [e8, alloc_size]
      have z6 : u5.heap.size ≤ u6.heap.size := hs.le
      have z5 := hn.size
      have low : ∀ x, x < u5.heap.size → u8.heap[x]? = u5.heap[x]? := fun x hx => by
        rw [e8, alloc_get, if_neg (by omega)]
        exact hs.old x hx
      have cb8 : u8.heap[cb]? = some (.cells #[.pointer (some ⟨c, 0, none⟩)] 23 (0, 1)) := by rw [low cb (by omega)]; exact hn.cbox
      have sb8 : u8.heap[u6.heap.size]? = some (.cells #[.pointer (some ⟨s, 0, none⟩)] 100 (0, 0)) := by rw [e8, alloc_get, if_pos rfl]
      have c8 : u8.heap[c]? = some (.cells (clusterCells 0 sl (.slice none 0 0) (.slice none 0 0) v.heap.size) 94 (5, 6)) := by rw [low c (by omega)]; exact hcell
      obtain ⟨bs, hb1, hb2, hb3, hown8⟩ : ∃ bs, v.heap.size + 3 ≤ bs ∧ (k = 0 → u6.heap.size < bs) ∧ bs ≤ u8.heap.size ∧ u8.ownsRow bs 100 1 sl k (ms.map fun x => .pointer (some ⟨x.s, 0, none⟩)) := by
        by_cases hk0 : k = 0
        · subst hk0
          have hm0 : ms = [] := List.eq_nil_of_length_eq_zero hn.len
          rw [hsl0 rfl, hm0]
          exact ⟨u8.heap.size, by omega, fun _ => by omega, Nat.le_refl _, World.ownsRow_nil _ _ _ _⟩
        · refine ⟨v.heap.size + 3, Nat.le_refl _, fun h => absurd h hk0, by omega, own_more hown (Nat.le_refl _) fun x hx => low x (hown.lt x hx).2⟩
      refine any_cast (new_append' (c := c) (cb := cb) (sb := u6.heap.size) (s := s) (base := bs) (k := k) (n := .int .i64 N) (kv := .int .i64 k) (sl := sl) (xs := ms.map fun x => .pointer (some ⟨x.s, 0, none⟩)) (by kernel_rfl) ?_ ?_ ?_ ?_ hown8 (by omega) hb3 (by omega) (by omega) fun J' sl' w' hrow hgr => ⟨rfl, ?_⟩) rfl rfl rfl
      · unfold World.cell?
        rw [cb8]
        rfl
      · unfold World.cell?
        rw [sb8]
        rfl
      · unfold World.cell?
        rw [c8]
        rfl
      · unfold World.frozen?
        rw [c8]
        rfl
      have hnx := fun j => NewAt.next (j := j) hn5 hcE.symm (by omega) rfl hcell rfl hown hs e8 o8 hb1 hb2 hrow hgr
      obtain ⟨_, ksb, ks, kslt⟩ := hnx 0
      replace hnx := fun j => (hnx j).1
      generalize w'.setCell ⟨c, 2, none⟩ sl' = w9 at *
      clear hgr hrow
      have hgeW : u5.heap.size ≤ s ∧ u5.heap.size ≤ m ∧ u5.heap.size ≤ W ∧ u5.heap.size ≤ R := hs.ge
      have hclt : c < u6.heap.size := by omega
      have hcb9 : w9.heap[cb]? = some (.cells #[.pointer (some ⟨c, 0, none⟩)] 23 (0, 1)) := by
        have := (hnx 0).cbox
        rw [ice_ne (by omega), ice_ne (by omega)] at this
        exact this
      obtain ⟨sl9, hc9⟩ : ∃ sl9, w9.heap[c]? = some (.cells (clusterCells 0 sl9 (.slice none 0 0) (.slice none 0 0) v.heap.size) 94 (5, 6)) := by
        obtain ⟨sl9, h, _⟩ := (hnx 0).cell
        rw [ice_ne (by omega), ice_ne (by omega)] at h
        exact ⟨sl9, h⟩
      have hD9 : w9.heap[v.heap.size]? = some (.chan 0 #[] false 0 0 false) := by
        have := (hnx 0).done
        rw [ice_ne (by omega), ice_ne (by omega)] at this
        exact this
      have hWs : W ≠ s := fun e => by
        have := hs.work
        rw [e, hs.cells] at this
        cases this
      have hWlt : W < u6.heap.size := (Array.getElem?_eq_some_iff.1 hs.work).1
      have hW9 : w9.heap[W]? = some (.chan 0 #[] false 0 0 false) := by
        obtain ⟨m', R', h⟩ := (hnx 0).shards k ⟨0, u6.heap.size, s, W⟩ (by rw [List.getElem?_append_right (by rw [hn.len]; omega), hn.len]; simp)
        have := h.work
        dsimp only at this
        rw [ice_ne hWs, ice_ne (by omega)] at this
        exact this
      refine CW.seq ZZ.ok (ZZ.pre [_, _, _] [_] (by kernel_rfl) (by simp [base]) fun Q u9 hu9 ho9 hQ => ?_)
      simp only [slots]
      have hcbc : u9.cell? ⟨cb, 0, none⟩ = some (.pointer (some ⟨c, 0, none⟩)) := by
        unfold World.cell?
        rw [hu9, hcb9]
        rfl
      go_wp2
      refine .enter ZZ.ok (i := 3) rfl (by simp [Region.wanted]) (by simp [base]) (fun w => call_enters (f := 38) (first := #[]) (captured := #[]) (args := #[.pointer (some ⟨c, 6, none⟩), .int .i64 1]) rfl rfl rfl (by simp [Act.eval]) Tryz.func38 (by kernel_rfl) (by kernel_rfl) w) (zz_add hb (by omega) (by omega) ?_)
      rw [Frame.finish_at]
      refine .regionEnd ZZ.ok (ZZ.pre [_] [_] (by kernel_rfl) (by simp [base]) fun Q u10 hu10 ho10 hQ => ?_)
      go_wp2
      rw [← hu9, ← hu10] at hcb9 ksb hc9 ks hD9 hW9
      refine zz_go (n := v.heap.size) (i := 1) (rest := []) (sb := u6.heap.size) (s := s) (W := W) (sr := (0, 0)) (sr' := (0, 0)) hb (by omega) (Nat.le_refl _) (by have : u5.heap.size ≤ W := hgeW.2.2.1; omega) (by have : u5.heap.size ≤ W := hgeW.2.2.1; omega) (by rw [hn.len]; omega) ⟨by omega, by have : u5.heap.size ≤ s := hgeW.1; omega, by have : u5.heap.size ≤ s := hgeW.1; omega, by omega, by omega⟩ (by have : u5.heap.size ≤ s := hgeW.1; omega) rfl (by simp [Region.wanted]) (by simp [base])
        (fun w => spawn_runs (f := .func 39) (first := #[]) (captured := #[.pointer (some ⟨cb, 0, none⟩), .pointer (some ⟨u6.heap.size, 0, none⟩)]) (args := #[]) rfl rfl (by rfl) (by simp) w) hcb9 ksb hc9 (by rfl) ks (by rfl) hD9 hW9 fun j => ?_
      refine .regionEnd ZZ.ok (.inBlock ZZ.ok (ZZ.plain (by kernel_rfl) (by simp [base]) fun Q u11 hu11 ho11 hQ => ?_))
      go_wp2
      refine ih (N - (k + 1)) (by omega) _ _ _ ⟨k + 1, ms ++ [⟨j, u6.heap.size, s, W⟩], _, rfl, by omega, rfl, slots_of (by kernel_rfl), (hnx j).same ?_ ?_⟩
      · rw [hu11]
        show (Tame.World.ice (Tame.World.ice u10 u6.heap.size 0 1) s 16 17).heap = _
        simp only [Tame.World.ice]
        rw [hu10, hu9]
      · rw [ho11]
        show u10.os = w9.os
        rw [ho10, ho9]
    · have hkN' : k = N := by omega
      subst hkN'
      refine CW.cond (t := false) ZZ.ok ?_ ?_
      · show Value.bool (decide (k < k)) = _
        rw [decide_eq_false (by omega)]
      simp only [if_false, Bool.false_eq_true]
      refine CW.exit ZZ.ok rfl (CW.seq ZZ.ok (ZZ.plain (by kernel_rfl) (by simp [base]) fun Q u4 hu4 ho4 hQ => ?_))
      have hn := hn.same hu4 ho4
      clear hu4 ho4
      have hcbc : u4.cell? ⟨cb, 0, none⟩ = some (.pointer (some ⟨c, 0, none⟩)) := by
        unfold World.cell?
        rw [hn.cbox]
        rfl
      go_wp2
      refine CW.ret ZZ.ok rfl rfl Tryz.func25 (y := .tuple #[.pointer (some ⟨c, 0, none⟩), .nilIface]) (fun w => results_two (fn := Tryz.f25) (x := 2) (y := 3) rfl _ _ w) (.done ⟨rfl, _, rfl, ms, pos, rfl, rfl, hn⟩)
end
end Go.Proofs.Shardlog
