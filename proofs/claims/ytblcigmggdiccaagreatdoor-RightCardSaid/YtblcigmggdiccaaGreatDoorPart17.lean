/- Several texts in one: LoneL, LoneP, LoneQ, TameGive, TameStart. -/
import Derived.Test.YtblcigmggdiccaaGreatDoorPart15
import Derived.Test.YtblcigmggdiccaaGreatDoorPart16
import Derived.Deep.RegionHeld3
import Derived.BigQuiet
import Derived.Test.YtblcigmggdiccaaGreatDoorPart03
set_option linter.unusedSectionVars false
set_option linter.unusedSimpArgs false
set_option linter.unusedVariables false
set_option maxRecDepth 100000
/- errors.Is, alone. -/
namespace Go.Proofs.Shardlog
open Go Go.Conc Go.Tame Go.Proofs Go.RowKit Go.Mem Go.Stop
section
variable {w : World} {E : Nat → Addr} {Λ : Lab} {p : Nat}
theorem lone_unwrap {b : Addr} (h1 : w.cell? ⟨p, 2, none⟩ = some (errV b)) : Calls Tryz.L 51 #[.pointer (some ⟨p, 0, none⟩)] w fun e w' => e = .returned (errV b) ∧ w' = w := by
  unfold errV at *
  go_enter LL.func51, Tryz.ntmps51
  go_wp2
  go_ret
  exact ⟨rfl, rfl⟩
set_option maxHeartbeats 1000000 in
theorem lone_is2_same (b : Addr) (h1 : w.cell? ⟨p, 2, none⟩ = some (errV b)) :
    Calls Tryz.L 89 #[.iface 113 (.pointer (some ⟨p, 0, none⟩)), errV b, .bool true] w fun e w' => e = .returned (.bool true) ∧ w' = w := by
  obtain ⟨i, hi, hcmp⟩ := Option.map_eq_some_iff.1 LL.comp384
  obtain ⟨j, hj, hjs⟩ := Option.map_eq_some_iff.1 LL.size406
  have heq := run_eql_iface_ptr_same (P := Tryz.L) w b ((LL.underlying 44).trans Tryz.underlying44) ((LL.underlying 384).trans Tryz.underlying384) hi hcmp hj
  have hty := run_eql_iface_types (P := Tryz.L) 113 384 (.pointer (some ⟨p, 0, none⟩)) (.pointer (some b)) ((LL.underlying 44).trans Tryz.underlying44) (by decide) w
  have nE := LL.noIsE
  have uE := LL.noUnwrapE
  have vE := LL.noUnwrapsE
  have nW := LL.noIsW
  have uW := LL.hasUnwrapW
  have mU := LL.methodUnwrap
  unfold errV at *
  go_enter LL.func89, Tryz.ntmps89
  go_wp2
  refine wp_loop_rounds 2 ?_
  rw [rounds_succ]
  go_wp2_with fail
  refine (lone_unwrap h1).mono ?_
  rintro e w' ⟨rfl, rfl⟩
  unfold errV
  go_wp2
  rw [rounds_succ]
  go_wp2
  go_ret
  exact ⟨rfl, rfl⟩
set_option maxHeartbeats 1000000 in
theorem lone_is2_other (a b : Addr) {ca cb : Array Value} {ta tb : TypeId} (h1 : w.cell? ⟨p, 2, none⟩ = some (errV a)) (hne : a ≠ b) (ha : w.heap[a.block]? = some (.cells ca ta (0, 0))) (hb : w.heap[b.block]? = some (.cells cb tb (0, 0))) :
    Calls Tryz.L 89 #[.iface 113 (.pointer (some ⟨p, 0, none⟩)), errV b, .bool true] w fun e w' => e = .returned (.bool false) ∧ w' = w := by
  obtain ⟨i, hi, hcmp⟩ := Option.map_eq_some_iff.1 LL.comp384
  obtain ⟨j, hj, hjs⟩ := Option.map_eq_some_iff.1 LL.size406
  have heq := run_eql_iface_ptr_other (P := Tryz.L) w ((LL.underlying 44).trans Tryz.underlying44) ((LL.underlying 384).trans Tryz.underlying384) hi hcmp hj (by rw [hjs]; decide) hne ha hb
  have hty := run_eql_iface_types (P := Tryz.L) 113 384 (.pointer (some ⟨p, 0, none⟩)) (.pointer (some b)) ((LL.underlying 44).trans Tryz.underlying44) (by decide) w
  have nE := LL.noIsE
  have uE := LL.noUnwrapE
  have vE := LL.noUnwrapsE
  have nW := LL.noIsW
  have uW := LL.hasUnwrapW
  have mU := LL.methodUnwrap
  unfold errV at *
  go_enter LL.func89, Tryz.ntmps89
  go_wp2
  refine wp_loop_rounds 2 ?_
  rw [rounds_succ]
  go_wp2_with fail
  refine (lone_unwrap h1).mono ?_
  rintro e w' ⟨rfl, rfl⟩
  unfold errV
  go_wp2
  rw [rounds_succ]
  go_wp2
  go_ret
  exact ⟨rfl, rfl⟩
set_option maxHeartbeats 1000000 in
theorem lone_is_same (b : Addr) (h1 : w.cell? ⟨p, 2, none⟩ = some (errV b)) :
    Calls Tryz.L 53 #[.iface 113 (.pointer (some ⟨p, 0, none⟩)), errV b] w fun e w' => e = .returned (.bool true) ∧ w' = w := by
  obtain ⟨i, hi, hcmp⟩ := Option.map_eq_some_iff.1 LL.comp384
  obtain ⟨j, hj, hjs⟩ := Option.map_eq_some_iff.1 LL.size406
  have h8 := @run_callFunc_extern Tryz.L 88 _ Extern.ReflectliteType.typeOf LL.func88 (by kernel_rfl) (by kernel_rfl) (by kernel_rfl) (by kernel_rfl)
  have h32 := @run_callFunc_extern Tryz.L 304 _ (Extern.ReflectliteType.method fun t => do Extern.Rtype.noPackHeld "Comparable" t; pure (.bool (← typeInfo t).comparable)) LL.func304 (by kernel_rfl) (by kernel_rfl) (by kernel_rfl) (by kernel_rfl)
  have tT := LL.rtypeOf
  have cT := LL.comparable384
  have mR := LL.methodComparable
  have hI := hid' (lone_is2_same b h1)
  unfold errV at *
  go_enter LL.func53, Tryz.ntmps53
  go_wp2
  refine hI.out.mono ?_
  rintro e w' ⟨rfl, rfl⟩
  go_wp2
  go_ret
  exact ⟨rfl, rfl⟩
set_option maxHeartbeats 1000000 in
theorem lone_is_other (a b : Addr) {ca cb : Array Value} {ta tb : TypeId} (h1 : w.cell? ⟨p, 2, none⟩ = some (errV a)) (hne : a ≠ b) (ha : w.heap[a.block]? = some (.cells ca ta (0, 0))) (hb : w.heap[b.block]? = some (.cells cb tb (0, 0))) :
    Calls Tryz.L 53 #[.iface 113 (.pointer (some ⟨p, 0, none⟩)), errV b] w fun e w' => e = .returned (.bool false) ∧ w' = w := by
  obtain ⟨i, hi, hcmp⟩ := Option.map_eq_some_iff.1 LL.comp384
  obtain ⟨j, hj, hjs⟩ := Option.map_eq_some_iff.1 LL.size406
  have h8 := @run_callFunc_extern Tryz.L 88 _ Extern.ReflectliteType.typeOf LL.func88 (by kernel_rfl) (by kernel_rfl) (by kernel_rfl) (by kernel_rfl)
  have h32 := @run_callFunc_extern Tryz.L 304 _ (Extern.ReflectliteType.method fun t => do Extern.Rtype.noPackHeld "Comparable" t; pure (.bool (← typeInfo t).comparable)) LL.func304 (by kernel_rfl) (by kernel_rfl) (by kernel_rfl) (by kernel_rfl)
  have tT := LL.rtypeOf
  have cT := LL.comparable384
  have mR := LL.methodComparable
  have hI := hid' (lone_is2_other a b h1 hne ha hb)
  unfold errV at *
  go_enter LL.func53, Tryz.ntmps53
  go_wp2
  refine hI.out.mono ?_
  rintro e w' ⟨rfl, rfl⟩
  go_wp2
  go_ret
  exact ⟨rfl, rfl⟩
end
end Go.Proofs.Shardlog
/- number, alone. -/
namespace Go.Proofs.Shardlog
open Go Go.Conc Go.Tame Go.Proofs Go.RowKit Go.Mem Go.Stop
section
variable {w : World} {Λ : Lab} {E : Nat → Addr}
def allErr (E : Nat → Addr) : Array Value := #[errV (E 0), errV (E 1), errV (E 2), errV (E 5), errV (E 6), errV (E 7), errV (E 8), errV (E 9), errV (E 3)]
set_option maxHeartbeats 1000000 in
theorem lone_all (hE : Errs w Λ E) : Calls Tryz.L 52 #[] w fun e w' => e = .returned (.slice (some ⟨w.heap.size, 0, none⟩) 9 9) ∧ w' = w.alloc (.cells (allErr E) 44) := by
  have g0 := hE.glob 0 (by omega) (by omega)
  have g1 := hE.glob 1 (by omega) (by omega)
  have g2 := hE.glob 2 (by omega) (by omega)
  have g5 := hE.glob 5 (by omega) (by omega)
  have g6 := hE.glob 6 (by omega) (by omega)
  have g7 := hE.glob 7 (by omega) (by omega)
  have g8 := hE.glob 8 (by omega) (by omega)
  have g9 := hE.glob 9 (by omega) (by omega)
  have g3 := hE.glob 3 (by omega) (by omega)
  clear hE
  unfold allErr errV at *
  go_enter LL.func52, Tryz.ntmps52
  go_wp2
  go_ret
  exact ⟨rfl, rfl⟩
theorem lone_number_nil {a b : Value} : Calls Tryz.L 28 #[.nilIface, a, b] w fun e w' => e = .returned (.int .i64 0) ∧ w' = w := by
  go_enter LL.func28, Tryz.ntmps28
  go_wp2
  go_ret
  exact ⟨rfl, rfl⟩
theorem LL.comp113 : (Tryz.L.info? 113).map (·.comparable) = some true := by kernel_rfl
theorem LL.size117 : (Tryz.L.info? 117).map (·.size) = some 3 := by kernel_rfl
theorem LL.neq113 (a : Addr) (u : World) : (binOp .neq 44 (.iface 113 (.pointer (some a))) (.iface 113 (.pointer (some a)))).run Tryz.L u = .ok (.bool false) u := by
  obtain ⟨i, hi, hcmp⟩ := Option.map_eq_some_iff.1 LL.comp113
  obtain ⟨j, hj, hjs⟩ := Option.map_eq_some_iff.1 LL.size117
  simp only [binOp]
  simp [Op.equal, Op.maxDepth, run_equalIn_iface_ptr_same (P := Tryz.L) u 9998 a ((LL.underlying 44).trans Tryz.underlying44) ((LL.underlying 113).trans Tryz.underlying113) hi hcmp hj]
theorem LL.neq384 (a : Addr) (u : World) : (binOp .neq 44 (.iface 384 (.pointer (some a))) (.iface 384 (.pointer (some a)))).run Tryz.L u = .ok (.bool false) u := by
  obtain ⟨i, hi, hcmp⟩ := Option.map_eq_some_iff.1 LL.comp384
  obtain ⟨j, hj, hjs⟩ := Option.map_eq_some_iff.1 LL.size406
  simp only [binOp]
  simp [Op.equal, Op.maxDepth, run_equalIn_iface_ptr_same (P := Tryz.L) u 9998 a ((LL.underlying 44).trans Tryz.underlying44) ((LL.underlying 384).trans Tryz.underlying384) hi hcmp hj]
end
end Go.Proofs.Shardlog
/- number, of an error, alone. -/
namespace Go.Proofs.Shardlog
open Go Go.Conc Go.Tame Go.Proofs Go.RowKit Go.Mem Go.Stop Go.BigFrame
/-- The rest of a region that draws, where it only reads: one walk of the text's order. -/
theorem any_quiet {P : Program} {l : List Oper} {k : Nat} {listed : Array Bool} {Q : _root_.Go.Exit → Act → World → Prop} {a : Act} {w : World} (hs : Region.noSelect l.toArray = true) (hB : Region.lexFrom .any l.toArray (l.drop k).length k listed = true)
    (h : wpQuiet P l.toArray (fun w' => ∃ n, w' = w.drewN n) (fun a' => ∀ w', (∃ n, w' = w.drewN n) → Q .normal a' w') (l.drop k) a) : wpAny P .any l.toArray Q (l.drop k).length listed a w :=
  wpAny_of_quiet (Q := fun a' => ∀ w', (∃ n, w' = w.drewN n) → Q .normal a' w') (fun _ w' hw' h => h w' hw') _ _ _ _ ⟨0, rfl⟩ (wpAnyQ_lex hs (l.drop k) k listed a (by simp [List.getElem?_drop]) hB h)
theorem any_call {ops : Array Oper} {i : Nat} {o : Oper} {a : Act} {w : World} {K : Act → World → Prop} {Q : _root_.Go.Exit → Act → World → Prop} {f : FuncId} {xs : Array Operand} {ts : Array TypeId} {args : Array Value} {fn : Func} {R : Value → World → Prop} (ho : ops[i]? = some o) (hop : o.op = .call { callee := .value (.func f), args := xs, argTypes := ts }) (hg : o.guard = none) (ha : xs.map a.eval = args)
    (hf : Tryz.L.funcs[f]? = some fn) (hb : fn.body.isNone = false) (hn : (fn.name == "runtime.NumGoroutine") = false) (hc : Calls Tryz.L f args w fun e w' => ∃ y, e = .returned y ∧ R y w') (hK : ∀ y w', R y w' → K (a.put o.dst y) w') : wpOp Tryz.L ops Q i K a w := by
  have := call_draw (ops := ops) (Q := Q) hop hg ha hf hb hn hc hK
  unfold wpOp
  simp only [ho]
  split
  · rename_i hw
    rw [if_pos hw] at this
    exact .inl this
  · rename_i hw
    rw [if_neg hw] at this
    exact this
def ordE : Nat → Nat
  | 0 => 0 | 1 => 1 | 2 => 2 | 3 => 5 | 4 => 6 | 5 => 7 | 6 => 8 | 7 => 9 | _ => 3
theorem ordE_lt (k : Nat) : ordE k < 10 ∧ ordE k ≠ 4 := by
  unfold ordE
  split <;> decide
theorem ordE_inj {k m : Nat} (hk : k < 9) (hm : m < 9) (h : ordE k = ordE m) : k = m := by
  rcases k with _ | _ | _ | _ | _ | _ | _ | _ | _ | k <;> rcases m with _ | _ | _ | _ | _ | _ | _ | _ | _ | m <;> simp_all [ordE] <;> omega
theorem allErr_get (E : Nat → Addr) (k : Nat) (hk : k < 9) : (allErr E)[k]? = some (errV (E (ordE k))) := by
  rcases k with _ | _ | _ | _ | _ | _ | _ | _ | _ | k <;> first | rfl | omega
section
variable {w : World} {Λ : Lab} {E : Nat → Addr}
theorem f50_body : Tryz.f50.body.isNone = false := by kernel_rfl
theorem f50_name : (Tryz.f50.name == "runtime.NumGoroutine") = false := by kernel_rfl
theorem LL.mixed : Tryz.L.follows .mixedOrders = true := Tryz.mixed
set_option maxHeartbeats 1000000 in
theorem lone_number {e : Nat} {nm : ByteArray} {at' : Int} {i : Nat} (hi : i < 9) (hE : Errs w Λ E) (he : At w Λ still e (.cells #[.string nm, .int .i64 at', errV (E (ordE i))] 117 (0, 0))) :
    Calls Tryz.L 28 #[.iface 113 (.pointer (some ⟨e, 0, none⟩)), .string nm, .int .i64 at'] w fun ev w' => ev = .returned (.int .i64 ((i : Int) + 1)) ∧ ∃ Λ', Fr Λ Λ' (· = slip) w w' := by
  let Λ1 : Lab := fun x => if x = w.heap.size then slip else Λ x
  have f1 : Fr Λ Λ1 (fun _ => False) w (w.alloc (.cells #[.pointer none] 113)) := ((Fr.refl Λ _ w).alloc _).relab fun x hx => if_neg (by omega)
  have hb : At (w.alloc (.cells #[.pointer none] 113)) Λ1 slip w.heap.size (.cells #[.pointer none] 113) := At.new w Λ _
  have hE1 := hE.fr f1 fun z => z
  have he1 := he.fr f1 fun z => z
  have hst : ¬ (still = slip) := by decide
  have hA := hid' (fun (u : World) (h1 : u.heap = (w.alloc (.cells #[.pointer none] 113)).heap) (h2 : u.os = (w.alloc (.cells #[.pointer none] 113)).os) =>
    (lone_as_hit ⟨e, 0, none⟩ (w := u) (hE1.fr (Fr.same h1 h2 : Fr Λ1 Λ1 (fun _ => False) _ u) fun z => z) (hb.fr (Fr.same h1 h2 : Fr Λ1 Λ1 (fun _ => False) _ u) fun z => z)).mono (R' := fun ev w' => ∃ y, ev = .returned y ∧ (y = .bool true ∧ Fr Λ1 Λ1 (· = slip) (w.alloc (.cells #[.pointer none] 113)) w' ∧ At w' Λ1 slip w.heap.size (.cells #[.pointer (some ⟨e, 0, none⟩)] 113)))
      (fun ev w' h => ⟨_, h.1, rfl, (Fr.same h1 h2 : Fr Λ1 Λ1 (· = slip) _ u).trans h.2.1, h.2.2⟩))
  have hF := hid' (fun (u : World) (h : Fr Λ1 Λ1 (· = slip) (w.alloc (.cells #[.pointer none] 113)) u) => (⟨hE1.fr h hst, he1.fr h hst, (f1.mono fun _ z => z.elim).trans h⟩ : Errs u Λ1 E ∧ At u Λ1 still e (.cells #[.string nm, .int .i64 at', errV (E (ordE i))] 117 (0, 0)) ∧ Fr Λ Λ1 (· = slip) w u))
  have q1 := LL.neq113
  have q2 := LL.neq384
  clear hE he he1 hE1 hb f1
  unfold errV at *
  go_enter LL.func28, Tryz.ntmps28
  go_wp2_with fail
  refine wp_region_any LL.mixed ?_
  refine wpAny_take (i := 0) (oi := { dst := some 12, op := Op.move (Operand.tmp 0), type := 44, pos := "plain.go:36", after := #[], guard := none }) (v := ?v0) rfl (by kernel_rfl) (by kernel_rfl) (by kernel_rfl) (fun _ _ _ h => h) (Or.inl ⟨by rfl, ?h0⟩) ?_
  case h0 => intro u; go_simp; with_reducible rfl
  simp only [Act.put, List.setIfInBounds_toArray, List.set_cons_zero, List.set_cons_succ]
  refine wpAny_take (i := 1) (oi := { dst := some 13, op := Op.makeInterface 115 (Operand.tmp 7), type := 20, pos := "plain.go:36", after := #[], guard := none }) (v := ?v1) rfl (by kernel_rfl) (by kernel_rfl) (by kernel_rfl) (fun _ _ _ h => h) (Or.inl ⟨by rfl, ?h1⟩) ?_
  case h1 => intro u; go_simp; with_reducible rfl
  simp only [Act.put, List.setIfInBounds_toArray, List.set_cons_zero, List.set_cons_succ]
  refine wpAny_all (rs := [2]) (by kernel_rfl) (by simp) ?_
  intro j hj
  obtain rfl : j = 2 := by simpa using hj
  clear hj
  refine any_call (o := { dst := some 14, op := Op.call { callee := Callee.value (Operand.func 50), args := #[Operand.tmp 12, Operand.tmp 13], argTypes := #[44, 20] }, type := 4, pos := "plain.go:36", after := #[{ on := 0, ground := Ground.data }, { on := 1, ground := Ground.data }], guard := none })
    rfl rfl rfl (by simp [Act.eval]) (LL.funcOf Tryz.func50 rfl) f50_body f50_name (hA.out _ rfl rfl) ?_
  rintro y w5 ⟨rfl, hF5, hB5⟩
  clear hA
  simp only [Act.put, List.setIfInBounds_toArray, List.set_cons_zero, List.set_cons_succ]
  obtain ⟨hE5, he5, hF⟩ := hF.out w5 hF5
  have b5 : w5.cell? ⟨w.heap.size, 0, none⟩ = some (.pointer (some ⟨e, 0, none⟩)) := hB5.cell (i := 0) rfl
  have c0 : w5.cell? ⟨e, 0, none⟩ = some (.string nm) := he5.cell (i := 0) rfl
  have c1 : w5.cell? ⟨e, 1, none⟩ = some (.int .i64 at') := he5.cell (i := 1) rfl
  have c2 : w5.cell? ⟨e, 2, none⟩ = some (.iface 384 (.pointer (some (E (ordE i))))) := he5.cell (i := 2) rfl
  have hX := hid' (And.intro hE5 (And.intro he5 hF))
  clear hF5 hB5 hE5 he5 hF hst
  refine any_quiet (k := 3) (by kernel_rfl) (by kernel_rfl) ?_
  simp only [List.drop_succ_cons, List.drop_zero]
  repeat (go_big_quiet_step ((go_at_call 51; exact Calls.quiet_of_same (v := .iface 384 (.pointer (some (E (ordE i))))) (lone_unwrap (b := E (ordE i)) c2))))
  refine wpQuiet_nil ?_
  rintro w6 ⟨nq, hw6⟩
  obtain ⟨hE5, he5, hF⟩ := hX.out
  have f6 : Fr Λ1 Λ1 (fun _ => False) w5 w6 := Fr.same (by rw [hw6]; rfl) (by rw [hw6]; rfl)
  have hE6 := hE5.fr f6 fun z => z
  have he6 := he5.fr f6 fun z => z
  have hF6 := hF.trans (f6.mono fun _ z => z.elim)
  clear f6 hw6 b5 c0 c1 c2 hX hE5 he5 hF
  have hf7 : Fr Λ1 Λ1 (fun _ => False) w6 (w6.alloc (.cells (allErr E) 44)) := Fr.alloc' _ _
  have hE7 := hid' (hE6.fr hf7 fun z => z)
  have c2 : (w6.alloc (.cells (allErr E) 44)).cell? ⟨e, 2, none⟩ = some (.iface 384 (.pointer (some (E (ordE i))))) := (he6.fr hf7 fun z => z).cell (i := 2) rfl
  have hX := hid' (hF6.trans (hf7.mono fun _ z => z.elim))
  have hC : ∀ k, k < 9 → (w6.alloc (.cells (allErr E) 44)).cell? ⟨w6.heap.size, k, none⟩ = some (errV (E (ordE k))) := fun k hk => by
    unfold World.cell?
    rw [Mem.alloc_get, if_pos rfl]
    simpa using allErr_get E k hk
  have hE6' := hid' hE6
  clear hE6 he6 hF6 hf7
  go_wp2_with (go_at_call 52; refine (lone_all hE6'.out).mono ?_; rintro ev w7 ⟨rfl, rfl⟩)
  generalize w6.alloc (Obj.cells (allErr E) 44) = w7 at *
  generalize w6.heap.size = B at *
  clear hF q1 q2 hE6'
  go_loopw [49] (fun j wr => ∃ k : Nat, k ≤ 9 ∧ j = .int .i64 k ∧ (∀ m, m < k → m ≠ i) ∧ wr = w7) (fun j _ => 9 - (intOf j).toNat)
  case atStart => exact ⟨0, by omega, rfl, fun m hm => by omega, rfl⟩
  case round =>
    obtain ⟨k, hk, rfl, hne, rfl⟩ := hrel
    by_cases hlt : k < 9
    · have ck := hC k hlt
      have hEb := hE7.out
      by_cases he : k = i
      · subst he
        unfold errV at ck
        have hI := hid' (lone_is_same (w := wr) (p := e) (E (ordE k)) c2)
        unfold errV at hI
        go_wp2_with (go_at_call 53; refine hI.out.mono ?_; rintro e w8 ⟨rfl, rfl⟩)
        go_ret
        exact ⟨rfl, _, hX.out⟩
      · unfold errV at ck
        obtain ⟨ca, ta, ha⟩ := hEb.cells (ordE i) (ordE_lt i).1 (ordE_lt i).2
        obtain ⟨cb, tb, hb⟩ := hEb.cells (ordE k) (ordE_lt k).1 (ordE_lt k).2
        have hI := hid' (lone_is_other (w := wr) (p := e) (E (ordE i)) (E (ordE k)) c2 (hEb.apart _ _ (ordE_lt i).1 (ordE_lt k).1 (ordE_lt i).2 (ordE_lt k).2 fun h => he (ordE_inj hlt hi h.symm)) ha hb)
        unfold errV at hI
        clear ha hb hEb
        go_wp2_with (go_at_call 53; refine hI.out.mono ?_; rintro e w8 ⟨rfl, rfl⟩)
        go_roundw
        case rel => exact ⟨k + 1, by omega, by go_num, fun m hm => by
          by_cases h : m = k
          · rw [h]; exact he
          · exact hne m (by omega), trivial⟩
        case measure => simp [intOf]; omega
    · exact absurd rfl (hne i (by omega))
end
end Go.Proofs.Shardlog
/- The worker sends to one that waits: that one works on; who gave sits down in its turn. -/
namespace Go.Tame
open Go.Conc
open Go.ConcN (sumTo upd sumTo_upd upd_ne upd_same)
section trace
variable {Still Near Still' Near' : Nat → Loc → Prop} {Gone : Loc → Prop} {h j : Nat} {t : Trace}
theorem Tr.give (H : Tr Still Near Gone (Knows t h) t) (hh : Deaf t h = 0) (hj : Deaf t j = 0) (fh : FuncId) (ph : String) (fj : FuncId) (pj : String) (c k cap : Nat)
    (ho : ∀ g, g ≠ h → g ≠ j → ∀ l, (Still' g l ↔ Still g l) ∧ (Near' g l ↔ Near g l)) (hSj : ∀ l, ¬ Still' j l ∧ ¬ Near' j l) (hSh : ∀ l, Still' h l → ¬ Gone l) (hNh : ∀ l, Near' h l → ∀ g, ¬ Still g l) (hno : ∀ l, ¬ Still h l) (hM : ∀ l, Still' h l ∨ Near' h l → l.isMemory = true) :
    Tr Still' Near' Gone (Knows (t ++ met h j fh ph fj pj c k cap) j) (t ++ met h j fh ph fj pj c k cap) := by
  have hn := met_mute h j fh ph fj pj c k cap
  have hq := met_quiet h j fh ph fj pj c k cap
  have e0 : (t ++ met h j fh ph fj pj c k cap)[t.size]? = some { g := h, fn := fh, pos := ph, act := .send c k } := by simp [met]
  have e3 : (t ++ met h j fh ph fj pj c k cap)[t.size + 3]? = some { g := j, fn := fj, pos := pj, act := .recvDone c k } := by simp [met]
  have edge : HappensBefore (t ++ met h j fh ph fj pj c k cap) t.size (t.size + 3) :=
    Relation.TransGen.single (.inr ⟨.handOver (act?_of e0) (act?_of e3), ⟨h, g?_of e0, by rw [deaf_old (Nat.le_refl _)]; exact hh⟩, ⟨j, g?_of e3, by rw [deaf_quiet (hq j) 3 (by simp [met])]; exact hj⟩⟩)
  have hand : ∀ i, Knows t h i → Knows (t ++ met h j fh ph fj pj c k cap) j i := fun i hk => ⟨t.size + 3, _, e3, rfl, .inr ((hk.hb_new (Nat.le_refl _) e0 rfl).trans edge)⟩
  refine ⟨fun said => noRace_appendMute (H.clean said) hn, fun i a ha hm => ?_, fun i a ha g hg => ?_⟩
  · obtain ⟨x, hx, hxa⟩ := touch_of ha
    rcases getElem?_append_cases hx with ⟨hi, hx'⟩ | ⟨_, hxu⟩
    · rcases H.known i a (touch_old hx' hxa) hm with hk | ⟨hr, g, hS, hg⟩ | ⟨h1, h2, h3⟩
      · exact .inl (hand i hk)
      · by_cases e : g = j
        · subst e
          have := knows_own hx
          rw [show x.g = g from by have := g?_of hx'; rw [hg] at this; exact (Option.some.inj this).symm] at this
          exact .inl this
        · by_cases eh : g = h
          · subst eh
            exact absurd hS (hno _)
          · exact .inr (.inl ⟨hr, g, ((ho g eh e _).1).2 hS, by rw [g?_old hi]; exact hg⟩)
      · exact .inr (.inr ⟨h1, h2, by rw [heard_app _ hi]; exact h3⟩)
    · rw [hn x hxu] at hxa; cases hxa
  · obtain ⟨x, hx, hxa⟩ := touch_of ha
    rcases getElem?_append_cases hx with ⟨hi, hx'⟩ | ⟨_, hxu⟩
    · have hold := touch_old hx' hxa
      by_cases e : g = j
      · subst e
        rcases hg with ⟨_, z⟩ | ⟨_, z⟩
        · exact absurd z (hSj _).1
        · exact absurd z (hSj _).2
      · by_cases eh : g = h
        · subst eh
          have hm : a.loc.isMemory = true := hM _ (hg.imp (·.2) (·.2))
          rcases H.known i a hold hm with hk | ⟨hr, g', hS, hg'⟩ | ⟨h1, h2, h3⟩
          · exact hk.app _
          · rcases hg with ⟨hw, _⟩ | ⟨_, z⟩
            · rw [hr] at hw; cases hw
            · exact absurd hS (hNh _ z g')
          · rcases hg with ⟨_, z⟩ | ⟨hp, _⟩
            · exact absurd h1 (hSh _ z)
            · rw [h2] at hp; cases hp
        · refine (H.wrote i a hold g ?_).app _
          exact hg.imp (fun z => ⟨z.1, ((ho g eh e _).1).1 z.2⟩) fun z => ⟨z.1, ((ho g eh e _).2).1 z.2⟩
    · rw [hn x hxu] at hxa; cases hxa
end trace
theorem setChan_cell0 {w : World} {c : Nat} {o : Obj} (h : w.heap[c]? = some o) (hp : ∀ x e f, o ≠ .cells x e f) (a : Addr) (cap s r : Nat) (cl tm : Bool) : (w.setChan c cap #[] cl s r tm).cell? a = w.cell? a := by
  unfold World.cell?
  by_cases e : c = a.block
  · subst e
    rw [heap_setChan_self w h, h]
    cases o <;> first | rfl | exact absurd rfl (hp _ _ _)
  · rw [heap_setChan_ne _ _ _ _ _ _ _ e]
/-- The chairs behind a gift. -/
def given (In : Nat → Option Chair) (h j : Nat) (cm : Option Chair) : Nat → Option Chair := upd (upd In h cm) j none
section
variable {P : Program} {S : Prot} {In : Nat → Option Chair} {h : Nat} {T : Trace} {gs : Array Goroutine} {w : World} {q : Nat → Nat}
/-- The house behind a meeting. -/
theorem House.pass (C : House P S In h T gs w q) {j c cap k : Nat} {ch cm : Chair} (hjh : j ≠ h) (hj : In j = some ch) (hc : w.heap[c]? = some (.chan cap #[] false k k false)) {gs' : Array Goroutine} {H' : Goroutine} (hsz : gs'.size = gs.size) (hlt : h < gs.size)
    (hoth : ∀ x, x ≠ h → x ≠ j → gs'[x]? = gs[x]?) (hH : gs'[h]? = some H') (fh : FuncId) (ph : String) (fj : FuncId) (pj : String) {nh : Nat} (hafter : Seated P (h == 0) cm.K cm.loc cm.B cm.seat nh H') (hwf : cm.seat.Wf)
    (hcm : ∀ x, cm.seat.has x → ∃ (cap : Nat) (k : Nat × Nat), w.heap[x]? = some (.chan cap #[] false k.1 k.2 false)) (hkeep : cm.K w) (hprot : ∀ a, cm.still a → S.keep a) (hnear : ∀ a, cm.near a → S.gone a) :
    House P S (given In h j (some cm)) j (T ++ met h j fh ph fj pj c k cap) gs' (w.setChan c cap #[] false (k + 1) (k + 1) false) (upd q h nh) := by
  have hDeaf : ∀ x, Deaf (T ++ met h j fh ph fj pj c k cap) x = Deaf T x := fun x => Deaf_quiet (met_quiet _ _ _ _ _ _ _ _ _ x)
  have hin : ∀ x cc, given In h j (some cm) x = some cc → (x = h ∧ cc = cm) ∨ (x ≠ h ∧ x ≠ j ∧ In x = some cc) := fun x cc e => by
    unfold given at e
    by_cases ej : x = j
    · subst ej; rw [upd_same] at e; cases e
    · rw [upd_ne _ _ ej] at e
      by_cases eh : x = h
      · subst eh; rw [upd_same] at e; cases e; exact .inl ⟨rfl, rfl⟩
      · rw [upd_ne _ _ eh] at e; exact .inr ⟨eh, ej, e⟩
  have hself : given In h j (some cm) h = some cm := by unfold given; rw [upd_ne _ _ (Ne.symm hjh), upd_same]
  have hother : ∀ x, x ≠ h → x ≠ j → given In h j (some cm) x = In x := fun x eh ej => by unfold given; rw [upd_ne _ _ ej, upd_ne _ _ eh]
  have hcell : ∀ a, (w.setChan c cap #[] false (k + 1) (k + 1) false).cell? a = w.cell? a := fun a => setChan_cell0 hc (by simp) a _ _ _ _ _
  have hchan : ∀ x : Nat, (∃ (cap : Nat) (k : Nat × Nat), w.heap[x]? = some (.chan cap #[] false k.1 k.2 false)) → ∃ (cap' : Nat) (k' : Nat × Nat), (w.setChan c cap #[] false (k + 1) (k + 1) false).heap[x]? = some (.chan cap' #[] false k'.1 k'.2 false) := fun x ⟨cap', k', hx⟩ => by
    by_cases ec : c = x
    · subst ec; exact ⟨cap, (k + 1, k + 1), heap_setChan_self w hc _ _ _ _ _ _⟩
    · exact ⟨cap', k', by rw [heap_setChan_ne w _ _ _ _ _ _ ec]; exact hx⟩
  refine ⟨fun x y hx hy => ?_, fun x cc e => ?_, fun x cc z e hz => ?_, fun x cc e => ?_, fun x cc a e ha => ?_, fun x cc a e ha => ?_, C.apart, by unfold given; rw [upd_same], ?_, (hDeaf j).trans (C.hear j ch hj), fun x cc e => ?_, fun x hx => (hDeaf x).trans (C.new x (by omega)), fun x cc e => ?_⟩
  · by_cases e : x = h
    · subst e
      rw [hH] at hy
      obtain rfl := Option.some.inj hy
      rw [upd_same, hself]; exact hafter
    · rw [hoth x e hx] at hy
      rw [upd_ne q nh e, hother x e hx, hDeaf]
      exact C.waits x y e hy
  · rcases hin x cc e with ⟨rfl, rfl⟩ | ⟨_, _, e⟩
    · exact hwf
    · exact C.wf x cc e
  · rcases hin x cc e with ⟨rfl, rfl⟩ | ⟨_, _, e⟩
    · exact hchan z (hcm z hz)
    · exact hchan z (C.chans x cc z e hz)
  · rcases hin x cc e with ⟨rfl, rfl⟩ | ⟨_, _, e⟩
    · exact fun a y ha => (hcell a).trans (hkeep a y ha)
    · exact fun a y ha => (hcell a).trans (C.keep x cc e a y ha)
  · rcases hin x cc e with ⟨rfl, rfl⟩ | ⟨_, _, e⟩
    · exact hprot a ha
    · exact C.prot x cc a e ha
  · rcases hin x cc e with ⟨rfl, rfl⟩ | ⟨_, _, e⟩
    · exact hnear a ha
    · exact C.nearGone x cc a e ha
  · refine C.tr.give C.hears (C.hear j ch hj) fh ph fj pj c k cap (fun g eg ej l => ?_) (fun l => ?_) (fun l hl => ?_) (fun l hl g hg => ?_) (fun l hl => ?_) (fun l hl => ?_)
    · unfold stillOf nearOf
      rw [hother g eg ej]
      exact ⟨Iff.rfl, Iff.rfl⟩
    · have : given In h j (some cm) j = Option.none := by unfold given; rw [upd_same]
      constructor
      · rintro ⟨cc, e, _⟩; rw [this] at e; cases e
      · rintro ⟨cc, _, e, _⟩; rw [this] at e; cases e
    · obtain ⟨cc, e, a, rfl, ha⟩ := hl
      rw [hself] at e
      cases e
      rintro ⟨b, hb, hg⟩
      cases hb
      exact C.apart a hg (hprot a ha)
    · obtain ⟨cc, a, e, rfl, ha⟩ := hl
      rw [hself] at e
      cases e
      obtain ⟨c', e', b, hb, hs⟩ := hg
      cases hb
      exact C.apart a (hnear a ha) (C.prot g c' a e' hs)
    · obtain ⟨cc, e, _⟩ := hl
      rw [C.none] at e
      cases e
    · rcases hl with ⟨cc, _, a, rfl, _⟩ | ⟨cc, a, _, rfl, _⟩ <;> rfl
  · rw [hDeaf]
    rcases hin x cc e with ⟨rfl, rfl⟩ | ⟨_, _, e⟩
    · exact C.hears
    · exact C.hear x cc e
  · rw [hsz]
    rcases hin x cc e with ⟨rfl, rfl⟩ | ⟨_, _, e⟩
    · exact hlt
    · exact C.bound x cc e
/-- No other offers a receive there. -/
theorem House.noRecv (C : House P S In h T gs w q) {x : Nat} {y : Goroutine} (hx : x ≠ h) (hy : gs[x]? = some y) {c : Nat} (hc : ∀ s, In x = some s → ¬ s.seat.has c) : offersAt y c false = [] := by
  have hw := C.waits x y hx hy
  cases e : In x with
  | none => rw [e] at hw; exact offersAt_of_not_blocked (fun hb => by rcases hw.2.status with z | z <;> (rw [z] at hb; cases hb)) c false
  | some s =>
    rw [e] at hw
    rcases hw with ⟨k, w₀, hq, hg⟩ | ⟨_, _, g₂, rfl, _⟩
    · have := (Seated.status (C.keep x s e) (.inl ⟨k, w₀, hq, hg⟩)).elim (·.1) (fun z => by omega)
      exact offersAt_of_not_blocked (fun hb => by rw [this] at hb; cases hb) c false
    · refine offersAt_parked_off (fun cc hcc ec => ?_) _
      obtain ⟨c', z', rfl⟩ := (C.wf x s e).recvs cc hcc
      simp only [rcase, Value.chan.injEq, Option.some.injEq] at ec
      subst ec
      exact hc s e (Seat.has_of_mem hcc)
/-- The worker's record is laid anew, the world standing. -/
theorem House.setH (C : House P S In h T gs w q) (x : Goroutine) {fn : FuncId} {pos : String} {es : Array Event} (hes : ∀ e ∈ es, EvGood S e) : House P S In h (T ++ MemOp.ofEvents h fn pos es) (gs.setIfInBounds h x) w q := by
  obtain ⟨g1, g2, g3⟩ := good_ops (fn := fn) (pos := pos) C hes
  exact C.work (Kept.refl _ _) (by simp) (fun y hy => Array.getElem?_setIfInBounds_ne (fun e => hy e.symm)) g1 g2 g3
/-- Where the work has come to j. -/
def Gave (P : Program) (S : Prot) (In : Nat → Option Chair) (h j : Nat) (ch cm : Chair) (c kk k n : Nat) (w : World) (v : Value) (m : Machine) (t : Trace) : Prop :=
  ∃ (gs' : Array Goroutine) (g₂ : Goroutine) (d : Nat) (sl' : Option (Nat × Nat)) (q' : Nat → Nat), m = crowd gs' ((w.at d).setChan c 0 #[] false (k + 1) (k + 1) false) sl' ∧ gs'.size = n ∧ gs'[j]? = some (Conc.served g₂ (commResult ch.seat.cases ch.seat.shape kk v true)) ∧ ch.seat.home g₂ ∧
    House P S (given In h j (some cm)) j t gs' ((w.at d).setChan c 0 #[] false (k + 1) (k + 1) false) q'
/-- ████ THE WORKER SENDS TO ONE THAT WAITS. ████ -/
theorem House.give (C : House P S In h T gs w q) {a a₂ : Goroutine} {j c kk k : Nat} {ch cm : Chair} {v z z' : Value} {es : Array Event} {sl : Option (Nat × Nat)} (hjh : j ≠ h) (hj : In j = some ch) (hk : ch.seat.cases[kk]? = some (rcase c z))
    (inj : ∀ x c', In x = some c' → c'.seat.has c → x = j) (ha : gs[h]? = some a) (hrun : a.status = .running) (hsend : ∀ d, stepG P (h == 0) a (w.at d) = .comm a₂ #[scase c v z'] true .send (w.at d) es) (hes : ∀ e ∈ es, EvGood S e)
    (hc : w.heap[c]? = some (.chan 0 #[] false k k false)) {nh : Nat} (hafter : Seated P (h == 0) cm.K cm.loc cm.B cm.seat nh (Conc.served a₂ undef)) (hwf : cm.seat.Wf)
    (hcm : ∀ x, cm.seat.has x → ∃ (cap : Nat) (k : Nat × Nat), w.heap[x]? = some (.chan cap #[] false k.1 k.2 false)) (hkeep : cm.K w) (hprot : ∀ a, cm.still a → S.keep a) (hnear : ∀ a, cm.near a → S.gone a) :
    ∃ N m' T', runNT P N (crowd gs w sl) T = (.next m', T') ∧ Gave P S In h j ch cm c kk k gs.size w v m' T' := by
  have hsc : ch.seat.has c := ⟨kk, z, hk⟩
  have hwfj := C.wf j ch hj
  have hjlt := C.bound j ch hj
  have hu : ∀ (m : Nat) (cc : CommCase), m ≠ kk → ch.seat.cases[m]? = some cc → cc.chan ≠ .chan (some c) := by
    intro m cc hm hcc ec
    obtain ⟨c₂, z₂, rfl⟩ := hwfj.recvs cc (Array.mem_of_getElem? hcc)
    simp only [rcase, Value.chan.injEq, Option.some.injEq] at ec
    subst ec
    exact hm (hwfj.apart m kk _ _ _ hcc hk)
  refine runs_until (P := P)
    (Inv := fun μ m t => Gave P S In h j ch cm c kk k gs.size w v m t ∨ ∃ gs₁ d sl₁ q₁, ∃ pk : Bool, m = crowd gs₁ (w.at d) sl₁ ∧ gs₁.size = gs.size ∧ gs₁[h]? = some (if pk then parked a₂ #[scase c v z'] .send else a) ∧
      House P S In h t gs₁ (w.at d) q₁ ∧ (pk = true → 0 < q₁ j) ∧ μ = sumTo gs₁.size q₁ + (if pk then 0 else 1))
    (fun μ m t hInv => ?_) _ _ T (.inr ⟨gs, w.drawn, sl, q, false, rfl, rfl, ha, C, by simp, rfl⟩)
  rcases hInv with hdone | ⟨gs₁, d, sl₁, q₁, pk, rfl, hsz, ha₁, C₁, hpk, hμ⟩
  · exact .inl hdone
  refine .inr ?_
  obtain ⟨gj, hgj⟩ : ∃ gj, gs₁[j]? = some gj := ⟨gs₁[j]'(by omega), Array.getElem?_eq_getElem (by omega)⟩
  have hlth : h < gs₁.size := (Array.getElem?_eq_some_iff.1 ha₁).1
  have hSj : Seated P (j == 0) ch.K ch.loc ch.B ch.seat (q₁ j) gj := by have := C₁.waits j gj hjh hgj; rwa [hj] at this
  have hKj : ch.K (w.at d) := C₁.keep j ch hj
  have hsome : ∃ (i : Nat) (g : Goroutine), gs₁[i]? = some g ∧ g.status = .running := by
    cases pk with
    | false => exact ⟨h, a, ha₁, hrun⟩
    | true => exact ⟨j, gj, hgj, (Seated.status hKj hSj).elim (·.1) (fun z => by have := hpk rfl; omega)⟩
  have hawake : ∀ g ∈ gs₁, Conc.awake g := by
    intro g hg
    obtain ⟨i, hi, rfl⟩ := Array.mem_iff_getElem.1 hg
    by_cases e : i = h
    · subst e
      have : gs₁[i] = if pk then parked a₂ #[scase c v z'] .send else a := by simpa [Array.getElem?_eq_getElem hi] using ha₁
      rw [this]
      cases pk with
      | false => exact awake_of (.inl hrun)
      | true => exact awake_of (.inr (.inl rfl))
    · have hid := C₁.waits i _ e (Array.getElem?_eq_getElem hi)
      cases es' : In i with
      | none => rw [es'] at hid; exact awake_of (hid.2.status.elim .inl fun x => .inr (.inr x))
      | some s => rw [es'] at hid; exact awake_of ((Seated.status (C₁.keep i s es') hid).elim (fun x => .inl x.1) fun x => .inr (.inl x.1))
  obtain ⟨i, g, d', sl', hi, hg, hst⟩ := crowd_pick (P := P) (w := w.at d) (sl := sl₁) hawake hsome
  rw [at_at'] at hst
  have Cd : House P S In h t gs₁ (w.at d') q₁ := House.at C₁ d'
  have hcd : (w.at d').heap[c]? = some (.chan 0 #[] false k k false) := hc
  have hμpos : 0 < μ := by
    cases pk with
    | false => simp at hμ; omega
    | true =>
      have h1 := hpk rfl
      have h2 : q₁ j ≤ sumTo gs₁.size q₁ := Go.ConcN.le_sumTo (f := q₁) (by omega)
      simp at hμ; omega
  have fin : ∀ (gs₀ gs' : Array Goroutine) (ops₀ : Trace) (q₀ : Nat → Nat) (g₂ : Goroutine), House P S In h (t ++ ops₀) gs₀ (w.at d') q₀ → gs₀.size = gs.size → gs'.size = gs₀.size → (∀ x, x ≠ h → x ≠ j → gs'[x]? = gs₀[x]?) → gs'[h]? = some (Conc.served a₂ undef) → gs'[j]? = some (Conc.served g₂ (commResult ch.seat.cases ch.seat.shape kk v true)) → ch.seat.home g₂ →
      Gave P S In h j ch cm c kk k gs.size w v (crowd gs' ((w.at d').setChan c 0 #[] false (k + 1) (k + 1) false) sl') (t ++ (ops₀ ++ met h j a₂.frame.fn a₂.frame.place g₂.frame.fn g₂.frame.place c k 0)) := by
    intro gs₀ gs' ops₀ q₀ g₂ C₀ hs0 hsz' hoth hH hJ hhome
    have := House.pass C₀ hjh hj hcd hsz' (by rw [hs0, ← hsz]; exact hlth) hoth hH a₂.frame.fn a₂.frame.place g₂.frame.fn g₂.frame.place hafter hwf hcm hkeep hprot hnear
    rw [Array.append_assoc] at this
    exact ⟨gs', g₂, d', sl', _, rfl, hsz'.trans hs0, hJ, hhome, this⟩
  by_cases e : i = h
  · subst e
    cases pk with
    | true => rw [ha₁] at hi; obtain rfl := Option.some.inj hi; cases hg
    | false =>
      obtain rfl : g = a := by rw [ha₁] at hi; exact (Option.some.inj hi).symm
      have hoff : ∀ (x : Nat) (y : Goroutine), x ≠ j → (gs₁.setIfInBounds i ph)[x]? = some y → offersAt y c false = [] := by
        intro x y hxj hy
        rcases getElem?_stand gs₁ i x y hy with ⟨_, rfl⟩ | ⟨hx, hy'⟩
        · exact offersAt_ph _ _
        · exact Cd.noRecv hx hy' fun s' hs' hc' => hxj (inj x s' hs' hc')
      rcases hSj with ⟨kk', w₀, hq, hG⟩ | ⟨hq0, g₀, g₂, rfl, hat⟩
      · have hjr : gj.status = .running := (Seated.status hKj (.inl ⟨kk', w₀, hq, hG⟩)).elim (·.1) (fun z => by omega)
        have hp : partners (gs₁.setIfInBounds i ph) c false = [] := partners_nil fun x y hy => by
          by_cases hxj : x = j
          · subst hxj
            rw [stand_get hjh hgj] at hy
            obtain rfl := Option.some.inj hy
            exact offersAt_of_not_blocked (by rw [hjr]; simp) _ _
          · exact hoff x y hxj hy
        have hw : ∀ cc ∈ #[scase c v z'], NoWays (w.at d') (gs₁.setIfInBounds i ph) cc := by
          intro cc hcc
          simp only [List.mem_toArray, List.mem_cons, List.not_mem_nil, or_false] at hcc
          subst hcc
          exact ways_send_none hcd (Nat.le_refl _) hp
        exact ⟨_, _, sumTo gs₁.size q₁ + 0, by rw [hst]; exact crowd_waits (sl := sl') hi (hsend d') hw, by simp at hμ; omega, .inr ⟨_, d', sl', q₁, true, rfl, by simpa using hsz, Array.getElem?_setIfInBounds_self_of_lt hlth, Cd.setH _ hes, fun _ => by omega, by simp⟩⟩
      · have hp : partners (gs₁.setIfInBounds i ph) c false = [(j, kk)] := by
          rw [partners_one (stand_get hjh hgj) fun x y hxj hy => hoff x y hxj hy, offersAt_parked_at hk hu]
          rfl
        refine ⟨_, _, 0, by rw [hst]; exact crowd_send_meets_sel (sl := sl') hi (hsend d') hcd hjh hgj hk hp, hμpos, .inl ?_⟩
        exact fin _ _ _ _ g₂ (Cd.setH g hes) (by simpa using hsz) (by simp) (fun x hx hxj => by rw [Array.getElem?_setIfInBounds_ne (fun z => hx z.symm), Array.getElem?_setIfInBounds_ne (fun z => hxj z.symm), Array.getElem?_setIfInBounds_ne (fun z => hx z.symm)]) (Array.getElem?_setIfInBounds_self_of_lt (by simpa using hlth))
          (by rw [Array.getElem?_setIfInBounds_ne (fun z => hjh z.symm), Array.getElem?_setIfInBounds_self_of_lt (by omega), finishComm_served]) hat.2.2.2.2.1
  · by_cases ej : i = j ∧ pk = true ∧ ∃ g₂, AtIn P (i == 0) ch.K ch.loc ch.B ch.seat g g₂
    · obtain ⟨rfl, rfl, g₂, hat⟩ := ej
      have hat0 := hat
      obtain ⟨_, _, _, _, hhome, esj, hesj, hstp⟩ := hat
      obtain ⟨hops, hr, hd⟩ := read_ops (i := i) (fn := g.frame.fn) (pos := g.frame.place) hesj
      have hp : partners (gs₁.setIfInBounds i ph) c true = [(h, 0)] := by
        rw [partners_one (stand_get (Ne.symm hjh) ha₁) fun x y hxh hy => by
          rcases getElem?_stand gs₁ i x y hy with ⟨_, rfl⟩ | ⟨_, hy'⟩
          · exact offersAt_ph _ _
          · exact Cd.noSend hxh hy' _]
        simp [offersAt_parked_send]
      have hno : ∀ (m : Nat) (c' : CommCase), m ≠ kk → ch.seat.cases[m]? = some c' → NoWays (w.at d') (gs₁.setIfInBounds i ph) c' := by
        intro m c' hm hc'
        obtain ⟨c₂, z₂, rfl⟩ := hwfj.recvs c' (Array.mem_of_getElem? hc')
        have hne : c ≠ c₂ := fun ec => hu m _ hm hc' (by rw [ec]; rfl)
        obtain ⟨cap₂, k₂, hc₂⟩ := Cd.chans i ch c₂ hj ⟨m, z₂, hc'⟩
        refine ways_recv_none hc₂ (partners_nil fun x y hy => ?_)
        rcases getElem?_stand gs₁ i x y hy with ⟨_, rfl⟩ | ⟨_, hy'⟩
        · exact offersAt_ph _ _
        · by_cases hxh : x = h
          · subst hxh
            rw [ha₁] at hy'
            obtain rfl := Option.some.inj hy'
            simp only [if_true]
            rw [offersAt_parked_send, if_neg hne]
          · exact Cd.noSend hxh hy' _
      refine ⟨_, _, 0, by rw [hst]; exact crowd_sel_recv_meets (sl := sl') hi (hstp _ (Cd.keep i ch hj)) hk hno hcd (Ne.symm hjh) ha₁ hp, hμpos, .inl ?_⟩
      have Cr : House P S In h (t ++ MemOp.ofEvents i g.frame.fn g.frame.place esj) (gs₁.setIfInBounds i (parked g₂ ch.seat.cases ch.seat.shape)) (w.at d') (upd q₁ i 0) :=
        Cd.put hjh hj (by simp) (fun x hx => Array.getElem?_setIfInBounds_ne (fun z => hx z.symm)) (Array.getElem?_setIfInBounds_self_of_lt (by omega)) hops hr hd (.inr ⟨rfl, g, g₂, rfl, hat0⟩)
      exact fin _ _ _ _ g₂ Cr (by simpa using hsz) (by simp) (fun x hx hxj => by rw [Array.getElem?_setIfInBounds_ne (fun z => hxj z.symm), Array.getElem?_setIfInBounds_ne (fun z => hx z.symm), Array.getElem?_setIfInBounds_ne (fun z => hxj z.symm)])
        (by rw [Array.getElem?_setIfInBounds_ne hjh, Array.getElem?_setIfInBounds_self_of_lt hlth, finishComm_send]) (by rw [Array.getElem?_setIfInBounds_self_of_lt (by simp; omega), finishComm_served]) hhome
    · obtain ⟨gs', ops, q', d₂, hrt, hsz', ha', C', hlt, hqo, hq0⟩ := House.by_step' (sl := sl') Cd hi e hg ha₁
        (fun d₃ => by
          cases pk with
          | false => exact again_of_running (.inl hrun) _
          | true => exact again_send_open (w := w.at d₃) hcd)
        (fun s' g₂ hs' hat c' hc' => by
          cases pk with
          | false => exact offersAt_of_not_blocked (by simp [hrun]) _ _
          | true =>
            simp only [if_true]
            rw [offersAt_parked_send, if_neg]
            intro ec
            have hij : i = j := inj i s' hs' (ec ▸ hc')
            subst hij
            rw [hj] at hs'
            obtain rfl := Option.some.inj hs'
            exact ej ⟨rfl, rfl, g₂, hat⟩)
      refine ⟨_, _, sumTo gs'.size q' + (if pk then 0 else 1), by rw [hst]; exact hrt, by rw [hsz']; omega, .inr ⟨gs', d₂, sl', q', pk, rfl, hsz'.trans hsz, ha', C', fun hp => ?_, rfl⟩⟩
      subst hp
      by_cases hij : j = i
      · subst hij
        rcases Nat.eq_zero_or_pos (q' j) with h0 | h0
        · obtain ⟨g₂, hat⟩ := hq0 ch hj h0
          exact absurd ⟨rfl, rfl, g₂, hat⟩ ej
        · exact h0
      · rw [hqo j hij]; exact hpk rfl
end
end Go.Tame
/- The world as the call finds it: odd objects are nothing to it. -/
namespace Go.Tame
open Go.Conc
open Go.ConcN (sumTo upd sumTo_upd upd_ne upd_same)
def tamed : Obj → Obj
  | .view .. | .pending .. | .chan .. | .loop .. => oddView
  | o => o
def World.tamed (w : World) : World := { w with heap := w.heap.map Tame.tamed }
section
variable {S : Prot} {w : World}
theorem tamed_get (w : World) (i : Nat) : (World.tamed w).heap[i]? = (w.heap[i]?).map Tame.tamed := by
  show (w.heap.map Tame.tamed)[i]? = _
  rw [Array.getElem?_map]
theorem tamed_cells {b : Nat} {c : Array Value} {e : TypeId} {f : Nat × Nat} (h : w.heap[b]? = some (.cells c e f)) : (World.tamed w).heap[b]? = some (.cells c e f) := by
  rw [tamed_get, h]
  rfl
theorem tamed_cell (w : World) (a : Addr) : (World.tamed w).cell? a = w.cell? a := by
  unfold World.cell?
  rw [tamed_get]
  cases w.heap[a.block]? with
  | none => rfl
  | some o => cases o <;> rfl
theorem like_tamed (w : World) (hB : S.base = w) (hk : ∀ a, ¬ S.keep a) (hg : ∀ a, ¬ S.gone a) : Like S w (World.tamed w) := by
  refine ⟨by simp [World.tamed], fun i o o' h h' => ?_, fun a h => absurd h (hk a), fun a h => absurd h (hg a), rfl, by rw [hB]⟩
  rw [tamed_get, h] at h'
  cases h'
  cases o <;> first | exact .cells _ _ _ _ (Within.refl _) (fun _ => rfl) | exact .odd _ trivial (by rw [hB]; exact h) | exact .same _ trivial
/-- One goroutine alone is a house. -/
theorem house_alone {P : Program} (a : Goroutine) (w : World) (hap : ∀ x, S.gone x → ¬ S.keep x) : House P S (fun _ => none) 0 #[] #[a] w (fun _ => 0) := by
  have ne : ∀ (j : Nat) (g : Goroutine), j ≠ 0 → (#[a] : Array Goroutine)[j]? ≠ some g := fun j g hj h => by
    have := (Array.getElem?_eq_some_iff.1 h).1
    simp at this
    omega
  have hd : ∀ g, Deaf (#[] : Trace) g = 0 := fun g => by simp [Deaf, Trace.deaf]
  have ht : ∀ i (x : Touch), touchAt (#[] : Trace) i ≠ some x := fun i x h => by
    obtain ⟨op, hop, _⟩ := touch_of h
    simp at hop
  refine ⟨fun j g hj h => absurd h (ne j g hj), fun j c h => (by cases h), fun j c x h => (by cases h), fun j c h => (by cases h), fun j c x h => (by cases h), fun j c x h => (by cases h), hap, rfl, ⟨fun said h => ?_, fun i x h => absurd h (ht i x), fun i x h => absurd h (ht i x)⟩, hd 0, fun j c h => (by cases h), fun j _ => hd j, fun j c h => (by cases h)⟩
  obtain ⟨i, j, _, ⟨x, _, h1, _⟩, _⟩ := h
  exact absurd h1 (ht i x)
end
end Go.Tame
