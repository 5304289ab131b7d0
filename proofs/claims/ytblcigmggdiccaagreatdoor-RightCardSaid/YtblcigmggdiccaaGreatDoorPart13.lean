/- Several texts in one: LoneShard, TameNew8. -/
import Derived.Test.YtblcigmggdiccaaGreatDoorPart02
import Derived.WalkKit
import Derived.Deep.RegionWith
import Derived.Conc.SmallLaws
set_option linter.unusedSectionVars false
set_option linter.unusedSimpArgs false
set_option linter.unusedVariables false
set_option maxRecDepth 100000
/- newShard, alone. -/
namespace Go.Proofs.Shardlog
open Go Go.Conc Go.Tame Go.Proofs
section
variable {v : World}
theorem alloc_get (u : World) (o : Obj) (i : Nat) : (u.alloc o).heap[i]? = if i = u.heap.size then some o else u.heap[i]? := by
  show (u.heap.push o)[i]? = _
  rw [Array.getElem?_push]
theorem alloc_size (u : World) (o : Obj) : (u.alloc o).heap.size = u.heap.size + 1 := by
  show (u.heap.push o).size = _
  rw [Array.size_push]
theorem alloc_os (u : World) (o : Obj) : (u.alloc o).os = u.os := rfl
theorem drew_get (u : World) (i : Nat) : u.drew.heap[i]? = u.heap[i]? := rfl
theorem drew_size (u : World) : u.drew.heap.size = u.heap.size := rfl
theorem drew_os (u : World) : u.drew.os = u.os := rfl
def emptyMap : Obj := .map #[] 0
/-- What a shard remembers, when it is new. -/
structure NewMem (v v' : World) (m : Nat) : Prop where
  maps : ∀ i, i < 6 → v'.heap[m + i]? = some emptyMap
  ge : v.heap.size ≤ m
  le : m + 6 ≤ v'.heap.size
  old : ∀ i, i < v.heap.size → v'.heap[i]? = v.heap[i]?
  os : v'.os = v.os
theorem lone_memory : Calls Tryz.L 70 #[] v fun e v' => ∃ m, e = .returned (.agg #[.map (some m), .map (some (m + 1)), .map (some (m + 2)), .map (some (m + 3)), .map (some (m + 4)), .map (some (m + 5)), .slice none 0 0, .int .i64 0, .slice none 0 0, .int .i64 0]) ∧ NewMem v v' m := by
  have hmm := @Go.RowKit.run_makeMap Tryz.L
  go_enter LL.func70, Tryz.ntmps70
  go_wp2
  refine bodyPost_ret (v := .agg #[.map (some (v.heap.size + 1)), .map (some (v.heap.size + 1 + 1)), .map (some (v.heap.size + 1 + 1 + 1)), .map (some (v.heap.size + 1 + 1 + 1 + 1)), .map (some (v.heap.size + 1 + 1 + 1 + 1 + 1)), .map (some (v.heap.size + 1 + 1 + 1 + 1 + 1 + 1)), .slice none 0 0, .int .i64 0, .slice none 0 0, .int .i64 0]) (by simp [results, Tryz.results70, go_sem]) rfl ⟨v.heap.size + 1, rfl, ?_⟩
  refine ⟨fun i hi => ?_, by omega, ?_, fun i hi => ?_, rfl⟩
  · simp only [alloc_get, alloc_size]
    rcases i with _ | _ | _ | _ | _ | _ | i <;> first | omega | simp [emptyMap]
  · simp only [alloc_size]
    omega
  · simp only [alloc_get, alloc_size]
    repeat rw [if_neg (by omega)]
theorem mkChan {t : TypeId} (h : (match Tryz.L.underlying t with | some (.chan _ e) => (Tryz.L.info? e).isSome | _ => false) = true) (w : World) : (Instr.makeChan t (.int .i64 0)).run Tryz.L w = .ok (.chan (some w.heap.size)) (w.alloc (.chan 0 #[] false 0 0 false)) := by
  cases hu : Tryz.L.underlying t with
  | none => rw [hu] at h; cases h
  | some d =>
    rw [hu] at h
    cases d with
    | chan dir e =>
      obtain ⟨i, hi⟩ := Option.isSome_iff_exists.1 h
      simpa using run_makeChan (P := Tryz.L) (w := w) hu hi .i64 0 (by omega) (by simp)
    | _ => cases h
@[go_sem] theorem LL.mk150 (w : World) : (Instr.makeChan 150 (.int .i64 0)).run Tryz.L w = .ok (.chan (some w.heap.size)) (w.alloc (.chan 0 #[] false 0 0 false)) := mkChan (by kernel_rfl) w
@[go_sem] theorem LL.mk151 (w : World) : (Instr.makeChan 151 (.int .i64 0)).run Tryz.L w = .ok (.chan (some w.heap.size)) (w.alloc (.chan 0 #[] false 0 0 false)) := mkChan (by kernel_rfl) w
@[go_sem] theorem LL.mk85 (w : World) : (Instr.makeChan 85 (.int .i64 0)).run Tryz.L w = .ok (.chan (some w.heap.size)) (w.alloc (.chan 0 #[] false 0 0 false)) := mkChan (by kernel_rfl) w
/-- The cells of a new shard. -/
def newCells (a b : Int) (m W R : Nat) : Array Value :=
  #[.int .i64 a, .int .i64 b, .bool true, .slice none 0 0, .int .i64 0, .map (some m), .map (some (m + 1)), .map (some (m + 2)), .map (some (m + 3)), .map (some (m + 4)), .map (some (m + 5)), .slice none 0 0, .int .i64 0, .slice none 0 0, .int .i64 0, .slice none 0 0, .chan (some W), .chan (some R)]
/-- A new shard. -/
structure NewShard (v v' : World) (a b : Int) (s m W R : Nat) : Prop where
  cells : v'.heap[s]? = some (.cells (newCells a b m W R) 154)
  maps : ∀ i, i < 6 → v'.heap[m + i]? = some emptyMap
  work : v'.heap[W]? = some (.chan 0 #[] false 0 0 false)
  worked : v'.heap[R]? = some (.chan 0 #[] false 0 0 false)
  two : W ≠ R
  ge : v.heap.size ≤ s ∧ v.heap.size ≤ m ∧ v.heap.size ≤ W ∧ v.heap.size ≤ R
  le : v.heap.size ≤ v'.heap.size
  old : ∀ i, i < v.heap.size → v'.heap[i]? = v.heap[i]?
  os : v'.os = v.os
theorem NewMem.before {u w : World} {m : Nat} (h : NewMem u w m) (hu : v.heap.size ≤ u.heap.size) : v.heap.size ≤ w.heap.size ∧ v.heap.size ≤ m := by
  have := h.ge
  have := h.le
  omega
theorem newShard_of {u v' : World} {e : Ending} {a b : Int} {s m W R : Nat} (he : e = .returned (.pointer (some ⟨s, 0, none⟩))) (hv : v' = u.alloc (.cells (newCells a b m W R) 154)) (hs : s = u.heap.size) (maps : ∀ i, i < 6 → u.heap[m + i]? = some emptyMap)
    (work : u.heap[W]? = some (.chan 0 #[] false 0 0 false)) (worked : u.heap[R]? = some (.chan 0 #[] false 0 0 false)) (two : W ≠ R) (ge : v.heap.size ≤ m ∧ v.heap.size ≤ W ∧ v.heap.size ≤ R) (old : ∀ i, i < v.heap.size → u.heap[i]? = v.heap[i]?) (os : u.os = v.os) :
    ∃ s m W R, e = .returned (.pointer (some ⟨s, 0, none⟩)) ∧ NewShard v v' a b s m W R := by
  have lt : ∀ {i : Nat} {o : Obj}, u.heap[i]? = some o → i ≠ u.heap.size := fun {i o} h e => by
    rw [e, Array.getElem?_eq_none_iff.2 (Nat.le_refl _)] at h
    cases h
  have hW : W < u.heap.size := (Array.getElem?_eq_some_iff.1 work).1
  subst hs
  subst hv
  refine ⟨_, m, W, R, he, ?_, fun i hi => ?_, ?_, ?_, two, ⟨by omega, ge⟩, ?_, fun i hi => ?_, os⟩
  · rw [alloc_get, if_pos rfl]
  · rw [alloc_get, if_neg (lt (maps i hi))]
    exact maps i hi
  · rw [alloc_get, if_neg (lt work)]
    exact work
  · rw [alloc_get, if_neg (lt worked)]
    exact worked
  · rw [alloc_size]
    omega
  · rw [alloc_get, if_neg (by omega)]
    exact old i hi
set_option maxHeartbeats 1000000 in
theorem lone_newShard (a b : Int) : Calls Tryz.L 37 #[goInt a, goInt b] v fun e v' => ∃ s m W R, e = .returned (.pointer (some ⟨s, 0, none⟩)) ∧ NewShard v v' a b s m W R := by
  go_enter LL.func37, Tryz.ntmps37
  go_wp2_with fail
  go_region_with (go_at_call 70; refine (lone_memory).mono ?_; rintro e w' ⟨m, rfl, hm⟩)
  all_goals go_wp2_with fail
  all_goals go_ret
  all_goals obtain ⟨h1, h2, h3, h4, h5⟩ := hm
  all_goals simp only [alloc_size, drew_size, alloc_get, drew_get, alloc_os, drew_os] at h2 h4 h5
  all_goals refine newShard_of (m := m) rfl rfl (by simp only [alloc_size]) (fun i hi => ?_) ?_ ?_ ?_ ?_ (fun i hi => ?_) ?_
  all_goals try simp only [alloc_size, drew_size, alloc_get, drew_get, alloc_os, drew_os]
  all_goals first
    | exact h5
    | omega
    | (have h0 := h1 i hi; have hlt : m + i < w'.heap.size := by omega
       repeat rw [if_neg (by omega)]
       exact h0)
    | (rw [if_pos trivial]; done)
    | (rw [if_neg (by omega), if_pos trivial]; done)
    | (rw [if_pos rfl]; done)
    | (rw [if_neg (by omega), if_pos rfl]; done)
    | (rw [if_neg (by omega), h4 _ (by omega), if_pos rfl]; done)
    | (rw [h4 _ (by omega), if_pos rfl]; done)
    | (rw [h4 _ (by omega), if_neg (by omega), if_pos rfl]; done)
    | (rw [if_neg (by omega), if_neg (by omega), h4 _ (by omega)]; done)
    | (rw [if_neg (by omega), h4 _ (by omega), if_neg (by omega)]; done)
    | (rw [h4 _ (by omega), if_neg (by omega), if_neg (by omega)]; done)
end
end Go.Proofs.Shardlog
/- New: the region that appends a shard: whatever the order. -/
namespace Go.Proofs.Shardlog
open Go Go.Conc Go.Tame Go.Proofs
theorem any_cast {ops : Array Oper} {Q : Exit → Act → World → Prop} {fuel : Nat} {l l' : Array Bool} {a a' : Act} {w w' : World} (h : wpAny Tryz.L .any ops Q fuel l a w) (e : l' = l) (e2 : a' = a) (e3 : w' = w) : wpAny Tryz.L .any ops Q fuel l' a' w' := by
  rw [e, e2, e3]
  exact h
theorem append_step {ops : Array Oper} {o : Oper} {a : Act} {w : World} {K : Act → World → Prop} {Q : Exit → Act → World → Prop} (base : Nat) (t e : TypeId) (i : TypeInfo) (z : Value) (size bytes : Nat) (ht : Tryz.L.underlying t = some (.slice e)) (hi : Tryz.L.info? e = some i) (hz : i.zero = some z)
    (hsize : i.size = size) (hby : i.bytes = bytes) (hzs : z.cells.size = size) (hsz : 0 < size) (x y : Operand) (hop : o.op = .call { callee := .builtin .append, args := #[x, y], argTypes := #[t, t] }) (hg : o.guard = none)
    (v : Value) (n : Nat) (xs : List Value) (hx : a.eval x = v) (hown : w.ownsRow base e size v n xs) (p : Addr) (m c : Nat) (hy : a.eval y = .slice (some p) m c) (news : List Value) (hl : news.length = m * size) (hnews : ∀ j u, news[j]? = some u → w.cell? (p.add j) = some u) (h1 : ∀ u ∈ news, u.oneCell' = true)
    (h63 : n + m ≤ maxLen) (hbytes : (n + m) * bytes ≤ 140737488355328) (hbase : base ≤ w.heap.size) (hK : ∀ v' w', w'.ownsRow base e size v' (n + m) (xs ++ news) → w.grownBy w' v.ownBlock → K (a.put o.dst v') w') :
    (if Region.wanted o (yielded ops a.tmps) = true then Oper.wp Tryz.L o a w K Q else K (a.put o.dst undef) w) := by
  have hw : Region.wanted o (yielded ops a.tmps) = true := by simp [Region.wanted, hg]
  rw [if_pos hw]
  obtain ⟨v', w', h1, h2, h3, _⟩ := run_append_own (P := Tryz.L) w base t o.type e i z size bytes ht hi hz hsize hby hzs hsz v n xs hown p m c news hl hnews h1 h63 hbytes hbase
  have hr : (execOp a.eval o).run Tryz.L w = .ok (.value v') w' := by
    have e1 : execOp a.eval o = (do pure (Next.value (← Builtin.append_ #[t, t] o.type #[v, .slice (some p) m c])) : Sem Next) := by
      unfold execOp
      rw [hop]
      show builtin .append #[t, t] o.type (#[x, y].map fun | .const _ => true | _ => false) (#[x, y].map a.eval) = _
      have : (#[x, y].map a.eval) = #[v, .slice (some p) m c] := by simp [hx, hy]
      rw [this]
      rfl
    rw [e1, Sem.run_bind, h1]
    rfl
  unfold Oper.wp
  rw [hr]
  exact hK v' w' h2 h3
noncomputable def ops8 : Array Oper :=
  #[{ dst := some 24, op := .load 23 (.tmp 4), type := 23, pos := "cluster.go:48", after := #[], guard := none },
    { dst := some 25, op := .load 23 (.tmp 4), type := 23, pos := "cluster.go:48", after := #[], guard := none },
    { dst := some 26, op := .nilCheck (.tmp 25), type := 0, pos := "cluster.go:48", after := #[{ on := 1, ground := .data }], guard := none },
    { dst := some 27, op := .fieldAddr 94 (.tmp 26) 1, type := 0, pos := "cluster.go:48", after := #[{ on := 2, ground := .data }], guard := none },
    { dst := some 28, op := .load 80 (.tmp 27), type := 80, pos := "cluster.go:48", after := #[{ on := 3, ground := .data }], guard := none },
    { dst := some 29, op := .load 100 (.tmp 6), type := 100, pos := "cluster.go:48", after := #[], guard := none },
    { dst := some 30, op := .buildSlice 80 1 #[(0, .tmp 29)], type := 80, pos := "cluster.go:48", after := #[{ on := 5, ground := .data }], guard := none },
    { dst := some 31, op := .call { callee := .builtin .append, args := #[.tmp 28, .tmp 30], argTypes := #[80, 80] }, type := 80, pos := "cluster.go:48", after := #[{ on := 4, ground := .data }, { on := 6, ground := .data }], guard := none },
    { dst := some 32, op := .nilCheck (.tmp 24), type := 0, pos := "cluster.go:48", after := #[{ on := 0, ground := .data }, { on := 0, ground := .phase }, { on := 1, ground := .phase }, { on := 2, ground := .phase }, { on := 3, ground := .phase }, { on := 4, ground := .phase }, { on := 5, ground := .phase }, { on := 6, ground := .phase }, { on := 7, ground := .phase }], guard := none },
    { dst := some 33, op := .fieldAddr 94 (.tmp 32) 1, type := 0, pos := "cluster.go:48", after := #[{ on := 8, ground := .data }, { on := 0, ground := .phase }, { on := 1, ground := .phase }, { on := 2, ground := .phase }, { on := 3, ground := .phase }, { on := 4, ground := .phase }, { on := 5, ground := .phase }, { on := 6, ground := .phase }, { on := 7, ground := .phase }], guard := none },
    { dst := none, op := .store 80 (.tmp 33) (.tmp 31), type := 0, pos := "cluster.go:48", after := #[{ on := 9, ground := .data }, { on := 7, ground := .data }, { on := 7, ground := .chain }, { on := 0, ground := .phase }, { on := 1, ground := .phase }, { on := 2, ground := .phase }, { on := 3, ground := .phase }, { on := 4, ground := .phase }, { on := 5, ground := .phase }, { on := 6, ground := .phase }, { on := 7, ground := .phase }], guard := none }]
theorem und80 : Tryz.L.underlying 80 = some (.slice 100) := by kernel_rfl
theorem slot100 : ∃ i, Tryz.L.info? 100 = some i ∧ i.zero = some (.pointer none) ∧ i.size = 1 ∧ i.bytes = 8 := by
  have h : (Tryz.L.info? 100).map (fun i => (i.zero, i.size, i.bytes)) = some (some (.pointer none), 1, 8) := by kernel_rfl
  obtain ⟨i, hi, hb⟩ := Option.map_eq_some_iff.1 h
  simp only [Prod.mk.injEq] at hb
  exact ⟨i, hi, hb⟩
theorem own_slice {w : World} {base : Nat} {e : TypeId} {size : Nat} {v : Value} {n : Nat} {xs : List Value} (h : w.ownsRow base e size v n xs) : ∃ o m c, v = .slice o m c := by
  rcases h.2 with ⟨rfl, _⟩ | ⟨g, cap, cur, rfl, _⟩
  · exact ⟨_, _, _, rfl⟩
  · exact ⟨_, _, _, rfl⟩
theorem box_cell' (u : World) (x : Value) (t : TypeId) : (u.alloc (.cells #[x] t)).cell? ((⟨u.heap.size, 0, none⟩ : Addr).add 0) = some x := by
  show (u.alloc (.cells #[x] t)).cell? ⟨u.heap.size, 0, none⟩ = some x
  unfold World.cell?
  rw [alloc_get, if_pos rfl]
  rfl
section
variable {c cb sb s base k : Nat} {n kv sl : Value} {J : Nat → Value} {w : World} {xs : List Value} {Q : Exit → Act → World → Prop}
set_option maxHeartbeats 4000000 in
theorem new_append (hcb : w.cell? ⟨cb, 0, none⟩ = some (.pointer (some ⟨c, 0, none⟩))) (hsb : w.cell? ⟨sb, 0, none⟩ = some (.pointer (some ⟨s, 0, none⟩))) (hc2 : w.cell? ⟨c, 2, none⟩ = some sl) (hz : w.frozen? ⟨c, 2, none⟩ = false) (hown : w.ownsRow base 100 1 sl k xs) (hk : k ≤ 3) (hb : base ≤ w.heap.size) (hcl : c < base) (hcbl : cb < base)
    (hQ : ∀ sl' w', w'.ownsRow base 100 1 sl' (k + 1) (xs ++ [.pointer (some ⟨s, 0, none⟩)]) → (w.alloc (.cells #[.pointer (some ⟨s, 0, none⟩)] 100)).grownBy w' sl.ownBlock → Q .normal ⟨#[n, J 1, J 2, J 3, (.pointer (some ⟨cb, 0, none⟩)), J 5, (.pointer (some ⟨sb, 0, none⟩)), J 7, J 8, J 9, J 10, J 11, J 12, J 13, J 14, J 15, J 16, n, kv, J 19, J 20, J 21, J 22, J 23, (.pointer (some ⟨c, 0, none⟩)), (.pointer (some ⟨c, 0, none⟩)), (.pointer (some ⟨c, 0, none⟩)), (.pointer (some ⟨c, 2, none⟩)), sl, (.pointer (some ⟨s, 0, none⟩)), (.slice (some ⟨w.heap.size, 0, none⟩) 1 1), sl', (.pointer (some ⟨c, 0, none⟩)), (.pointer (some ⟨c, 2, none⟩)), J 34, J 35, J 36, J 37, J 38, J 39, J 40], []⟩ (w'.setCell ⟨c, 2, none⟩ sl')) :
    wpAny Tryz.L .any ops8 Q 11 (Array.replicate 11 false) ⟨#[n, J 1, J 2, J 3, (.pointer (some ⟨cb, 0, none⟩)), J 5, (.pointer (some ⟨sb, 0, none⟩)), J 7, J 8, J 9, J 10, J 11, J 12, J 13, J 14, J 15, J 16, n, kv, J 19, J 20, J 21, J 22, J 23, J 24, J 25, J 26, J 27, J 28, J 29, J 30, J 31, J 32, J 33, J 34, J 35, J 36, J 37, J 38, J 39, J 40], []⟩ w := by
  have hcb1 : (w.alloc (.cells #[.pointer (some ⟨s, 0, none⟩)] 100)).cell? ⟨cb, 0, none⟩ = some (.pointer (some ⟨c, 0, none⟩)) := (World.grownBy_alloc w _ none).cell hcb (by simp)
  have hsb1 : (w.alloc (.cells #[.pointer (some ⟨s, 0, none⟩)] 100)).cell? ⟨sb, 0, none⟩ = some (.pointer (some ⟨s, 0, none⟩)) := (World.grownBy_alloc w _ none).cell hsb (by simp)
  have hc21 : (w.alloc (.cells #[.pointer (some ⟨s, 0, none⟩)] 100)).cell? ⟨c, 2, none⟩ = some sl := (World.grownBy_alloc w _ none).cell hc2 (by simp)
  have stabcdefghijk : ∀ sl' w', w'.ownsRow base 100 1 sl' (k + 1) (xs ++ [.pointer (some ⟨s, 0, none⟩)]) → (w.alloc (.cells #[.pointer (some ⟨s, 0, none⟩)] 100)).grownBy w' sl.ownBlock → wpAny Tryz.L .any ops8 Q 0 #[true, true, true, true, true, true, true, true, true, true, true] ⟨#[n, J 1, J 2, J 3, (.pointer (some ⟨cb, 0, none⟩)), J 5, (.pointer (some ⟨sb, 0, none⟩)), J 7, J 8, J 9, J 10, J 11, J 12, J 13, J 14, J 15, J 16, n, kv, J 19, J 20, J 21, J 22, J 23, (.pointer (some ⟨c, 0, none⟩)), (.pointer (some ⟨c, 0, none⟩)), (.pointer (some ⟨c, 0, none⟩)), (.pointer (some ⟨c, 2, none⟩)), sl, (.pointer (some ⟨s, 0, none⟩)), (.slice (some ⟨w.heap.size, 0, none⟩) 1 1), sl', (.pointer (some ⟨c, 0, none⟩)), (.pointer (some ⟨c, 2, none⟩)), J 34, J 35, J 36, J 37, J 38, J 39, J 40], []⟩ (w'.setCell ⟨c, 2, none⟩ sl') := by
    intro sl' w' hrow hgr
    exact wpAny_done (by kernel_rfl) (hQ sl' w' hrow hgr) 0
  have stabcdefghij : ∀ sl' w', w'.ownsRow base 100 1 sl' (k + 1) (xs ++ [.pointer (some ⟨s, 0, none⟩)]) → (w.alloc (.cells #[.pointer (some ⟨s, 0, none⟩)] 100)).grownBy w' sl.ownBlock → wpAny Tryz.L .any ops8 Q 1 #[true, true, true, true, true, true, true, true, true, true, false] ⟨#[n, J 1, J 2, J 3, (.pointer (some ⟨cb, 0, none⟩)), J 5, (.pointer (some ⟨sb, 0, none⟩)), J 7, J 8, J 9, J 10, J 11, J 12, J 13, J 14, J 15, J 16, n, kv, J 19, J 20, J 21, J 22, J 23, (.pointer (some ⟨c, 0, none⟩)), (.pointer (some ⟨c, 0, none⟩)), (.pointer (some ⟨c, 0, none⟩)), (.pointer (some ⟨c, 2, none⟩)), sl, (.pointer (some ⟨s, 0, none⟩)), (.slice (some ⟨w.heap.size, 0, none⟩) 1 1), sl', (.pointer (some ⟨c, 0, none⟩)), (.pointer (some ⟨c, 2, none⟩)), J 34, J 35, J 36, J 37, J 38, J 39, J 40], []⟩ w' := by
    intro sl' w' hrow hgr
    obtain ⟨o', m', p', hsl⟩ := own_slice hrow
    have hc2' := hgr.cell hc21 (a := ⟨c, 2, none⟩) (fun e => by have h0 : base ≤ c := (hown.lt _ e.symm).1; omega)
    have hz' : w'.frozen? ⟨c, 2, none⟩ = false := by
      rw [← hz]
      refine (World.frozen?_of_block (hgr.block c (by rw [alloc_size]; omega) (fun e => by have h0 : base ≤ c := (hown.lt _ e.symm).1; omega))).trans ?_
      unfold World.frozen?
      rw [alloc_get, if_neg (show ¬ c = w.heap.size by omega)]
    subst hsl
    refine wpAny_ready (rs := [10]) (by kernel_rfl) (by simp) ?_
    refine AllReady.cons (o := { dst := none, op := .store 80 (.tmp 33) (.tmp 31), type := 0, pos := "cluster.go:48", after := #[{ on := 9, ground := .data }, { on := 7, ground := .data }, { on := 7, ground := .chain }, { on := 0, ground := .phase }, { on := 1, ground := .phase }, { on := 2, ground := .phase }, { on := 3, ground := .phase }, { on := 4, ground := .phase }, { on := 5, ground := .phase }, { on := 6, ground := .phase }, { on := 7, ground := .phase }], guard := none }) rfl (fun K hK => ?_) ?_
    · go_simp
      refine hK _ _ ?_
      exact (any_cast (stabcdefghijk (.slice o' m' p') w' hrow hgr) (by kernel_rfl) (by rfl) (by rfl))
    exact AllReady.nil
  have stabcdefghi : ∀ sl' w', w'.ownsRow base 100 1 sl' (k + 1) (xs ++ [.pointer (some ⟨s, 0, none⟩)]) → (w.alloc (.cells #[.pointer (some ⟨s, 0, none⟩)] 100)).grownBy w' sl.ownBlock → wpAny Tryz.L .any ops8 Q 2 #[true, true, true, true, true, true, true, true, true, false, false] ⟨#[n, J 1, J 2, J 3, (.pointer (some ⟨cb, 0, none⟩)), J 5, (.pointer (some ⟨sb, 0, none⟩)), J 7, J 8, J 9, J 10, J 11, J 12, J 13, J 14, J 15, J 16, n, kv, J 19, J 20, J 21, J 22, J 23, (.pointer (some ⟨c, 0, none⟩)), (.pointer (some ⟨c, 0, none⟩)), (.pointer (some ⟨c, 0, none⟩)), (.pointer (some ⟨c, 2, none⟩)), sl, (.pointer (some ⟨s, 0, none⟩)), (.slice (some ⟨w.heap.size, 0, none⟩) 1 1), sl', (.pointer (some ⟨c, 0, none⟩)), J 33, J 34, J 35, J 36, J 37, J 38, J 39, J 40], []⟩ w' := by
    intro sl' w' hrow hgr
    refine wpAny_ready (rs := [9]) (by kernel_rfl) (by simp) ?_
    refine AllReady.cons (o := { dst := some 33, op := .fieldAddr 94 (.tmp 32) 1, type := 0, pos := "cluster.go:48", after := #[{ on := 8, ground := .data }, { on := 0, ground := .phase }, { on := 1, ground := .phase }, { on := 2, ground := .phase }, { on := 3, ground := .phase }, { on := 4, ground := .phase }, { on := 5, ground := .phase }, { on := 6, ground := .phase }, { on := 7, ground := .phase }], guard := none }) rfl (fun K hK => ?_) ?_
    · go_simp
      refine hK _ _ ?_
      exact (any_cast (stabcdefghij sl' w' hrow hgr) (by kernel_rfl) (by rfl) (by rfl))
    exact AllReady.nil
  have stabcdefgh : ∀ sl' w', w'.ownsRow base 100 1 sl' (k + 1) (xs ++ [.pointer (some ⟨s, 0, none⟩)]) → (w.alloc (.cells #[.pointer (some ⟨s, 0, none⟩)] 100)).grownBy w' sl.ownBlock → wpAny Tryz.L .any ops8 Q 3 #[true, true, true, true, true, true, true, true, false, false, false] ⟨#[n, J 1, J 2, J 3, (.pointer (some ⟨cb, 0, none⟩)), J 5, (.pointer (some ⟨sb, 0, none⟩)), J 7, J 8, J 9, J 10, J 11, J 12, J 13, J 14, J 15, J 16, n, kv, J 19, J 20, J 21, J 22, J 23, (.pointer (some ⟨c, 0, none⟩)), (.pointer (some ⟨c, 0, none⟩)), (.pointer (some ⟨c, 0, none⟩)), (.pointer (some ⟨c, 2, none⟩)), sl, (.pointer (some ⟨s, 0, none⟩)), (.slice (some ⟨w.heap.size, 0, none⟩) 1 1), sl', J 32, J 33, J 34, J 35, J 36, J 37, J 38, J 39, J 40], []⟩ w' := by
    intro sl' w' hrow hgr
    refine wpAny_ready (rs := [8]) (by kernel_rfl) (by simp) ?_
    refine AllReady.cons (o := { dst := some 32, op := .nilCheck (.tmp 24), type := 0, pos := "cluster.go:48", after := #[{ on := 0, ground := .data }, { on := 0, ground := .phase }, { on := 1, ground := .phase }, { on := 2, ground := .phase }, { on := 3, ground := .phase }, { on := 4, ground := .phase }, { on := 5, ground := .phase }, { on := 6, ground := .phase }, { on := 7, ground := .phase }], guard := none }) rfl (fun K hK => ?_) ?_
    · go_simp
      refine hK _ _ ?_
      exact (any_cast (stabcdefghi sl' w' hrow hgr) (by kernel_rfl) (by rfl) (by rfl))
    exact AllReady.nil
  have stabcdefg : wpAny Tryz.L .any ops8 Q 4 #[true, true, true, true, true, true, true, false, false, false, false] ⟨#[n, J 1, J 2, J 3, (.pointer (some ⟨cb, 0, none⟩)), J 5, (.pointer (some ⟨sb, 0, none⟩)), J 7, J 8, J 9, J 10, J 11, J 12, J 13, J 14, J 15, J 16, n, kv, J 19, J 20, J 21, J 22, J 23, (.pointer (some ⟨c, 0, none⟩)), (.pointer (some ⟨c, 0, none⟩)), (.pointer (some ⟨c, 0, none⟩)), (.pointer (some ⟨c, 2, none⟩)), sl, (.pointer (some ⟨s, 0, none⟩)), (.slice (some ⟨w.heap.size, 0, none⟩) 1 1), J 31, J 32, J 33, J 34, J 35, J 36, J 37, J 38, J 39, J 40], []⟩ (w.alloc (.cells #[.pointer (some ⟨s, 0, none⟩)] 100)) := by
    refine wpAny_ready (rs := [7]) (by kernel_rfl) (by simp) ?_
    refine AllReady.cons (o := { dst := some 31, op := .call { callee := .builtin .append, args := #[.tmp 28, .tmp 30], argTypes := #[80, 80] }, type := 80, pos := "cluster.go:48", after := #[{ on := 4, ground := .data }, { on := 6, ground := .data }], guard := none }) rfl (fun K hK => ?_) ?_
    · obtain ⟨i, h1, h2, h3, h4⟩ := slot100
      refine append_step base 80 100 i (.pointer none) 1 8 und80 h1 h2 h3 h4 (by rfl) (by omega) (.tmp 28) (.tmp 30) rfl rfl sl k xs (by rfl) (hown.alloc _) ⟨w.heap.size, 0, none⟩ 1 1 (by rfl) [.pointer (some ⟨s, 0, none⟩)] (by rfl) (fun j u hu => ?_) (by simp [Value.oneCell']) (by simp only [maxLen]; omega) (by omega) (by rw [alloc_size]; omega) fun v' w' hrow hgr => hK _ _ (any_cast (stabcdefgh v' w' hrow hgr) (by kernel_rfl) (by rfl) (by rfl))
      rcases j with _ | j
      · have : u = .pointer (some ⟨s, 0, none⟩) := by simpa using hu.symm
        subst this
        exact box_cell' w _ 100
      · simp at hu
    exact AllReady.nil
  have stabcdef : wpAny Tryz.L .any ops8 Q 5 #[true, true, true, true, true, true, false, false, false, false, false] ⟨#[n, J 1, J 2, J 3, (.pointer (some ⟨cb, 0, none⟩)), J 5, (.pointer (some ⟨sb, 0, none⟩)), J 7, J 8, J 9, J 10, J 11, J 12, J 13, J 14, J 15, J 16, n, kv, J 19, J 20, J 21, J 22, J 23, (.pointer (some ⟨c, 0, none⟩)), (.pointer (some ⟨c, 0, none⟩)), (.pointer (some ⟨c, 0, none⟩)), (.pointer (some ⟨c, 2, none⟩)), sl, (.pointer (some ⟨s, 0, none⟩)), J 30, J 31, J 32, J 33, J 34, J 35, J 36, J 37, J 38, J 39, J 40], []⟩ w := by
    refine wpAny_ready (rs := [6]) (by kernel_rfl) (by simp) ?_
    refine AllReady.cons (o := { dst := some 30, op := .buildSlice 80 1 #[(0, .tmp 29)], type := 80, pos := "cluster.go:48", after := #[{ on := 5, ground := .data }], guard := none }) rfl (fun K hK => ?_) ?_
    · go_simp
      refine hK _ _ ?_
      exact (any_cast (stabcdefg) (by kernel_rfl) (by rfl) (by rfl))
    exact AllReady.nil
  have stabcde : wpAny Tryz.L .any ops8 Q 6 #[true, true, true, true, true, false, false, false, false, false, false] ⟨#[n, J 1, J 2, J 3, (.pointer (some ⟨cb, 0, none⟩)), J 5, (.pointer (some ⟨sb, 0, none⟩)), J 7, J 8, J 9, J 10, J 11, J 12, J 13, J 14, J 15, J 16, n, kv, J 19, J 20, J 21, J 22, J 23, (.pointer (some ⟨c, 0, none⟩)), (.pointer (some ⟨c, 0, none⟩)), (.pointer (some ⟨c, 0, none⟩)), (.pointer (some ⟨c, 2, none⟩)), sl, J 29, J 30, J 31, J 32, J 33, J 34, J 35, J 36, J 37, J 38, J 39, J 40], []⟩ w := by
    refine wpAny_ready (rs := [5]) (by kernel_rfl) (by simp) ?_
    refine AllReady.cons (o := { dst := some 29, op := .load 100 (.tmp 6), type := 100, pos := "cluster.go:48", after := #[], guard := none }) rfl (fun K hK => ?_) ?_
    · go_simp
      refine hK _ _ ?_
      exact (any_cast (stabcdef) (by kernel_rfl) (by rfl) (by rfl))
    exact AllReady.nil
  have stabcdfg : wpAny Tryz.L .any ops8 Q 5 #[true, true, true, true, false, true, true, false, false, false, false] ⟨#[n, J 1, J 2, J 3, (.pointer (some ⟨cb, 0, none⟩)), J 5, (.pointer (some ⟨sb, 0, none⟩)), J 7, J 8, J 9, J 10, J 11, J 12, J 13, J 14, J 15, J 16, n, kv, J 19, J 20, J 21, J 22, J 23, (.pointer (some ⟨c, 0, none⟩)), (.pointer (some ⟨c, 0, none⟩)), (.pointer (some ⟨c, 0, none⟩)), (.pointer (some ⟨c, 2, none⟩)), J 28, (.pointer (some ⟨s, 0, none⟩)), (.slice (some ⟨w.heap.size, 0, none⟩) 1 1), J 31, J 32, J 33, J 34, J 35, J 36, J 37, J 38, J 39, J 40], []⟩ (w.alloc (.cells #[.pointer (some ⟨s, 0, none⟩)] 100)) := by
    refine wpAny_ready (rs := [4]) (by kernel_rfl) (by simp) ?_
    refine AllReady.cons (o := { dst := some 28, op := .load 80 (.tmp 27), type := 80, pos := "cluster.go:48", after := #[{ on := 3, ground := .data }], guard := none }) rfl (fun K hK => ?_) ?_
    · go_simp
      refine hK _ _ ?_
      exact (any_cast (stabcdefg) (by kernel_rfl) (by rfl) (by rfl))
    exact AllReady.nil
  have stabcdf : wpAny Tryz.L .any ops8 Q 6 #[true, true, true, true, false, true, false, false, false, false, false] ⟨#[n, J 1, J 2, J 3, (.pointer (some ⟨cb, 0, none⟩)), J 5, (.pointer (some ⟨sb, 0, none⟩)), J 7, J 8, J 9, J 10, J 11, J 12, J 13, J 14, J 15, J 16, n, kv, J 19, J 20, J 21, J 22, J 23, (.pointer (some ⟨c, 0, none⟩)), (.pointer (some ⟨c, 0, none⟩)), (.pointer (some ⟨c, 0, none⟩)), (.pointer (some ⟨c, 2, none⟩)), J 28, (.pointer (some ⟨s, 0, none⟩)), J 30, J 31, J 32, J 33, J 34, J 35, J 36, J 37, J 38, J 39, J 40], []⟩ w := by
    refine wpAny_ready (rs := [4, 6]) (by kernel_rfl) (by simp) ?_
    refine AllReady.cons (o := { dst := some 28, op := .load 80 (.tmp 27), type := 80, pos := "cluster.go:48", after := #[{ on := 3, ground := .data }], guard := none }) rfl (fun K hK => ?_) ?_
    · go_simp
      refine hK _ _ ?_
      exact (any_cast (stabcdef) (by kernel_rfl) (by rfl) (by rfl))
    refine AllReady.cons (o := { dst := some 30, op := .buildSlice 80 1 #[(0, .tmp 29)], type := 80, pos := "cluster.go:48", after := #[{ on := 5, ground := .data }], guard := none }) rfl (fun K hK => ?_) ?_
    · go_simp
      refine hK _ _ ?_
      exact (any_cast (stabcdfg) (by kernel_rfl) (by rfl) (by rfl))
    exact AllReady.nil
  have stabcd : wpAny Tryz.L .any ops8 Q 7 #[true, true, true, true, false, false, false, false, false, false, false] ⟨#[n, J 1, J 2, J 3, (.pointer (some ⟨cb, 0, none⟩)), J 5, (.pointer (some ⟨sb, 0, none⟩)), J 7, J 8, J 9, J 10, J 11, J 12, J 13, J 14, J 15, J 16, n, kv, J 19, J 20, J 21, J 22, J 23, (.pointer (some ⟨c, 0, none⟩)), (.pointer (some ⟨c, 0, none⟩)), (.pointer (some ⟨c, 0, none⟩)), (.pointer (some ⟨c, 2, none⟩)), J 28, J 29, J 30, J 31, J 32, J 33, J 34, J 35, J 36, J 37, J 38, J 39, J 40], []⟩ w := by
    refine wpAny_ready (rs := [4, 5]) (by kernel_rfl) (by simp) ?_
    refine AllReady.cons (o := { dst := some 28, op := .load 80 (.tmp 27), type := 80, pos := "cluster.go:48", after := #[{ on := 3, ground := .data }], guard := none }) rfl (fun K hK => ?_) ?_
    · go_simp
      refine hK _ _ ?_
      exact (any_cast (stabcde) (by kernel_rfl) (by rfl) (by rfl))
    refine AllReady.cons (o := { dst := some 29, op := .load 100 (.tmp 6), type := 100, pos := "cluster.go:48", after := #[], guard := none }) rfl (fun K hK => ?_) ?_
    · go_simp
      refine hK _ _ ?_
      exact (any_cast (stabcdf) (by kernel_rfl) (by rfl) (by rfl))
    exact AllReady.nil
  have stabcfg : wpAny Tryz.L .any ops8 Q 6 #[true, true, true, false, false, true, true, false, false, false, false] ⟨#[n, J 1, J 2, J 3, (.pointer (some ⟨cb, 0, none⟩)), J 5, (.pointer (some ⟨sb, 0, none⟩)), J 7, J 8, J 9, J 10, J 11, J 12, J 13, J 14, J 15, J 16, n, kv, J 19, J 20, J 21, J 22, J 23, (.pointer (some ⟨c, 0, none⟩)), (.pointer (some ⟨c, 0, none⟩)), (.pointer (some ⟨c, 0, none⟩)), J 27, J 28, (.pointer (some ⟨s, 0, none⟩)), (.slice (some ⟨w.heap.size, 0, none⟩) 1 1), J 31, J 32, J 33, J 34, J 35, J 36, J 37, J 38, J 39, J 40], []⟩ (w.alloc (.cells #[.pointer (some ⟨s, 0, none⟩)] 100)) := by
    refine wpAny_ready (rs := [3]) (by kernel_rfl) (by simp) ?_
    refine AllReady.cons (o := { dst := some 27, op := .fieldAddr 94 (.tmp 26) 1, type := 0, pos := "cluster.go:48", after := #[{ on := 2, ground := .data }], guard := none }) rfl (fun K hK => ?_) ?_
    · go_simp
      refine hK _ _ ?_
      exact (any_cast (stabcdfg) (by kernel_rfl) (by rfl) (by rfl))
    exact AllReady.nil
  have stabcf : wpAny Tryz.L .any ops8 Q 7 #[true, true, true, false, false, true, false, false, false, false, false] ⟨#[n, J 1, J 2, J 3, (.pointer (some ⟨cb, 0, none⟩)), J 5, (.pointer (some ⟨sb, 0, none⟩)), J 7, J 8, J 9, J 10, J 11, J 12, J 13, J 14, J 15, J 16, n, kv, J 19, J 20, J 21, J 22, J 23, (.pointer (some ⟨c, 0, none⟩)), (.pointer (some ⟨c, 0, none⟩)), (.pointer (some ⟨c, 0, none⟩)), J 27, J 28, (.pointer (some ⟨s, 0, none⟩)), J 30, J 31, J 32, J 33, J 34, J 35, J 36, J 37, J 38, J 39, J 40], []⟩ w := by
    refine wpAny_ready (rs := [3, 6]) (by kernel_rfl) (by simp) ?_
    refine AllReady.cons (o := { dst := some 27, op := .fieldAddr 94 (.tmp 26) 1, type := 0, pos := "cluster.go:48", after := #[{ on := 2, ground := .data }], guard := none }) rfl (fun K hK => ?_) ?_
    · go_simp
      refine hK _ _ ?_
      exact (any_cast (stabcdf) (by kernel_rfl) (by rfl) (by rfl))
    refine AllReady.cons (o := { dst := some 30, op := .buildSlice 80 1 #[(0, .tmp 29)], type := 80, pos := "cluster.go:48", after := #[{ on := 5, ground := .data }], guard := none }) rfl (fun K hK => ?_) ?_
    · go_simp
      refine hK _ _ ?_
      exact (any_cast (stabcfg) (by kernel_rfl) (by rfl) (by rfl))
    exact AllReady.nil
  have stabc : wpAny Tryz.L .any ops8 Q 8 #[true, true, true, false, false, false, false, false, false, false, false] ⟨#[n, J 1, J 2, J 3, (.pointer (some ⟨cb, 0, none⟩)), J 5, (.pointer (some ⟨sb, 0, none⟩)), J 7, J 8, J 9, J 10, J 11, J 12, J 13, J 14, J 15, J 16, n, kv, J 19, J 20, J 21, J 22, J 23, (.pointer (some ⟨c, 0, none⟩)), (.pointer (some ⟨c, 0, none⟩)), (.pointer (some ⟨c, 0, none⟩)), J 27, J 28, J 29, J 30, J 31, J 32, J 33, J 34, J 35, J 36, J 37, J 38, J 39, J 40], []⟩ w := by
    refine wpAny_ready (rs := [3, 5]) (by kernel_rfl) (by simp) ?_
    refine AllReady.cons (o := { dst := some 27, op := .fieldAddr 94 (.tmp 26) 1, type := 0, pos := "cluster.go:48", after := #[{ on := 2, ground := .data }], guard := none }) rfl (fun K hK => ?_) ?_
    · go_simp
      refine hK _ _ ?_
      exact (any_cast (stabcd) (by kernel_rfl) (by rfl) (by rfl))
    refine AllReady.cons (o := { dst := some 29, op := .load 100 (.tmp 6), type := 100, pos := "cluster.go:48", after := #[], guard := none }) rfl (fun K hK => ?_) ?_
    · go_simp
      refine hK _ _ ?_
      exact (any_cast (stabcf) (by kernel_rfl) (by rfl) (by rfl))
    exact AllReady.nil
  have stabfg : wpAny Tryz.L .any ops8 Q 7 #[true, true, false, false, false, true, true, false, false, false, false] ⟨#[n, J 1, J 2, J 3, (.pointer (some ⟨cb, 0, none⟩)), J 5, (.pointer (some ⟨sb, 0, none⟩)), J 7, J 8, J 9, J 10, J 11, J 12, J 13, J 14, J 15, J 16, n, kv, J 19, J 20, J 21, J 22, J 23, (.pointer (some ⟨c, 0, none⟩)), (.pointer (some ⟨c, 0, none⟩)), J 26, J 27, J 28, (.pointer (some ⟨s, 0, none⟩)), (.slice (some ⟨w.heap.size, 0, none⟩) 1 1), J 31, J 32, J 33, J 34, J 35, J 36, J 37, J 38, J 39, J 40], []⟩ (w.alloc (.cells #[.pointer (some ⟨s, 0, none⟩)] 100)) := by
    refine wpAny_ready (rs := [2]) (by kernel_rfl) (by simp) ?_
    refine AllReady.cons (o := { dst := some 26, op := .nilCheck (.tmp 25), type := 0, pos := "cluster.go:48", after := #[{ on := 1, ground := .data }], guard := none }) rfl (fun K hK => ?_) ?_
    · go_simp
      refine hK _ _ ?_
      exact (any_cast (stabcfg) (by kernel_rfl) (by rfl) (by rfl))
    exact AllReady.nil
  have stabf : wpAny Tryz.L .any ops8 Q 8 #[true, true, false, false, false, true, false, false, false, false, false] ⟨#[n, J 1, J 2, J 3, (.pointer (some ⟨cb, 0, none⟩)), J 5, (.pointer (some ⟨sb, 0, none⟩)), J 7, J 8, J 9, J 10, J 11, J 12, J 13, J 14, J 15, J 16, n, kv, J 19, J 20, J 21, J 22, J 23, (.pointer (some ⟨c, 0, none⟩)), (.pointer (some ⟨c, 0, none⟩)), J 26, J 27, J 28, (.pointer (some ⟨s, 0, none⟩)), J 30, J 31, J 32, J 33, J 34, J 35, J 36, J 37, J 38, J 39, J 40], []⟩ w := by
    refine wpAny_ready (rs := [2, 6]) (by kernel_rfl) (by simp) ?_
    refine AllReady.cons (o := { dst := some 26, op := .nilCheck (.tmp 25), type := 0, pos := "cluster.go:48", after := #[{ on := 1, ground := .data }], guard := none }) rfl (fun K hK => ?_) ?_
    · go_simp
      refine hK _ _ ?_
      exact (any_cast (stabcf) (by kernel_rfl) (by rfl) (by rfl))
    refine AllReady.cons (o := { dst := some 30, op := .buildSlice 80 1 #[(0, .tmp 29)], type := 80, pos := "cluster.go:48", after := #[{ on := 5, ground := .data }], guard := none }) rfl (fun K hK => ?_) ?_
    · go_simp
      refine hK _ _ ?_
      exact (any_cast (stabfg) (by kernel_rfl) (by rfl) (by rfl))
    exact AllReady.nil
  have stab : wpAny Tryz.L .any ops8 Q 9 #[true, true, false, false, false, false, false, false, false, false, false] ⟨#[n, J 1, J 2, J 3, (.pointer (some ⟨cb, 0, none⟩)), J 5, (.pointer (some ⟨sb, 0, none⟩)), J 7, J 8, J 9, J 10, J 11, J 12, J 13, J 14, J 15, J 16, n, kv, J 19, J 20, J 21, J 22, J 23, (.pointer (some ⟨c, 0, none⟩)), (.pointer (some ⟨c, 0, none⟩)), J 26, J 27, J 28, J 29, J 30, J 31, J 32, J 33, J 34, J 35, J 36, J 37, J 38, J 39, J 40], []⟩ w := by
    refine wpAny_ready (rs := [2, 5]) (by kernel_rfl) (by simp) ?_
    refine AllReady.cons (o := { dst := some 26, op := .nilCheck (.tmp 25), type := 0, pos := "cluster.go:48", after := #[{ on := 1, ground := .data }], guard := none }) rfl (fun K hK => ?_) ?_
    · go_simp
      refine hK _ _ ?_
      exact (any_cast (stabc) (by kernel_rfl) (by rfl) (by rfl))
    refine AllReady.cons (o := { dst := some 29, op := .load 100 (.tmp 6), type := 100, pos := "cluster.go:48", after := #[], guard := none }) rfl (fun K hK => ?_) ?_
    · go_simp
      refine hK _ _ ?_
      exact (any_cast (stabf) (by kernel_rfl) (by rfl) (by rfl))
    exact AllReady.nil
  have stafg : wpAny Tryz.L .any ops8 Q 8 #[true, false, false, false, false, true, true, false, false, false, false] ⟨#[n, J 1, J 2, J 3, (.pointer (some ⟨cb, 0, none⟩)), J 5, (.pointer (some ⟨sb, 0, none⟩)), J 7, J 8, J 9, J 10, J 11, J 12, J 13, J 14, J 15, J 16, n, kv, J 19, J 20, J 21, J 22, J 23, (.pointer (some ⟨c, 0, none⟩)), J 25, J 26, J 27, J 28, (.pointer (some ⟨s, 0, none⟩)), (.slice (some ⟨w.heap.size, 0, none⟩) 1 1), J 31, J 32, J 33, J 34, J 35, J 36, J 37, J 38, J 39, J 40], []⟩ (w.alloc (.cells #[.pointer (some ⟨s, 0, none⟩)] 100)) := by
    refine wpAny_ready (rs := [1]) (by kernel_rfl) (by simp) ?_
    refine AllReady.cons (o := { dst := some 25, op := .load 23 (.tmp 4), type := 23, pos := "cluster.go:48", after := #[], guard := none }) rfl (fun K hK => ?_) ?_
    · go_simp
      refine hK _ _ ?_
      exact (any_cast (stabfg) (by kernel_rfl) (by rfl) (by rfl))
    exact AllReady.nil
  have staf : wpAny Tryz.L .any ops8 Q 9 #[true, false, false, false, false, true, false, false, false, false, false] ⟨#[n, J 1, J 2, J 3, (.pointer (some ⟨cb, 0, none⟩)), J 5, (.pointer (some ⟨sb, 0, none⟩)), J 7, J 8, J 9, J 10, J 11, J 12, J 13, J 14, J 15, J 16, n, kv, J 19, J 20, J 21, J 22, J 23, (.pointer (some ⟨c, 0, none⟩)), J 25, J 26, J 27, J 28, (.pointer (some ⟨s, 0, none⟩)), J 30, J 31, J 32, J 33, J 34, J 35, J 36, J 37, J 38, J 39, J 40], []⟩ w := by
    refine wpAny_ready (rs := [1, 6]) (by kernel_rfl) (by simp) ?_
    refine AllReady.cons (o := { dst := some 25, op := .load 23 (.tmp 4), type := 23, pos := "cluster.go:48", after := #[], guard := none }) rfl (fun K hK => ?_) ?_
    · go_simp
      refine hK _ _ ?_
      exact (any_cast (stabf) (by kernel_rfl) (by rfl) (by rfl))
    refine AllReady.cons (o := { dst := some 30, op := .buildSlice 80 1 #[(0, .tmp 29)], type := 80, pos := "cluster.go:48", after := #[{ on := 5, ground := .data }], guard := none }) rfl (fun K hK => ?_) ?_
    · go_simp
      refine hK _ _ ?_
      exact (any_cast (stafg) (by kernel_rfl) (by rfl) (by rfl))
    exact AllReady.nil
  have sta : wpAny Tryz.L .any ops8 Q 10 #[true, false, false, false, false, false, false, false, false, false, false] ⟨#[n, J 1, J 2, J 3, (.pointer (some ⟨cb, 0, none⟩)), J 5, (.pointer (some ⟨sb, 0, none⟩)), J 7, J 8, J 9, J 10, J 11, J 12, J 13, J 14, J 15, J 16, n, kv, J 19, J 20, J 21, J 22, J 23, (.pointer (some ⟨c, 0, none⟩)), J 25, J 26, J 27, J 28, J 29, J 30, J 31, J 32, J 33, J 34, J 35, J 36, J 37, J 38, J 39, J 40], []⟩ w := by
    refine wpAny_ready (rs := [1, 5]) (by kernel_rfl) (by simp) ?_
    refine AllReady.cons (o := { dst := some 25, op := .load 23 (.tmp 4), type := 23, pos := "cluster.go:48", after := #[], guard := none }) rfl (fun K hK => ?_) ?_
    · go_simp
      refine hK _ _ ?_
      exact (any_cast (stab) (by kernel_rfl) (by rfl) (by rfl))
    refine AllReady.cons (o := { dst := some 29, op := .load 100 (.tmp 6), type := 100, pos := "cluster.go:48", after := #[], guard := none }) rfl (fun K hK => ?_) ?_
    · go_simp
      refine hK _ _ ?_
      exact (any_cast (staf) (by kernel_rfl) (by rfl) (by rfl))
    exact AllReady.nil
  have stbcdefgh : ∀ sl' w', w'.ownsRow base 100 1 sl' (k + 1) (xs ++ [.pointer (some ⟨s, 0, none⟩)]) → (w.alloc (.cells #[.pointer (some ⟨s, 0, none⟩)] 100)).grownBy w' sl.ownBlock → wpAny Tryz.L .any ops8 Q 4 #[false, true, true, true, true, true, true, true, false, false, false] ⟨#[n, J 1, J 2, J 3, (.pointer (some ⟨cb, 0, none⟩)), J 5, (.pointer (some ⟨sb, 0, none⟩)), J 7, J 8, J 9, J 10, J 11, J 12, J 13, J 14, J 15, J 16, n, kv, J 19, J 20, J 21, J 22, J 23, J 24, (.pointer (some ⟨c, 0, none⟩)), (.pointer (some ⟨c, 0, none⟩)), (.pointer (some ⟨c, 2, none⟩)), sl, (.pointer (some ⟨s, 0, none⟩)), (.slice (some ⟨w.heap.size, 0, none⟩) 1 1), sl', J 32, J 33, J 34, J 35, J 36, J 37, J 38, J 39, J 40], []⟩ w' := by
    intro sl' w' hrow hgr
    have hcb' := hgr.cell hcb1 (a := ⟨cb, 0, none⟩) (fun e => by have h0 : base ≤ cb := (hown.lt _ e.symm).1; omega)
    refine wpAny_ready (rs := [0]) (by kernel_rfl) (by simp) ?_
    refine AllReady.cons (o := { dst := some 24, op := .load 23 (.tmp 4), type := 23, pos := "cluster.go:48", after := #[], guard := none }) rfl (fun K hK => ?_) ?_
    · go_simp
      refine hK _ _ ?_
      exact (any_cast (stabcdefgh sl' w' hrow hgr) (by kernel_rfl) (by rfl) (by rfl))
    exact AllReady.nil
  have stbcdefg : wpAny Tryz.L .any ops8 Q 5 #[false, true, true, true, true, true, true, false, false, false, false] ⟨#[n, J 1, J 2, J 3, (.pointer (some ⟨cb, 0, none⟩)), J 5, (.pointer (some ⟨sb, 0, none⟩)), J 7, J 8, J 9, J 10, J 11, J 12, J 13, J 14, J 15, J 16, n, kv, J 19, J 20, J 21, J 22, J 23, J 24, (.pointer (some ⟨c, 0, none⟩)), (.pointer (some ⟨c, 0, none⟩)), (.pointer (some ⟨c, 2, none⟩)), sl, (.pointer (some ⟨s, 0, none⟩)), (.slice (some ⟨w.heap.size, 0, none⟩) 1 1), J 31, J 32, J 33, J 34, J 35, J 36, J 37, J 38, J 39, J 40], []⟩ (w.alloc (.cells #[.pointer (some ⟨s, 0, none⟩)] 100)) := by
    refine wpAny_ready (rs := [0, 7]) (by kernel_rfl) (by simp) ?_
    refine AllReady.cons (o := { dst := some 24, op := .load 23 (.tmp 4), type := 23, pos := "cluster.go:48", after := #[], guard := none }) rfl (fun K hK => ?_) ?_
    · go_simp
      refine hK _ _ ?_
      exact (any_cast (stabcdefg) (by kernel_rfl) (by rfl) (by rfl))
    refine AllReady.cons (o := { dst := some 31, op := .call { callee := .builtin .append, args := #[.tmp 28, .tmp 30], argTypes := #[80, 80] }, type := 80, pos := "cluster.go:48", after := #[{ on := 4, ground := .data }, { on := 6, ground := .data }], guard := none }) rfl (fun K hK => ?_) ?_
    · obtain ⟨i, h1, h2, h3, h4⟩ := slot100
      refine append_step base 80 100 i (.pointer none) 1 8 und80 h1 h2 h3 h4 (by rfl) (by omega) (.tmp 28) (.tmp 30) rfl rfl sl k xs (by rfl) (hown.alloc _) ⟨w.heap.size, 0, none⟩ 1 1 (by rfl) [.pointer (some ⟨s, 0, none⟩)] (by rfl) (fun j u hu => ?_) (by simp [Value.oneCell']) (by simp only [maxLen]; omega) (by omega) (by rw [alloc_size]; omega) fun v' w' hrow hgr => hK _ _ (any_cast (stbcdefgh v' w' hrow hgr) (by kernel_rfl) (by rfl) (by rfl))
      rcases j with _ | j
      · have : u = .pointer (some ⟨s, 0, none⟩) := by simpa using hu.symm
        subst this
        exact box_cell' w _ 100
      · simp at hu
    exact AllReady.nil
  have stbcdef : wpAny Tryz.L .any ops8 Q 6 #[false, true, true, true, true, true, false, false, false, false, false] ⟨#[n, J 1, J 2, J 3, (.pointer (some ⟨cb, 0, none⟩)), J 5, (.pointer (some ⟨sb, 0, none⟩)), J 7, J 8, J 9, J 10, J 11, J 12, J 13, J 14, J 15, J 16, n, kv, J 19, J 20, J 21, J 22, J 23, J 24, (.pointer (some ⟨c, 0, none⟩)), (.pointer (some ⟨c, 0, none⟩)), (.pointer (some ⟨c, 2, none⟩)), sl, (.pointer (some ⟨s, 0, none⟩)), J 30, J 31, J 32, J 33, J 34, J 35, J 36, J 37, J 38, J 39, J 40], []⟩ w := by
    refine wpAny_ready (rs := [0, 6]) (by kernel_rfl) (by simp) ?_
    refine AllReady.cons (o := { dst := some 24, op := .load 23 (.tmp 4), type := 23, pos := "cluster.go:48", after := #[], guard := none }) rfl (fun K hK => ?_) ?_
    · go_simp
      refine hK _ _ ?_
      exact (any_cast (stabcdef) (by kernel_rfl) (by rfl) (by rfl))
    refine AllReady.cons (o := { dst := some 30, op := .buildSlice 80 1 #[(0, .tmp 29)], type := 80, pos := "cluster.go:48", after := #[{ on := 5, ground := .data }], guard := none }) rfl (fun K hK => ?_) ?_
    · go_simp
      refine hK _ _ ?_
      exact (any_cast (stbcdefg) (by kernel_rfl) (by rfl) (by rfl))
    exact AllReady.nil
  have stbcde : wpAny Tryz.L .any ops8 Q 7 #[false, true, true, true, true, false, false, false, false, false, false] ⟨#[n, J 1, J 2, J 3, (.pointer (some ⟨cb, 0, none⟩)), J 5, (.pointer (some ⟨sb, 0, none⟩)), J 7, J 8, J 9, J 10, J 11, J 12, J 13, J 14, J 15, J 16, n, kv, J 19, J 20, J 21, J 22, J 23, J 24, (.pointer (some ⟨c, 0, none⟩)), (.pointer (some ⟨c, 0, none⟩)), (.pointer (some ⟨c, 2, none⟩)), sl, J 29, J 30, J 31, J 32, J 33, J 34, J 35, J 36, J 37, J 38, J 39, J 40], []⟩ w := by
    refine wpAny_ready (rs := [0, 5]) (by kernel_rfl) (by simp) ?_
    refine AllReady.cons (o := { dst := some 24, op := .load 23 (.tmp 4), type := 23, pos := "cluster.go:48", after := #[], guard := none }) rfl (fun K hK => ?_) ?_
    · go_simp
      refine hK _ _ ?_
      exact (any_cast (stabcde) (by kernel_rfl) (by rfl) (by rfl))
    refine AllReady.cons (o := { dst := some 29, op := .load 100 (.tmp 6), type := 100, pos := "cluster.go:48", after := #[], guard := none }) rfl (fun K hK => ?_) ?_
    · go_simp
      refine hK _ _ ?_
      exact (any_cast (stbcdef) (by kernel_rfl) (by rfl) (by rfl))
    exact AllReady.nil
  have stbcdfg : wpAny Tryz.L .any ops8 Q 6 #[false, true, true, true, false, true, true, false, false, false, false] ⟨#[n, J 1, J 2, J 3, (.pointer (some ⟨cb, 0, none⟩)), J 5, (.pointer (some ⟨sb, 0, none⟩)), J 7, J 8, J 9, J 10, J 11, J 12, J 13, J 14, J 15, J 16, n, kv, J 19, J 20, J 21, J 22, J 23, J 24, (.pointer (some ⟨c, 0, none⟩)), (.pointer (some ⟨c, 0, none⟩)), (.pointer (some ⟨c, 2, none⟩)), J 28, (.pointer (some ⟨s, 0, none⟩)), (.slice (some ⟨w.heap.size, 0, none⟩) 1 1), J 31, J 32, J 33, J 34, J 35, J 36, J 37, J 38, J 39, J 40], []⟩ (w.alloc (.cells #[.pointer (some ⟨s, 0, none⟩)] 100)) := by
    refine wpAny_ready (rs := [0, 4]) (by kernel_rfl) (by simp) ?_
    refine AllReady.cons (o := { dst := some 24, op := .load 23 (.tmp 4), type := 23, pos := "cluster.go:48", after := #[], guard := none }) rfl (fun K hK => ?_) ?_
    · go_simp
      refine hK _ _ ?_
      exact (any_cast (stabcdfg) (by kernel_rfl) (by rfl) (by rfl))
    refine AllReady.cons (o := { dst := some 28, op := .load 80 (.tmp 27), type := 80, pos := "cluster.go:48", after := #[{ on := 3, ground := .data }], guard := none }) rfl (fun K hK => ?_) ?_
    · go_simp
      refine hK _ _ ?_
      exact (any_cast (stbcdefg) (by kernel_rfl) (by rfl) (by rfl))
    exact AllReady.nil
  have stbcdf : wpAny Tryz.L .any ops8 Q 7 #[false, true, true, true, false, true, false, false, false, false, false] ⟨#[n, J 1, J 2, J 3, (.pointer (some ⟨cb, 0, none⟩)), J 5, (.pointer (some ⟨sb, 0, none⟩)), J 7, J 8, J 9, J 10, J 11, J 12, J 13, J 14, J 15, J 16, n, kv, J 19, J 20, J 21, J 22, J 23, J 24, (.pointer (some ⟨c, 0, none⟩)), (.pointer (some ⟨c, 0, none⟩)), (.pointer (some ⟨c, 2, none⟩)), J 28, (.pointer (some ⟨s, 0, none⟩)), J 30, J 31, J 32, J 33, J 34, J 35, J 36, J 37, J 38, J 39, J 40], []⟩ w := by
    refine wpAny_ready (rs := [0, 4, 6]) (by kernel_rfl) (by simp) ?_
    refine AllReady.cons (o := { dst := some 24, op := .load 23 (.tmp 4), type := 23, pos := "cluster.go:48", after := #[], guard := none }) rfl (fun K hK => ?_) ?_
    · go_simp
      refine hK _ _ ?_
      exact (any_cast (stabcdf) (by kernel_rfl) (by rfl) (by rfl))
    refine AllReady.cons (o := { dst := some 28, op := .load 80 (.tmp 27), type := 80, pos := "cluster.go:48", after := #[{ on := 3, ground := .data }], guard := none }) rfl (fun K hK => ?_) ?_
    · go_simp
      refine hK _ _ ?_
      exact (any_cast (stbcdef) (by kernel_rfl) (by rfl) (by rfl))
    refine AllReady.cons (o := { dst := some 30, op := .buildSlice 80 1 #[(0, .tmp 29)], type := 80, pos := "cluster.go:48", after := #[{ on := 5, ground := .data }], guard := none }) rfl (fun K hK => ?_) ?_
    · go_simp
      refine hK _ _ ?_
      exact (any_cast (stbcdfg) (by kernel_rfl) (by rfl) (by rfl))
    exact AllReady.nil
  have stbcd : wpAny Tryz.L .any ops8 Q 8 #[false, true, true, true, false, false, false, false, false, false, false] ⟨#[n, J 1, J 2, J 3, (.pointer (some ⟨cb, 0, none⟩)), J 5, (.pointer (some ⟨sb, 0, none⟩)), J 7, J 8, J 9, J 10, J 11, J 12, J 13, J 14, J 15, J 16, n, kv, J 19, J 20, J 21, J 22, J 23, J 24, (.pointer (some ⟨c, 0, none⟩)), (.pointer (some ⟨c, 0, none⟩)), (.pointer (some ⟨c, 2, none⟩)), J 28, J 29, J 30, J 31, J 32, J 33, J 34, J 35, J 36, J 37, J 38, J 39, J 40], []⟩ w := by
    refine wpAny_ready (rs := [0, 4, 5]) (by kernel_rfl) (by simp) ?_
    refine AllReady.cons (o := { dst := some 24, op := .load 23 (.tmp 4), type := 23, pos := "cluster.go:48", after := #[], guard := none }) rfl (fun K hK => ?_) ?_
    · go_simp
      refine hK _ _ ?_
      exact (any_cast (stabcd) (by kernel_rfl) (by rfl) (by rfl))
    refine AllReady.cons (o := { dst := some 28, op := .load 80 (.tmp 27), type := 80, pos := "cluster.go:48", after := #[{ on := 3, ground := .data }], guard := none }) rfl (fun K hK => ?_) ?_
    · go_simp
      refine hK _ _ ?_
      exact (any_cast (stbcde) (by kernel_rfl) (by rfl) (by rfl))
    refine AllReady.cons (o := { dst := some 29, op := .load 100 (.tmp 6), type := 100, pos := "cluster.go:48", after := #[], guard := none }) rfl (fun K hK => ?_) ?_
    · go_simp
      refine hK _ _ ?_
      exact (any_cast (stbcdf) (by kernel_rfl) (by rfl) (by rfl))
    exact AllReady.nil
  have stbcfg : wpAny Tryz.L .any ops8 Q 7 #[false, true, true, false, false, true, true, false, false, false, false] ⟨#[n, J 1, J 2, J 3, (.pointer (some ⟨cb, 0, none⟩)), J 5, (.pointer (some ⟨sb, 0, none⟩)), J 7, J 8, J 9, J 10, J 11, J 12, J 13, J 14, J 15, J 16, n, kv, J 19, J 20, J 21, J 22, J 23, J 24, (.pointer (some ⟨c, 0, none⟩)), (.pointer (some ⟨c, 0, none⟩)), J 27, J 28, (.pointer (some ⟨s, 0, none⟩)), (.slice (some ⟨w.heap.size, 0, none⟩) 1 1), J 31, J 32, J 33, J 34, J 35, J 36, J 37, J 38, J 39, J 40], []⟩ (w.alloc (.cells #[.pointer (some ⟨s, 0, none⟩)] 100)) := by
    refine wpAny_ready (rs := [0, 3]) (by kernel_rfl) (by simp) ?_
    refine AllReady.cons (o := { dst := some 24, op := .load 23 (.tmp 4), type := 23, pos := "cluster.go:48", after := #[], guard := none }) rfl (fun K hK => ?_) ?_
    · go_simp
      refine hK _ _ ?_
      exact (any_cast (stabcfg) (by kernel_rfl) (by rfl) (by rfl))
    refine AllReady.cons (o := { dst := some 27, op := .fieldAddr 94 (.tmp 26) 1, type := 0, pos := "cluster.go:48", after := #[{ on := 2, ground := .data }], guard := none }) rfl (fun K hK => ?_) ?_
    · go_simp
      refine hK _ _ ?_
      exact (any_cast (stbcdfg) (by kernel_rfl) (by rfl) (by rfl))
    exact AllReady.nil
  have stbcf : wpAny Tryz.L .any ops8 Q 8 #[false, true, true, false, false, true, false, false, false, false, false] ⟨#[n, J 1, J 2, J 3, (.pointer (some ⟨cb, 0, none⟩)), J 5, (.pointer (some ⟨sb, 0, none⟩)), J 7, J 8, J 9, J 10, J 11, J 12, J 13, J 14, J 15, J 16, n, kv, J 19, J 20, J 21, J 22, J 23, J 24, (.pointer (some ⟨c, 0, none⟩)), (.pointer (some ⟨c, 0, none⟩)), J 27, J 28, (.pointer (some ⟨s, 0, none⟩)), J 30, J 31, J 32, J 33, J 34, J 35, J 36, J 37, J 38, J 39, J 40], []⟩ w := by
    refine wpAny_ready (rs := [0, 3, 6]) (by kernel_rfl) (by simp) ?_
    refine AllReady.cons (o := { dst := some 24, op := .load 23 (.tmp 4), type := 23, pos := "cluster.go:48", after := #[], guard := none }) rfl (fun K hK => ?_) ?_
    · go_simp
      refine hK _ _ ?_
      exact (any_cast (stabcf) (by kernel_rfl) (by rfl) (by rfl))
    refine AllReady.cons (o := { dst := some 27, op := .fieldAddr 94 (.tmp 26) 1, type := 0, pos := "cluster.go:48", after := #[{ on := 2, ground := .data }], guard := none }) rfl (fun K hK => ?_) ?_
    · go_simp
      refine hK _ _ ?_
      exact (any_cast (stbcdf) (by kernel_rfl) (by rfl) (by rfl))
    refine AllReady.cons (o := { dst := some 30, op := .buildSlice 80 1 #[(0, .tmp 29)], type := 80, pos := "cluster.go:48", after := #[{ on := 5, ground := .data }], guard := none }) rfl (fun K hK => ?_) ?_
    · go_simp
      refine hK _ _ ?_
      exact (any_cast (stbcfg) (by kernel_rfl) (by rfl) (by rfl))
    exact AllReady.nil
  have stbc : wpAny Tryz.L .any ops8 Q 9 #[false, true, true, false, false, false, false, false, false, false, false] ⟨#[n, J 1, J 2, J 3, (.pointer (some ⟨cb, 0, none⟩)), J 5, (.pointer (some ⟨sb, 0, none⟩)), J 7, J 8, J 9, J 10, J 11, J 12, J 13, J 14, J 15, J 16, n, kv, J 19, J 20, J 21, J 22, J 23, J 24, (.pointer (some ⟨c, 0, none⟩)), (.pointer (some ⟨c, 0, none⟩)), J 27, J 28, J 29, J 30, J 31, J 32, J 33, J 34, J 35, J 36, J 37, J 38, J 39, J 40], []⟩ w := by
    refine wpAny_ready (rs := [0, 3, 5]) (by kernel_rfl) (by simp) ?_
    refine AllReady.cons (o := { dst := some 24, op := .load 23 (.tmp 4), type := 23, pos := "cluster.go:48", after := #[], guard := none }) rfl (fun K hK => ?_) ?_
    · go_simp
      refine hK _ _ ?_
      exact (any_cast (stabc) (by kernel_rfl) (by rfl) (by rfl))
    refine AllReady.cons (o := { dst := some 27, op := .fieldAddr 94 (.tmp 26) 1, type := 0, pos := "cluster.go:48", after := #[{ on := 2, ground := .data }], guard := none }) rfl (fun K hK => ?_) ?_
    · go_simp
      refine hK _ _ ?_
      exact (any_cast (stbcd) (by kernel_rfl) (by rfl) (by rfl))
    refine AllReady.cons (o := { dst := some 29, op := .load 100 (.tmp 6), type := 100, pos := "cluster.go:48", after := #[], guard := none }) rfl (fun K hK => ?_) ?_
    · go_simp
      refine hK _ _ ?_
      exact (any_cast (stbcf) (by kernel_rfl) (by rfl) (by rfl))
    exact AllReady.nil
  have stbfg : wpAny Tryz.L .any ops8 Q 8 #[false, true, false, false, false, true, true, false, false, false, false] ⟨#[n, J 1, J 2, J 3, (.pointer (some ⟨cb, 0, none⟩)), J 5, (.pointer (some ⟨sb, 0, none⟩)), J 7, J 8, J 9, J 10, J 11, J 12, J 13, J 14, J 15, J 16, n, kv, J 19, J 20, J 21, J 22, J 23, J 24, (.pointer (some ⟨c, 0, none⟩)), J 26, J 27, J 28, (.pointer (some ⟨s, 0, none⟩)), (.slice (some ⟨w.heap.size, 0, none⟩) 1 1), J 31, J 32, J 33, J 34, J 35, J 36, J 37, J 38, J 39, J 40], []⟩ (w.alloc (.cells #[.pointer (some ⟨s, 0, none⟩)] 100)) := by
    refine wpAny_ready (rs := [0, 2]) (by kernel_rfl) (by simp) ?_
    refine AllReady.cons (o := { dst := some 24, op := .load 23 (.tmp 4), type := 23, pos := "cluster.go:48", after := #[], guard := none }) rfl (fun K hK => ?_) ?_
    · go_simp
      refine hK _ _ ?_
      exact (any_cast (stabfg) (by kernel_rfl) (by rfl) (by rfl))
    refine AllReady.cons (o := { dst := some 26, op := .nilCheck (.tmp 25), type := 0, pos := "cluster.go:48", after := #[{ on := 1, ground := .data }], guard := none }) rfl (fun K hK => ?_) ?_
    · go_simp
      refine hK _ _ ?_
      exact (any_cast (stbcfg) (by kernel_rfl) (by rfl) (by rfl))
    exact AllReady.nil
  have stbf : wpAny Tryz.L .any ops8 Q 9 #[false, true, false, false, false, true, false, false, false, false, false] ⟨#[n, J 1, J 2, J 3, (.pointer (some ⟨cb, 0, none⟩)), J 5, (.pointer (some ⟨sb, 0, none⟩)), J 7, J 8, J 9, J 10, J 11, J 12, J 13, J 14, J 15, J 16, n, kv, J 19, J 20, J 21, J 22, J 23, J 24, (.pointer (some ⟨c, 0, none⟩)), J 26, J 27, J 28, (.pointer (some ⟨s, 0, none⟩)), J 30, J 31, J 32, J 33, J 34, J 35, J 36, J 37, J 38, J 39, J 40], []⟩ w := by
    refine wpAny_ready (rs := [0, 2, 6]) (by kernel_rfl) (by simp) ?_
    refine AllReady.cons (o := { dst := some 24, op := .load 23 (.tmp 4), type := 23, pos := "cluster.go:48", after := #[], guard := none }) rfl (fun K hK => ?_) ?_
    · go_simp
      refine hK _ _ ?_
      exact (any_cast (stabf) (by kernel_rfl) (by rfl) (by rfl))
    refine AllReady.cons (o := { dst := some 26, op := .nilCheck (.tmp 25), type := 0, pos := "cluster.go:48", after := #[{ on := 1, ground := .data }], guard := none }) rfl (fun K hK => ?_) ?_
    · go_simp
      refine hK _ _ ?_
      exact (any_cast (stbcf) (by kernel_rfl) (by rfl) (by rfl))
    refine AllReady.cons (o := { dst := some 30, op := .buildSlice 80 1 #[(0, .tmp 29)], type := 80, pos := "cluster.go:48", after := #[{ on := 5, ground := .data }], guard := none }) rfl (fun K hK => ?_) ?_
    · go_simp
      refine hK _ _ ?_
      exact (any_cast (stbfg) (by kernel_rfl) (by rfl) (by rfl))
    exact AllReady.nil
  have stb : wpAny Tryz.L .any ops8 Q 10 #[false, true, false, false, false, false, false, false, false, false, false] ⟨#[n, J 1, J 2, J 3, (.pointer (some ⟨cb, 0, none⟩)), J 5, (.pointer (some ⟨sb, 0, none⟩)), J 7, J 8, J 9, J 10, J 11, J 12, J 13, J 14, J 15, J 16, n, kv, J 19, J 20, J 21, J 22, J 23, J 24, (.pointer (some ⟨c, 0, none⟩)), J 26, J 27, J 28, J 29, J 30, J 31, J 32, J 33, J 34, J 35, J 36, J 37, J 38, J 39, J 40], []⟩ w := by
    refine wpAny_ready (rs := [0, 2, 5]) (by kernel_rfl) (by simp) ?_
    refine AllReady.cons (o := { dst := some 24, op := .load 23 (.tmp 4), type := 23, pos := "cluster.go:48", after := #[], guard := none }) rfl (fun K hK => ?_) ?_
    · go_simp
      refine hK _ _ ?_
      exact (any_cast (stab) (by kernel_rfl) (by rfl) (by rfl))
    refine AllReady.cons (o := { dst := some 26, op := .nilCheck (.tmp 25), type := 0, pos := "cluster.go:48", after := #[{ on := 1, ground := .data }], guard := none }) rfl (fun K hK => ?_) ?_
    · go_simp
      refine hK _ _ ?_
      exact (any_cast (stbc) (by kernel_rfl) (by rfl) (by rfl))
    refine AllReady.cons (o := { dst := some 29, op := .load 100 (.tmp 6), type := 100, pos := "cluster.go:48", after := #[], guard := none }) rfl (fun K hK => ?_) ?_
    · go_simp
      refine hK _ _ ?_
      exact (any_cast (stbf) (by kernel_rfl) (by rfl) (by rfl))
    exact AllReady.nil
  have stfg : wpAny Tryz.L .any ops8 Q 9 #[false, false, false, false, false, true, true, false, false, false, false] ⟨#[n, J 1, J 2, J 3, (.pointer (some ⟨cb, 0, none⟩)), J 5, (.pointer (some ⟨sb, 0, none⟩)), J 7, J 8, J 9, J 10, J 11, J 12, J 13, J 14, J 15, J 16, n, kv, J 19, J 20, J 21, J 22, J 23, J 24, J 25, J 26, J 27, J 28, (.pointer (some ⟨s, 0, none⟩)), (.slice (some ⟨w.heap.size, 0, none⟩) 1 1), J 31, J 32, J 33, J 34, J 35, J 36, J 37, J 38, J 39, J 40], []⟩ (w.alloc (.cells #[.pointer (some ⟨s, 0, none⟩)] 100)) := by
    refine wpAny_ready (rs := [0, 1]) (by kernel_rfl) (by simp) ?_
    refine AllReady.cons (o := { dst := some 24, op := .load 23 (.tmp 4), type := 23, pos := "cluster.go:48", after := #[], guard := none }) rfl (fun K hK => ?_) ?_
    · go_simp
      refine hK _ _ ?_
      exact (any_cast (stafg) (by kernel_rfl) (by rfl) (by rfl))
    refine AllReady.cons (o := { dst := some 25, op := .load 23 (.tmp 4), type := 23, pos := "cluster.go:48", after := #[], guard := none }) rfl (fun K hK => ?_) ?_
    · go_simp
      refine hK _ _ ?_
      exact (any_cast (stbfg) (by kernel_rfl) (by rfl) (by rfl))
    exact AllReady.nil
  have stf : wpAny Tryz.L .any ops8 Q 10 #[false, false, false, false, false, true, false, false, false, false, false] ⟨#[n, J 1, J 2, J 3, (.pointer (some ⟨cb, 0, none⟩)), J 5, (.pointer (some ⟨sb, 0, none⟩)), J 7, J 8, J 9, J 10, J 11, J 12, J 13, J 14, J 15, J 16, n, kv, J 19, J 20, J 21, J 22, J 23, J 24, J 25, J 26, J 27, J 28, (.pointer (some ⟨s, 0, none⟩)), J 30, J 31, J 32, J 33, J 34, J 35, J 36, J 37, J 38, J 39, J 40], []⟩ w := by
    refine wpAny_ready (rs := [0, 1, 6]) (by kernel_rfl) (by simp) ?_
    refine AllReady.cons (o := { dst := some 24, op := .load 23 (.tmp 4), type := 23, pos := "cluster.go:48", after := #[], guard := none }) rfl (fun K hK => ?_) ?_
    · go_simp
      refine hK _ _ ?_
      exact (any_cast (staf) (by kernel_rfl) (by rfl) (by rfl))
    refine AllReady.cons (o := { dst := some 25, op := .load 23 (.tmp 4), type := 23, pos := "cluster.go:48", after := #[], guard := none }) rfl (fun K hK => ?_) ?_
    · go_simp
      refine hK _ _ ?_
      exact (any_cast (stbf) (by kernel_rfl) (by rfl) (by rfl))
    refine AllReady.cons (o := { dst := some 30, op := .buildSlice 80 1 #[(0, .tmp 29)], type := 80, pos := "cluster.go:48", after := #[{ on := 5, ground := .data }], guard := none }) rfl (fun K hK => ?_) ?_
    · go_simp
      refine hK _ _ ?_
      exact (any_cast (stfg) (by kernel_rfl) (by rfl) (by rfl))
    exact AllReady.nil
  have st : wpAny Tryz.L .any ops8 Q 11 #[false, false, false, false, false, false, false, false, false, false, false] ⟨#[n, J 1, J 2, J 3, (.pointer (some ⟨cb, 0, none⟩)), J 5, (.pointer (some ⟨sb, 0, none⟩)), J 7, J 8, J 9, J 10, J 11, J 12, J 13, J 14, J 15, J 16, n, kv, J 19, J 20, J 21, J 22, J 23, J 24, J 25, J 26, J 27, J 28, J 29, J 30, J 31, J 32, J 33, J 34, J 35, J 36, J 37, J 38, J 39, J 40], []⟩ w := by
    refine wpAny_ready (rs := [0, 1, 5]) (by kernel_rfl) (by simp) ?_
    refine AllReady.cons (o := { dst := some 24, op := .load 23 (.tmp 4), type := 23, pos := "cluster.go:48", after := #[], guard := none }) rfl (fun K hK => ?_) ?_
    · go_simp
      refine hK _ _ ?_
      exact (any_cast (sta) (by kernel_rfl) (by rfl) (by rfl))
    refine AllReady.cons (o := { dst := some 25, op := .load 23 (.tmp 4), type := 23, pos := "cluster.go:48", after := #[], guard := none }) rfl (fun K hK => ?_) ?_
    · go_simp
      refine hK _ _ ?_
      exact (any_cast (stb) (by kernel_rfl) (by rfl) (by rfl))
    refine AllReady.cons (o := { dst := some 29, op := .load 100 (.tmp 6), type := 100, pos := "cluster.go:48", after := #[], guard := none }) rfl (fun K hK => ?_) ?_
    · go_simp
      refine hK _ _ ?_
      exact (any_cast (stf) (by kernel_rfl) (by rfl) (by rfl))
    exact AllReady.nil
  exact any_cast st (by kernel_rfl) rfl rfl
end
end Go.Proofs.Shardlog
