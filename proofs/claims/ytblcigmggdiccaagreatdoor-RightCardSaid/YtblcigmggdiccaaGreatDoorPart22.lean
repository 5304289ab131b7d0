/- The document's answer: begin, alone. -/
import Derived.Test.YtblcigmggdiccaaGreatDoorPart21
set_option linter.unusedSectionVars false
set_option linter.unusedSimpArgs false
set_option linter.unusedVariables false
set_option maxRecDepth 100000
namespace Go.Proofs.Shardlog
open Go Go.Conc Go.Tame Go.Proofs Go.RowKit
/-- The document's world: its four fields, the three lists. -/
structure RefW (w : World) (m N nb nt : Nat) (sh bag txs : Value) (stop : Bool) (rs rb rt : List Value) : Prop where
  cell : w.heap[m]? = some (.cells #[sh, bag, txs, .bool stop] 51 (0, 0))
  shards : w.ownsRow (m + 1) 52 1 sh N rs
  bag : w.ownsRow (m + 1) 122 7 bag nb rb
  txs : w.ownsRow (m + 1) 69 3 txs nt rt
section
variable {w w' : World} {m N nb nt : Nat} {sh bag txs : Value} {stop : Bool} {rs rb rt : List Value}
theorem own_len {base : Nat} {e : TypeId} {size n : Nat} {v : Value} {xs : List Value} (h : w.ownsRow base e size v n xs) : ∃ o c, v = .slice o n c := by
  rcases h.2 with ⟨rfl, rfl⟩ | ⟨g, cap, cur, rfl, _⟩
  · exact ⟨_, _, rfl⟩
  · exact ⟨_, _, rfl⟩
theorem RefW.grown (h : RefW w m N nb nt sh bag txs stop rs rb rt) (g : Grown w w') : RefW w' m N nb nt sh bag txs stop rs rb rt := by
  have hm := (Array.getElem?_eq_some_iff.1 h.cell).1
  exact ⟨by rw [g.heap m hm]; exact h.cell, own_more h.shards (Nat.le_refl _) fun x hx => g.heap x (h.shards.lt x hx).2, own_more h.bag (Nat.le_refl _) fun x hx => g.heap x (h.bag.lt x hx).2, own_more h.txs (Nat.le_refl _) fun x hx => g.heap x (h.txs.lt x hx).2⟩
theorem Same.grown (h : Same w w') : Grown w w' := Grown.same h.heap h.os
theorem call_step {ops : Array Oper} {o : Oper} {a : Act} {K : Act → World → Prop} {Q : Exit → Act → World → Prop} {f : FuncId} {xs : Array Operand} {ts : Array TypeId} {args : Array Value} {fn : Func} {R : Value → World → Prop} (hop : o.op = .call { callee := .value (.func f), args := xs, argTypes := ts }) (hg : o.guard = none) (ha : xs.map a.eval = args)
    (hf : Tryz.L.funcs[f]? = some fn) (hb : fn.body.isNone = false) (hn : (fn.name == "runtime.NumGoroutine") = false) (hc : Calls Tryz.L f args w fun e w' => ∃ y, e = .returned y ∧ R y w') (hK : ∀ y w', R y w' → K (a.put o.dst y) w') :
    (if Region.wanted o (yielded ops a.tmps) = true then Oper.wp Tryz.L o a w K Q else K (a.put o.dst undef) w) := by
  have hw : Region.wanted o (yielded ops a.tmps) = true := by simp [Region.wanted, hg]
  rw [if_pos hw]
  have hr := (call_enters (Q := Tryz.L) (ρ := a.eval) (x := .func f) (f := f) (first := #[]) (captured := #[]) (args := args) hop rfl rfl (by simp [ha]) hf hb hn w).1
  unfold Oper.wp
  rw [hr]
  refine hc.mono fun e w' he => ?_
  obtain ⟨y, rfl, hR⟩ := he
  exact hK y w' hR
theorem f54_body : Tryz.f54.body.isNone = false := by kernel_rfl
theorem f54_name : (Tryz.f54.name == "runtime.NumGoroutine") = false := by kernel_rfl
theorem lone_at (k : Int) (n : Nat) (hn : 1 ≤ n) (hn4 : n ≤ 4) (hk : 0 ≤ k ∧ k ≤ 255) : Calls Tryz.L 54 #[.int .i64 k, .int .i64 n] w fun e w' => ∃ y, e = .returned y ∧ (y = .int .i64 ((k - 97).tmod n) ∧ Same w w') := by
  go_enter LL.func54, Tryz.ntmps54
  go_wp2
  go_ret
  exact ⟨_, rfl, rfl, Same.refl w⟩
theorem und48 : Tryz.L.underlying 48 = some (.slice 122) := by kernel_rfl
theorem slot122 : ∃ i z, Tryz.L.info? 122 = some i ∧ i.zero = some z ∧ i.size = 7 ∧ i.bytes = 88 ∧ z.cells.size = 7 := by
  have h : (Tryz.L.info? 122).map (fun i => (i.size, i.bytes, i.zero.map (·.cells.size))) = some (7, 88, some 7) := by kernel_rfl
  obtain ⟨i, hi, hb⟩ := Option.map_eq_some_iff.1 h
  simp only [Prod.mk.injEq] at hb
  obtain ⟨z, hz, hc⟩ := Option.map_eq_some_iff.1 hb.2.2
  exact ⟨i, z, hi, hz, hb.1, hb.2.1, hc⟩
theorem own_cell0 {base : Nat} {e : TypeId} {size n : Nat} {v : Value} {xs : List Value} (h : w.ownsRow base e size v n xs) {g : Nat} (hg : v.ownBlock = some g) {j : Nat} {u : Value} (hu : xs[j]? = some u) : w.cell? ⟨g, j, none⟩ = some u := by
  have := own_cell h hg hu
  rwa [Nat.zero_add] at this
/-- A begin, as the document's answer has it. -/
def refBegin (to t : Int) (opv : Value) : List Value := [.int .i64 1, .int .i64 (-1), .int .i64 to, .int .i64 t, .bool false, opv, .slice none 0 0]
/-- What the document's answer changes at its bag. -/
structure BagMore (w w' : World) (m : Nat) (bag : Value) : Prop where
  old : ∀ x, x < w.heap.size → x ≠ m → bag.ownBlock ≠ some x → w'.heap[x]? = w.heap[x]?
  size : w.heap.size ≤ w'.heap.size
  os : w'.os = w.os
def Begins (w : World) (m N nb nt : Nat) (sh bag txs : Value) (stop : Bool) (rs rb rt msg : List Value) (e : Ending) (w' : World) : Prop :=
  e = .returned (.tuple #[]) ∧ ∃ bag', RefW w' m N (nb + 1) nt sh bag' txs stop rs (rb ++ msg) rt ∧ BagMore w w' m bag
theorem undrew (h : Same w.drew w') : Same w w' := ⟨h.heap, h.os⟩
theorem own_same {base : Nat} {e : TypeId} {size n : Nat} {v : Value} {xs : List Value} (h : w.ownsRow base e size v n xs) (hs : Same w.drew w') : w'.ownsRow base e size v n xs := own_more h (Nat.le_refl _) fun x _ => by rw [hs.heap]; rfl
theorem bag_after {w1 w2 : World} {v' : Value} {X : Obj} {msg : List Value} (hW : RefW w m N nb nt sh bag txs stop rs rb rt) (hs : Same w.drew w1) (hrow : w2.ownsRow (m + 1) 122 7 v' (nb + 1) (rb ++ msg)) (hgr : (w1.alloc X).grownBy w2 bag.ownBlock) :
    (∃ o m p, v' = .slice o m p) ∧ w2.cell? ⟨m, 1, none⟩ = some bag ∧ w2.frozen? ⟨m, 1, none⟩ = false ∧ RefW (w2.setCell ⟨m, 1, none⟩ v') m N (nb + 1) nt sh v' txs stop rs (rb ++ msg) rt ∧ BagMore w (w2.setCell ⟨m, 1, none⟩ v') m bag := by
  have hh : w1.heap = w.heap := hs.heap
  have hmlt := (Array.getElem?_eq_some_iff.1 hW.cell).1
  have hne : ∀ x, bag.ownBlock = some x → m + 1 ≤ x := fun x hx => (hW.bag.lt x hx).1
  have keep : ∀ x, x < w.heap.size → bag.ownBlock ≠ some x → w2.heap[x]? = w.heap[x]? := fun x hx hb => by
    rw [hgr.block x (by rw [alloc_size, hh]; omega) (fun e => hb e.symm), alloc_get', hh, if_neg (by omega)]
  have hm2 : w2.heap[m]? = some (.cells #[sh, bag, txs, .bool stop] 51 (0, 0)) := by
    rw [keep m hmlt (fun e => by have := hne m e; omega)]
    exact hW.cell
  have other : ∀ {e : TypeId} {size n : Nat} {v : Value} {xs : List Value}, e ≠ 122 → w.ownsRow (m + 1) e size v n xs → (w2.setCell ⟨m, 1, none⟩ v').ownsRow (m + 1) e size v n xs := fun {e size n v xs} he h => own_more h (Nat.le_refl _) fun x hx => by
    have hlt := h.lt x hx
    rw [setCell_ne (show x ≠ m by omega)]
    refine keep x hlt.2 fun eb => he ?_
    obtain ⟨cur, h1⟩ : ∃ cur, w.heap[x]? = some (.cells cur e (0, 0)) := by
      rcases h.2 with ⟨rfl, _⟩ | ⟨g, cap, cur, rfl, h2, h3, _⟩
      · cases hx
      · cases hx; exact ⟨cur, h3⟩
    obtain ⟨cur', h2⟩ : ∃ cur, w.heap[x]? = some (.cells cur 122 (0, 0)) := by
      rcases hW.bag.2 with ⟨h0, _⟩ | ⟨g, cap, cur, h0, h2, h3, _⟩
      · rw [h0] at eb; cases eb
      · rw [h0] at eb; cases eb; exact ⟨cur, h3⟩
    rw [h1] at h2
    cases h2
    rfl
  refine ⟨own_slice hrow, ?_, ?_, ⟨?_, other (by decide) hW.shards, own_more hrow (Nat.le_refl _) fun x hx => ?_, other (by decide) hW.txs⟩, ⟨fun x hx hxm hb => ?_, ?_, ?_⟩⟩
  · unfold World.cell?
    rw [hm2]
    rfl
  · unfold World.frozen?
    rw [hm2]
    simp
  · simp only [World.setCell, Array.getElem?_modify, if_true, hm2]
    rfl
  · have := (hrow.lt x hx).1
    rw [setCell_ne (show x ≠ m by omega)]
  · rw [setCell_ne hxm]
    exact keep x hx hb
  · rw [setCell_size]
    have := hgr.size
    rw [alloc_size, hh] at this
    omega
  · rw [setCell_os]
    exact hgr.os.trans hs.os
set_option maxHeartbeats 4000000 in
theorem lone_begin {t g n cap : Nat} {o : Nat → OpD} (hW : RefW w m N nb nt sh bag txs stop rs rb rt) (ht : t < nt) (hop : rt[t * 3]? = some (.slice (some ⟨g, 0, none⟩) n cap)) (hops : RefOps w g 0 n o) (hn : 1 ≤ n) (hN : 1 ≤ N) (hN4 : N ≤ 4) (hk : 0 ≤ (o 0).key ∧ (o 0).key ≤ 255) (hnb : nb ≤ 1048576) (hnt : nt ≤ 1048576) :
    Calls Tryz.L 30 #[.pointer (some ⟨m, 0, none⟩), .int .i64 t] w (Begins w m N nb nt sh bag txs stop rs rb rt (refBegin (((o 0).key - 97).tmod N) t (.slice (some ⟨g, 0, none⟩) n cap))) := by
  obtain ⟨i122, z122, t1, t2, t3, t4, t5⟩ := slot122
  obtain ⟨osh, csh, hsh⟩ := own_len hW.shards
  subst hsh
  have htx : ∃ gt ct, txs = .slice (some ⟨gt, 0, none⟩) nt ct := by
    rcases hW.txs.2 with ⟨_, h0⟩ | ⟨gt, ct, cur, h, _⟩
    · omega
    · exact ⟨gt, ct, h⟩
  obtain ⟨gt, ct, htx⟩ := htx
  subst htx
  have hc0 : w.cell? ⟨m, 0, none⟩ = some (.slice osh N csh) := by unfold World.cell?; rw [hW.cell]; rfl
  have hc1 : w.cell? ⟨m, 1, none⟩ = some bag := by unfold World.cell?; rw [hW.cell]; rfl
  have hc2 : w.cell? ⟨m, 2, none⟩ = some (.slice (some ⟨gt, 0, none⟩) nt ct) := by unfold World.cell?; rw [hW.cell]; rfl
  have hct : w.cell? ⟨gt, t * 3, none⟩ = some (.slice (some ⟨g, 0, none⟩) n cap) := own_cell0 hW.txs rfl hop
  have hk0 : w.cell? ⟨g, 1, none⟩ = some (.int .i64 (o 0).key) := by simpa using hops.key 0 hn
  have hn0 : 0 < n := hn
  have hmlt := (Array.getElem?_eq_some_iff.1 hW.cell).1
  have hone : ∀ u ∈ refBegin (((o 0).key - 97).tmod N) t (.slice (some ⟨g, 0, none⟩) n cap), u.oneCell' = true := by simp [refBegin, Value.oneCell']
  have hmx : nb + 1 ≤ maxLen := by simp only [maxLen]; omega
  have hby : (nb + 1) * 88 ≤ 140737488355328 := by omega
  have hbs : ∀ w1, Same w.drew w1 → m + 1 ≤ (w1.alloc (.cells (refBegin (((o 0).key - 97).tmod N) t (.slice (some ⟨g, 0, none⟩) n cap)).toArray 122)).heap.size := fun w1 hs => by
    have : w1.heap.size = w.heap.size := by rw [hs.heap]; rfl
    rw [alloc_size]
    omega
  have after := fun w1 w2 v' (hs : Same w.drew w1) => bag_after (v' := v') (w2 := w2) (msg := refBegin (((o 0).key - 97).tmod N) t (.slice (some ⟨g, 0, none⟩) n cap)) (X := .cells (refBegin (((o 0).key - 97).tmod N) t (.slice (some ⟨g, 0, none⟩) n cap)).toArray 122) hW hs
  have hA := hid after
  clear after
  have hb := hid hW.bag
  have hWW := hid hW
  clear hW hops hop
  go_enter LL.func30, Tryz.ntmps30
  go_wp2_with fail
  go_region_law (first | (refine call_step (f := 54) (args := #[.int .i64 (o 0).key, .int .i64 N]) rfl rfl (by simp [Act.eval, Act.put]) LL.func54 f54_body f54_name (lone_at (o 0).key N hN hN4 hk) ?_; intro y w1 hyw; obtain ⟨rfl, hs1⟩ := hyw; have k1 := (undrew hs1).cell ⟨m, 1, none⟩; rw [hc1] at k1; have k2 := (World.grownBy_alloc w1 (Obj.cells #[Value.int IntKind.i64 1, Value.int IntKind.i64 (-1), Value.int IntKind.i64 (((o 0).key - 97).tmod N), Value.int IntKind.i64 t, Value.bool false, Value.slice (some ⟨g, 0, none⟩) n cap, Value.slice none 0 0] 122) none).cell k1 (by simp); have hb1 := own_same hb.out hs1) | (refine append_step (m + 1) 48 122 i122 z122 7 88 und48 t1 t2 t3 t4 t5 (Nat.succ_pos 6) (.tmp 17) (.tmp 31) rfl rfl bag nb rb (by simp [Act.eval, Act.put]) (hb1.alloc _) ⟨w1.heap.size, 0, none⟩ 1 1 (by simp [Act.eval, Act.put]) (refBegin (((o 0).key - 97).tmod N) t (.slice (some ⟨g, 0, none⟩) n cap)) rfl (fun j u hu => (made_cell w1 (refBegin (((o 0).key - 97).tmod N) t (.slice (some ⟨g, 0, none⟩) n cap)).toArray 122 j).trans (by simpa using hu)) hone hmx hby (hbs w1 hs1) (fun v' w2 hrow hgr => ?_); obtain ⟨⟨o', m', p', rfl⟩, hc3, hf3, hNR⟩ := hA.out w1 w2 v' hs1 hrow hgr; have hNR' := hid hNR; clear hrow hgr hNR hc0 hc1 hc2 hct hk0 k1 k2 hb1 hs1))
  all_goals go_wp2
  all_goals exact ⟨rfl, .tuple #[], results_none rfl _ _ _, rfl, _, hNR'.out.1, hNR'.out.2⟩
end
end Go.Proofs.Shardlog
