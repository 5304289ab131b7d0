/- The walks of 'Names': 'all' makes a new block of the nine variables' values; 'Different' holds each pair against each other, and each against nil. -/
import Derived.Test.YtblcigmggdiccaaDoorRows
import Derived.WalkKit
import Derived.LaidEql
namespace Go.Proofs.YtblcigmggdiccaaDoor
open Go.RowKit

theorem hid {p : Prop} (h : p) : Hid p := h

/-- The nine variables hold nine pointers, in nine blocks' cells. -/
structure Nine (A : Nat → Addr) (w : World) : Prop where
  cell : ∀ i, i < 9 → w.cell? ⟨i, 0, none⟩ = some (.iface 27 (.pointer (some (A i))))
  row : ∀ i, i < 9 → ∃ c t, w.heap[(A i).block]? = some (.cells c t (0, 0))
  apart : ∀ i k, i < 9 → k < 9 → i ≠ k → A i ≠ A k

def nineCells (A : Nat → Addr) : Array Value := #[Value.iface 27 (.pointer (some (A 0))), Value.iface 27 (.pointer (some (A 1))), Value.iface 27 (.pointer (some (A 2))), Value.iface 27 (.pointer (some (A 3))), Value.iface 27 (.pointer (some (A 4))), Value.iface 27 (.pointer (some (A 5))), Value.iface 27 (.pointer (some (A 6))), Value.iface 27 (.pointer (some (A 7))), Value.iface 27 (.pointer (some (A 8)))]

set_option maxHeartbeats 400000 in
theorem all_calls (A : Nat → Addr) (w : World) (h : Nine A w) :
    Calls Tryd.prog 5 #[] w fun e w' => e = .returned (.slice (some ⟨w.heap.size, 0, none⟩) 9 9) ∧ w' = w.alloc (.cells (nineCells A) 26) := by
  have c0 := h.cell 0 (by omega)
  have c1 := h.cell 1 (by omega)
  have c2 := h.cell 2 (by omega)
  have c3 := h.cell 3 (by omega)
  have c4 := h.cell 4 (by omega)
  have c5 := h.cell 5 (by omega)
  have c6 := h.cell 6 (by omega)
  have c7 := h.cell 7 (by omega)
  have c8 := h.cell 8 (by omega)
  go_enter Tryd.func5, Tryd.ntmps5
  go_wp2
  go_ret
  exact ⟨rfl, rfl⟩

theorem Tryd.comp27 : (Tryd.prog.info? 27).map (·.comparable) = some true := by kernel_rfl
theorem Tryd.size45 : (Tryd.prog.info? 45).map (·.size) = some 1 := by kernel_rfl

/-- What the world behind 'all' bears. -/
structure Held9 (A : Nat → Addr) (N : Nat) (w : World) : Prop where
  cell : ∀ i : Nat, i < 9 → w.cell? ⟨N, i, none⟩ = some (.iface 27 (.pointer (some (A i))))
  row : ∀ i, i < 9 → ∃ c t, w.heap[(A i).block]? = some (.cells c t (0, 0))
  apart : ∀ i k, i < 9 → k < 9 → i ≠ k → A i ≠ A k

theorem held_of_nine {A : Nat → Addr} {w : World} (h : Nine A w) : Held9 A w.heap.size (w.alloc (.cells (nineCells A) 26)) where
  cell := fun i hi => by
    rw [World.cell?_alloc_at _ _ _ _ rfl]
    match i, hi with
    | 0, _ | 1, _ | 2, _ | 3, _ | 4, _ | 5, _ | 6, _ | 7, _ | 8, _ => rfl
  row := fun i hi => by
    obtain ⟨c, t, hb⟩ := h.row i hi
    have hlt : (A i).block < w.heap.size := by
      rcases Nat.lt_or_ge (A i).block w.heap.size with h | h
      · exact h
      · simp [Array.getElem?_eq_none h] at hb
    refine ⟨c, t, ?_⟩
    show (w.heap.push _)[(A i).block]? = _
    simp only [Array.getElem?_push, Nat.ne_of_lt hlt, if_false]
    exact hb
  apart := h.apart

set_option maxHeartbeats 400000 in
theorem different_calls (A : Nat → Addr) (w : World) (h : Nine A w) :
    Calls Tryd.prog 4 #[] w fun e w' => e = .returned (.bool true) ∧ w' = w.alloc (.cells (nineCells A) 26) := by
  have H := held_of_nine h
  have HA := hid (all_calls A w h)
  generalize w.alloc (.cells (nineCells A) 26) = W at *
  generalize w.heap.size = N at *
  have H' := hid H
  clear H h
  go_enter Tryd.func4, Tryd.ntmps4
  go_wp2_with fail
  refine HA.out.mono ?_
  rintro e w' ⟨rfl, rfl⟩
  go_wp2_with fail
  obtain ⟨i27, hi27, hcmp⟩ := Option.map_eq_some_iff.1 Tryd.comp27
  obtain ⟨j45, hj45, hjs⟩ := Option.map_eq_some_iff.1 Tryd.size45
  go_loop [2, 3, 4, 8] (fun a b c i => ∃ k : Nat, k ≤ 9 ∧ i = .int .i64 k) (fun _ _ _ i => 9 - (intOf i).toNat)
  case atStart => exact ⟨0, by omega, rfl⟩
  case round =>
    obtain ⟨k, hk, rfl⟩ := hrel
    by_cases hlt : k < 9
    · have hc := H'.out.cell k hlt
      go_wp2
      go_loop [4] (fun c => ∃ j : Nat, j ≤ k ∧ c = .int .i64 j) (fun c => k - (intOf c).toNat)
      case atStart => exact ⟨0, by omega, rfl⟩
      case round =>
        obtain ⟨j, hj, rfl⟩ := hrel
        by_cases hjk : j < k
        · have hcj := H'.out.cell j (by omega)
          obtain ⟨ca, ta, ha⟩ := H'.out.row j (by omega)
          obtain ⟨cb, tb, hb⟩ := H'.out.row k hlt
          have heq := run_eql_iface_ptr_other w' Tryd.underlying26 Tryd.underlying27 hi27 hcmp hj45 (by rw [hjs]; decide) (H'.out.apart j k (by omega) hlt (by omega)) ha hb
          clear ha hb
          go_wp2
          go_round
          case rel => exact ⟨j + 1, by omega, by go_num⟩
          case measure => simp [intOf]; omega
        · go_wp2
          go_round
          case rel => exact ⟨k + 1, by omega, by go_num⟩
          case measure => simp [intOf]; omega
    · go_wp2
      go_ret
      exact ⟨rfl, rfl⟩
end Go.Proofs.YtblcigmggdiccaaDoor
