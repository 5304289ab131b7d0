/- Several texts in one: LoneRefSub, LoneV, LonePick, TameRight, Script, TameEnd, Close. -/
import Derived.Test.YtblcigmggdiccaaGreatDoorPart22
import Derived.Test.YtblcigmggdiccaaGreatDoorPart21
import Derived.Test.YtblcigmggdiccaaGreatDoorPart02
import Derived.WalkKit
import Derived.Deep.Slices
import Derived.Deep.Fields
import Derived.SizedLaws
import Derived.ProofKit
import Derived.Test.YtblcigmggdiccaaGreatDoorPart17
import Derived.Conc.Beside
import Derived.Test.YtblcigmggdiccaaGreatDoorPart18
import Derived.Carry
import Derived.LaidMore
import Derived.Conc.HoldsTime
import Derived.Stop.Joined
import Derived.SevenTiedAt
set_option linter.unusedSectionVars false
set_option linter.unusedSimpArgs false
set_option linter.unusedVariables false
set_option maxRecDepth 100000
/- The document's answer: Submit, alone. -/
namespace Go.Proofs.Shardlog
open Go Go.Conc Go.Tame Go.Proofs Go.RowKit
theorem und49 : Tryz.L.underlying 49 = some (.slice 69) := by kernel_rfl
theorem slot69 : ∃ i z, Tryz.L.info? 69 = some i ∧ i.zero = some z ∧ i.size = 3 ∧ i.bytes = 56 ∧ z.cells.size = 3 := by
  have h : (Tryz.L.info? 69).map (fun i => (i.size, i.bytes, i.zero.map (·.cells.size))) = some (3, 56, some 3) := by kernel_rfl
  obtain ⟨i, hi, hb⟩ := Option.map_eq_some_iff.1 h
  simp only [Prod.mk.injEq] at hb
  obtain ⟨z, hz, hc⟩ := Option.map_eq_some_iff.1 hb.2.2
  exact ⟨i, z, hi, hz, hb.1, hb.2.1, hc⟩
section
variable {w w' : World} {m N nb nt : Nat} {sh bag txs : Value} {stop : Bool} {rs rb rt : List Value}
/-- An entry, as the document's answer has it. -/
def refTx (opv : Value) : List Value := [opv, .int .i64 1, .slice none 0 0]
theorem elem_of {base : Nat} {e : TypeId} {size n : Nat} {v : Value} {xs : List Value} (h : w.ownsRow base e size v n xs) {x : Nat} (hx : v.ownBlock = some x) : ∃ cur, w.heap[x]? = some (.cells cur e (0, 0)) := by
  rcases h.2 with ⟨rfl, _⟩ | ⟨g, cap, cur, rfl, h2, h3, _⟩
  · cases hx
  · cases hx; exact ⟨cur, h3⟩
theorem txs_after {w2 : World} {v' : Value} {X : Obj} {e3 : List Value} (hW : RefW w m N nb nt sh bag txs stop rs rb rt) (hrow : w2.ownsRow (m + 1) 69 3 v' (nt + 1) (rt ++ e3)) (hgr : (w.alloc X).grownBy w2 txs.ownBlock) :
    (∃ o m p, v' = .slice o m p) ∧ w2.cell? ⟨m, 2, none⟩ = some txs ∧ w2.frozen? ⟨m, 2, none⟩ = false ∧ RefW (w2.setCell ⟨m, 2, none⟩ v') m N nb (nt + 1) sh bag v' stop rs rb (rt ++ e3) ∧ BagMore w (w2.setCell ⟨m, 2, none⟩ v') m txs := by
  have hmlt := (Array.getElem?_eq_some_iff.1 hW.cell).1
  have hne : ∀ x, txs.ownBlock = some x → m + 1 ≤ x := fun x hx => (hW.txs.lt x hx).1
  have keep : ∀ x, x < w.heap.size → txs.ownBlock ≠ some x → w2.heap[x]? = w.heap[x]? := fun x hx hb => by
    rw [hgr.block x (by rw [alloc_size]; omega) (fun e => hb e.symm), alloc_get', if_neg (by omega)]
  have hm2 : w2.heap[m]? = some (.cells #[sh, bag, txs, .bool stop] 51 (0, 0)) := by
    rw [keep m hmlt (fun e => by have := hne m e; omega)]
    exact hW.cell
  have other : ∀ {e : TypeId} {size n : Nat} {v : Value} {xs : List Value}, e ≠ 69 → w.ownsRow (m + 1) e size v n xs → (w2.setCell ⟨m, 2, none⟩ v').ownsRow (m + 1) e size v n xs := fun {e size n v xs} he h => own_more h (Nat.le_refl _) fun x hx => by
    have hlt := h.lt x hx
    rw [setCell_ne (show x ≠ m by omega)]
    refine keep x hlt.2 fun eb => he ?_
    obtain ⟨cur, h1⟩ := elem_of h hx
    obtain ⟨cur', h2⟩ := elem_of hW.txs eb
    rw [h1] at h2
    cases h2
    rfl
  refine ⟨own_slice hrow, ?_, ?_, ⟨?_, other (by decide) hW.shards, other (by decide) hW.bag, own_more hrow (Nat.le_refl _) fun x hx => ?_⟩, ⟨fun x hx hxm hb => ?_, ?_, ?_⟩⟩
  · unfold World.cell?
    rw [hm2]
    rfl
  · unfold World.frozen?
    rw [hm2]
    simp
  · simp only [World.setCell, Array.getElem?_modify, if_true, hm2]
    rfl
  · have := (hrow.lt x hx).1
    rw [setCell_ne (show x ≠ m by omega)]
  · rw [setCell_ne hxm]
    exact keep x hx hb
  · rw [setCell_size]
    have := hgr.size
    rw [alloc_size] at this
    omega
  · rw [setCell_os]
    exact hgr.os
/-- What else stands. -/
structure SubMore (w w' : World) (m : Nat) (bag txs : Value) : Prop where
  old : ∀ x, x < w.heap.size → x ≠ m → bag.ownBlock ≠ some x → txs.ownBlock ≠ some x → w'.heap[x]? = w.heap[x]?
  size : w.heap.size ≤ w'.heap.size
  os : w'.os = w.os
def RefSubmits (w : World) (m N nb nt n : Nat) (sh bag txs : Value) (rs rb rt : List Value) (o : Nat → OpD) (e : Ending) (w' : World) : Prop :=
  e = .returned (.tuple #[.int .i64 nt, .int .i64 0]) ∧ ∃ bag' txs' opv, RefW w' m N (nb + 1) (nt + 1) sh bag' txs' false rs (rb ++ refBegin (((o 0).key - 97).tmod N) nt opv) (rt ++ refTx opv) ∧ w'.ownsRow w.heap.size 61 3 opv n (refRow o n) ∧ SubMore w w' m bag txs
def RefRefuses (w : World) (e : Ending) (w' : World) : Prop := e = .returned (.tuple #[.int .i64 0, .int .i64 2]) ∧ Same w w'
theorem right_no {g n cap : Nat} {o : Nat → OpD} (h : RefOps w g 0 n o) (hn : n ≤ 5864062014805) (hx : ¬ isTx n o) : Calls Tryz.L 29 #[.slice (some ⟨g, 0, none⟩) n cap] w fun e w' => e = .returned (.bool false) ∧ Same w w' := (lone_right' h hn).mono fun e w' k => by
  obtain ⟨t, rfl, ht, hs⟩ := k
  cases t with
  | true => exact absurd (ht.1 rfl) hx
  | false => exact ⟨rfl, hs⟩
theorem right_yes {g n cap : Nat} {o : Nat → OpD} (h : RefOps w g 0 n o) (hn : n ≤ 5864062014805) (hx : isTx n o) : Calls Tryz.L 29 #[.slice (some ⟨g, 0, none⟩) n cap] w fun e w' => e = .returned (.bool true) ∧ Same w w' := (lone_right' h hn).mono fun e w' k => by
  obtain ⟨t, rfl, ht, hs⟩ := k
  rw [ht.2 hx]
  exact ⟨rfl, hs⟩
theorem refSub_no {g n cap : Nat} {o : Nat → OpD} (hW : RefW w m N nb nt sh bag txs false rs rb rt) (hops : RefOps w g 0 n o) (hn : n ≤ 5864062014805) (hx : ¬ isTx n o) : Calls Tryz.L 20 #[.pointer (some ⟨m, 0, none⟩), .slice (some ⟨g, 0, none⟩) n cap] w (RefRefuses w) := by
  have hc3 : w.cell? ⟨m, 3, none⟩ = some (.bool false) := by unfold World.cell?; rw [hW.cell]; rfl
  have hR := hid (right_no (cap := cap) hops hn hx)
  clear hW hops
  go_enter LL.func20, Tryz.ntmps20
  go_wp2_with fail
  refine hR.out.mono ?_
  rintro e w1 ⟨rfl, hs⟩
  go_wp2_with fail
  go_ret2
  exact ⟨rfl, hs⟩
theorem one_refRow (o : Nat → OpD) : ∀ n, ∀ u ∈ refRow o n, u.oneCell' = true
  | 0, u, h => by cases h
  | n + 1, u, h => by
    rw [refRow] at h
    rcases List.mem_append.1 h with h | h
    · exact one_refRow o n u h
    · simp at h
      rcases h with rfl | rfl | rfl <;> rfl
/-- Behind the copy. -/
theorem refSub_first {w2 : World} {v2 : Value} {n : Nat} {o : Nat → OpD} (hW : RefW w m N nb nt sh bag txs false rs rb rt) (hn : 0 < n) (hrow : w2.ownsRow w.heap.size 61 3 v2 (0 + n) ([] ++ refRow o n)) (hgr : w.grownBy w2 none) :
    (∃ g c, v2 = .slice (some ⟨g, 0, none⟩) n c) ∧ RefW w2 m N nb nt sh bag txs false rs rb rt ∧ w2.ownsRow w.heap.size 61 3 v2 n (refRow o n) ∧ w2.cell? ⟨m, 2, none⟩ = some txs := by
  rw [Nat.zero_add, List.nil_append] at hrow
  have g : Grown w w2 := (Grown.refl w).by hgr fun x hx => by cases hx
  have hW2 := hW.grown g
  obtain ⟨g', c, h, _⟩ := refs_of hrow hn
  refine ⟨⟨g', c, h⟩, hW2, hrow, ?_⟩
  unfold World.cell?
  rw [hW2.cell]
  rfl
/-- Behind the entry. -/
theorem refSub_second {w2 w3 : World} {B g2 c2 : Nat} {v' : Value} {n : Nat} {o : Nat → OpD} (hW : RefW w2 m N nb nt sh bag txs false rs rb rt) (hO : w2.ownsRow B 61 3 (.slice (some ⟨g2, 0, none⟩) n c2) n (refRow o n)) (hn : 0 < n) (hrow : w3.ownsRow (m + 1) 69 3 v' (nt + 1) (rt ++ refTx (.slice (some ⟨g2, 0, none⟩) n c2))) (hgr : (w2.alloc (Obj.cells (refTx (.slice (some ⟨g2, 0, none⟩) n c2)).toArray 69)).grownBy w3 txs.ownBlock) :
    (∃ o m, v' = .slice o (nt + 1) m) ∧ w3.cell? ⟨m, 2, none⟩ = some txs ∧ w3.frozen? ⟨m, 2, none⟩ = false ∧ RefW (w3.setCell ⟨m, 2, none⟩ v') m N nb (nt + 1) sh bag v' false rs rb (rt ++ refTx (.slice (some ⟨g2, 0, none⟩) n c2)) ∧ RefOps (w3.setCell ⟨m, 2, none⟩ v') g2 0 n o ∧ (w3.setCell ⟨m, 2, none⟩ v').ownsRow B 61 3 (.slice (some ⟨g2, 0, none⟩) n c2) n (refRow o n) ∧ BagMore w2 (w3.setCell ⟨m, 2, none⟩ v') m txs := by
  obtain ⟨_, k1, k2, k3, k4⟩ := txs_after hW hrow hgr
  obtain ⟨cur, h1⟩ := elem_of hO rfl
  have hlt := (Array.getElem?_eq_some_iff.1 h1).1
  have hne : g2 ≠ m := fun e => by
    rw [e, hW.cell] at h1
    cases h1
  have hnb : txs.ownBlock ≠ some g2 := fun e => by
    obtain ⟨cur', h2⟩ := elem_of hW.txs e
    rw [h1] at h2
    cases h2
  have hO4 : (w3.setCell ⟨m, 2, none⟩ v').ownsRow B 61 3 (.slice (some ⟨g2, 0, none⟩) n c2) n (refRow o n) := own_more hO (Nat.le_refl _) fun x hx => by
    cases hx
    exact k4.old g2 hlt hne hnb
  obtain ⟨g', c', h, _, _, _, hops⟩ := refs_of hO4 hn
  cases h
  exact ⟨own_len hrow, k1, k2, k3, hops, hO4, k4⟩
set_option maxHeartbeats 4000000 in
theorem refSub_yes {g n cap : Nat} {o : Nat → OpD} (hW : RefW w m N nb nt sh bag txs false rs rb rt) (hown : w.ownsRow (m + 1) 61 3 (.slice (some ⟨g, 0, none⟩) n cap) n (refRow o n)) (hops : RefOps w g 0 n o) (hn : n ≤ 5864062014805) (hx : isTx n o) (hN : 1 ≤ N) (hN4 : N ≤ 4) (hnt : nt < 60) (hnb : nb < 400) : Calls Tryz.L 20 #[.pointer (some ⟨m, 0, none⟩), .slice (some ⟨g, 0, none⟩) n cap] w (RefSubmits w m N nb nt n sh bag txs rs rb rt o) := by
  have hc3 : w.cell? ⟨m, 3, none⟩ = some (.bool false) := by unfold World.cell?; rw [hW.cell]; rfl
  have hR := hid (right_yes (cap := cap) hops hn hx)
  obtain ⟨obag, cbag, hbag⟩ := own_len hW.bag
  obtain ⟨otxs, ctxs, htxs⟩ := own_len hW.txs
  subst hbag
  subst htxs
  have hWW := hid hW
  have hOO := hid hown
  clear hW hops hown
  obtain ⟨i61, z61, s1, s2, s3, s4, s5⟩ := slot61
  obtain ⟨i69, z69, t1, t2, t3, t4, t5⟩ := slot69
  go_enter LL.func20, Tryz.ntmps20
  go_wp2_with fail
  refine hR.out.mono ?_
  rintro e w1 ⟨rfl, hs⟩
  clear hR hc3
  have hW1 : RefW w1 m N nb nt sh (.slice obag nb cbag) (.slice otxs nt ctxs) false rs rb rt := hWW.out.grown hs.grown
  have hO1 : w1.ownsRow (m + 1) 61 3 (.slice (some ⟨g, 0, none⟩) n cap) n (refRow o n) := own_more hOO.out (Nat.le_refl _) fun x _ => by rw [hs.heap]
  have hc1 : w1.cell? ⟨m, 1, none⟩ = some (.slice obag nb cbag) := by unfold World.cell?; rw [hW1.cell]; rfl
  have hc2 : w1.cell? ⟨m, 2, none⟩ = some (.slice otxs nt ctxs) := by unfold World.cell?; rw [hW1.cell]; rfl
  have b60 : ((nt : Int) == 60) = false := by simp; omega
  have b400 : decide (400 ≤ (nb : Int)) = false := by simp; omega
  have hWW1 := hid hW1
  have hnews := hid (hO1.cells (g := g) rfl)
  clear hW1 hO1
  have hn0 : 0 < n := hx.1
  have hone1 : ∀ u ∈ refRow o n, u.oneCell' = true := one_refRow o n
  have hmx1 : 0 + n ≤ maxLen := by simp only [maxLen]; omega
  have hby1 : (0 + n) * 24 ≤ 140737488355328 := by omega
  have hA1 := hid (fun w2 v2 (hrow : w2.ownsRow w1.heap.size 61 3 v2 (0 + n) ([] ++ refRow o n)) (hgr : w1.grownBy w2 none) => refSub_first hWW1.out hn0 hrow hgr)
  have hmx2 : nt + 1 ≤ maxLen := by simp only [maxLen]; omega
  have hby2 : (nt + 1) * 56 ≤ 140737488355328 := by omega
  have hA2 := hid (fun (w2 w3 : World) (g2 c2 : Nat) (v' : Value) (hW2 : RefW w2 m N nb nt sh (.slice obag nb cbag) (.slice otxs nt ctxs) false rs rb rt) (hO2 : w2.ownsRow w1.heap.size 61 3 (.slice (some ⟨g2, 0, none⟩) n c2) n (refRow o n)) (hrow : w3.ownsRow (m + 1) 69 3 v' (nt + 1) (rt ++ refTx (.slice (some ⟨g2, 0, none⟩) n c2))) (hgr : (w2.alloc (Obj.cells (refTx (.slice (some ⟨g2, 0, none⟩) n c2)).toArray 69)).grownBy w3 (Value.slice otxs nt ctxs).ownBlock) => refSub_second hW2 hO2 hn0 hrow hgr)
  have hone2 : ∀ g2 c2 : Nat, ∀ u ∈ refTx (.slice (some ⟨g2, 0, none⟩) n c2), u.oneCell' = true := by simp [refTx, Value.oneCell']
  have hz1 : m + 1 ≤ w1.heap.size := (Array.getElem?_eq_some_iff.1 hWW1.out.cell).1
  go_wp2_with (first
    | (at_builtin; refine wpList_append_own _ rfl _ _ 27 rfl w1.heap.size 61 i61 z61 3 24 und27 s1 s2 s3 s4 s5 (by decide) _ 0 [] rfl (World.ownsRow_nil _ _ _ _) ⟨g, 0, none⟩ n cap (refRow o n) rfl (by rw [len_refRow]) hnews.out hone1 hmx1 hby1 (Nat.le_refl _) ?_; intro v2 w2 hrow2 hgr2 hnil2; obtain ⟨⟨g2, c2, rfl⟩, hW2, hO2, hk2⟩ := hA1.out w2 v2 hrow2 hgr2; have hWW2 := hid hW2; have hOO2 := hid hO2; have hG2 : Hid (w1.grownBy w2 none) := hid hgr2; have hsz2 := hgr2.size; clear hrow2 hgr2 hnil2 hA1 hW2 hO2 hc1 hc2 hnews)
    | (at_builtin; refine wpList_append_own _ rfl _ _ 49 rfl (m + 1) 69 i69 z69 3 56 und49 t1 t2 t3 t4 t5 (by decide) _ nt rt rfl (hWW2.out.txs.alloc _) ⟨w2.heap.size, 0, none⟩ 1 1 (refTx (.slice (some ⟨g2, 0, none⟩) n c2)) rfl rfl (fun j u hu => (made_cell w2 (refTx (.slice (some ⟨g2, 0, none⟩) n c2)).toArray 69 j).trans (by simpa using hu)) (hone2 g2 c2) hmx2 hby2 (by rw [alloc_size]; omega) ?_; intro v3 w3 hrow3 hgr3 hnil3; obtain ⟨⟨o3, c3, rfl⟩, k1, k2, hW3, hops3, hO3, hB3⟩ := hA2.out w2 w3 g2 c2 v3 hWW2.out hOO2.out hrow3 hgr3; have hWW3 := hid hW3; have hops3' := hid hops3; have hOO3 := hid hO3; have hBB3 := hid hB3; clear hrow3 hgr3 hnil3 hA2 hW3 hops3 hO3 hB3 hk2))
  have hop : (rt ++ refTx (.slice (some ⟨g2, 0, none⟩) n c2))[nt * 3]? = some (.slice (some ⟨g2, 0, none⟩) n c2) := by
    rw [List.getElem?_append_right (by rw [hWW2.out.txs.1]; exact Nat.le_refl _), hWW2.out.txs.1, Nat.sub_self]
    rfl
  have hg0 := (hx.2.2 0 hn0).1
  have hkey : 0 ≤ (o 0).key ∧ (o 0).key ≤ 255 := by
    obtain ⟨h1, h2, _⟩ := hg0
    omega
  refine (lone_begin (t := nt) hWW3.out (by omega) hop hops3'.out hx.1 hN hN4 hkey (by omega) (by omega)).mono ?_
  rintro e w5 ⟨rfl, bag', hW5, hB5⟩
  have hc5 : w5.cell? ⟨m, 2, none⟩ = some (.slice o3 (nt + 1) c3) := by
    unfold World.cell?
    rw [hW5.cell]
    rfl
  have hW5' := hid hW5
  have hB5' := hid hB5
  clear hW5 hB5
  go_wp2_with fail
  go_ret2
  refine ⟨rfl, bag', _, _, hW5'.out, ?_, ?_⟩
  · have e1 : w1.heap.size = w.heap.size := by rw [hs.heap]
    refine own_more hOO3.out (Nat.le_of_eq e1.symm) fun x hx => ?_
    obtain ⟨cur, h1⟩ := elem_of hOO3.out hx
    refine hB5'.out.old x (Array.getElem?_eq_some_iff.1 h1).1 (fun e => ?_) fun e => ?_
    · rw [e, hWW3.out.cell] at h1
      cases h1
    · obtain ⟨cur', h2⟩ := elem_of hWW3.out.bag e
      rw [h1] at h2
      cases h2
  · have e1 : w1.heap.size = w.heap.size := by rw [hs.heap]
    have z2 := hG2.out.size
    have z3 := hBB3.out.size
    have z5 := hB5'.out.size
    refine ⟨fun x hxl hxm hb ht => ?_, by omega, ?_⟩
    · rw [hB5'.out.old x (by omega) hxm hb, hBB3.out.old x (by omega) hxm ht, hG2.out.block x (by omega) (by simp), hs.heap]
    · rw [hB5'.out.os, hBB3.out.os, hG2.out.os, hs.os]
end
end Go.Proofs.Shardlog
/- kept, given, and both Submits, by what is held of their lists. -/
namespace Go.Proofs.Shardlog
open Go Go.Conc Go.Tame Go.Proofs Go.RowKit Go.Mem
/-- A list of operations that was handed in. -/
def OpsAt (w : World) (sl : Value) : Prop := ∃ (n : Nat) (o : Nat → OpD), n ≤ 5864062014805 ∧ ((∃ a c, sl = .slice a 0 c ∧ n = 0) ∨ ∃ g f cap, sl = .slice (some ⟨g, f, none⟩) n cap ∧ RefOps w g f n o)
theorem OpsAt.grown {w w' : World} {sl : Value} (h : OpsAt w sl) (g : Grown w w') : OpsAt w' sl := by
  obtain ⟨n, o, hn, h⟩ := h
  refine ⟨n, o, hn, h.imp id ?_⟩
  rintro ⟨b, f, cap, e, h⟩
  exact ⟨b, f, cap, e, fun i hi => g.cell (h.wr i hi), fun i hi => g.cell (h.key i hi), fun i hi => g.cell (h.val i hi)⟩
def lst (o : Nat → OpD) (n : Nat) : List OpD := (List.range n).map o
theorem clL_lst (o : Nat → OpD) : ∀ n, clL (lst o n) = clRow o n
  | 0 => rfl
  | n + 1 => by
    show clL ((List.range (n + 1)).map o) = _
    rw [List.range_succ, List.map_append]
    show ((List.range n).map o ++ [o n]).flatMap _ = _
    rw [List.flatMap_append]
    show clL (lst o n) ++ _ = _
    rw [clL_lst o n]
    rfl
theorem nth_lst {o : Nat → OpD} {n i : Nat} (h : i < n) : nthOp (lst o n) i = o i := by
  unfold nthOp lst
  rw [List.getD_eq_getElem?_getD, List.getElem?_map, List.getElem?_range h]
  rfl
theorem len_lst (o : Nat → OpD) (n : Nat) : (lst o n).length = n := by simp [lst]
theorem tx_lst (o : Nat → OpD) (n : Nat) : TxL (lst o n) ↔ isTx n o := by
  unfold TxL isTx
  rw [len_lst]
  have : firstOk (nthOp (lst o n)) n ↔ firstOk o n := by
    constructor
    · intro h i hi
      have := h i hi
      rw [nth_lst hi] at this
      exact ⟨this.1, fun j hj => by have := this.2 j hj; rwa [nth_lst (by omega)] at this⟩
    · intro h i hi
      rw [nth_lst hi]
      exact ⟨(h i hi).1, fun j hj => by rw [nth_lst (by omega)]; exact (h i hi).2 j hj⟩
  rw [this]
section
variable {w : World} {Λ : Lab} {E : Nat → Addr}
theorem Same.grown' {w w' : World} (h : Same w w') : Grown w w' := Grown.same h.heap h.os
theorem lone_keptV {sl : Value} (h : OpsAt w sl) : Calls Tryz.L 17 #[sl] w fun e w' => ∃ v, e = .returned v ∧ ∃ n o, n ≤ 5864062014805 ∧ (∀ i, keptOp (o i) = o i) ∧ w'.ownsRow w.heap.size 61 3 v n (refRow o n) ∧ Grown w w' := by
  obtain ⟨n, o, hn, ⟨a, c, rfl, rfl⟩ | ⟨g, f, cap, rfl, h⟩⟩ := h
  · refine (lone_kept_nil a c).mono fun e w' ⟨h1, h2⟩ => ⟨_, h1, 0, fun i => keptOp (o i), by omega, fun i => kept_twice _, World.ownsRow_nil _ _ _ _, h2.grown'⟩
  · refine (lone_kept h hn).mono fun e w' ⟨v, h1, h2, h3⟩ => ⟨v, h1, n, fun i => keptOp (o i), hn, fun i => kept_twice _, h2, h3⟩
theorem lone_givenV {base n : Nat} {v : Value} {o : Nat → OpD} (hn : n ≤ 5864062014805) (hk : ∀ i, keptOp (o i) = o i) (h : w.ownsRow base 61 3 v n (refRow o n)) :
    Calls Tryz.L 19 #[v] w fun e w' => ∃ v', e = .returned v' ∧ w'.ownsRow w.heap.size 65 3 v' n (clL (lst o n)) ∧ Grown w w' := by
  have e : (fun i => keptOp (o i)) = o := funext hk
  rcases Nat.eq_zero_or_pos n with rfl | h0
  · obtain ⟨a, c, rfl⟩ := own_len h
    exact (lone_given_nil a c).mono fun e w' ⟨h1, h2⟩ => ⟨_, h1, World.ownsRow_nil _ _ _ _, h2.grown'⟩
  · obtain ⟨g, cap, rfl, h1, h2, h3, h4⟩ := refs_of h h0
    refine (lone_given h4 hn).mono fun e' w' ⟨v, k1, k2, k3⟩ => ⟨v, k1, ?_, k3⟩
    rw [e] at k2
    rw [clL_lst]
    exact k2
/-- The program's Submit, on a cluster that has taken none yet. -/
theorem lone_psub_first {k c N n D cp s r : Nat} {sh v : Value} {ss : List Value} {ρo : Role} {l : List OpD} (hk : 0 < k) (hE : Errs w Λ E) (hC : Clu w Λ k c N 0 0 0 sh (.slice none 0 0) (.slice none 0 0) D ss [] []) (hD : At w Λ still D (.chan cp #[] false s r false)) (hN : 1 ≤ N) (hN4 : N ≤ 4)
    (hv : Row w Λ ρo 65 3 v n (clL l)) (hn : n ≤ 5864062014805) :
    Calls Tryz.L 18 #[.pointer (some ⟨c, 0, none⟩), v] w fun e w' => ∃ y, e = .returned y ∧ ((∃ t a : Int, y = .tuple #[.int .i64 t, .int .i64 a] ∧ ((TxL l ∧ a = 0) ∨ (¬ TxL l ∧ a = 2))) ∧ ∃ Λ' sh' tx' bg', Fr Λ Λ' (mineL k) w w' ∧ At w' Λ' (k, 0, 0) c (.cells #[.int .i32 0, .int .u32 0, sh', tx', bg', .chan (some D)] 94 (5, 6))) := by
  by_cases ht : TxL l
  · refine (lone_psub_yes hk hE hC hD hN hN4 hv hn ht (by omega) (by omega)).mono fun e w' ⟨h1, Λ', g, tx', bg', h2, h3, _⟩ => ⟨_, h1, ⟨_, 0, rfl, .inl ⟨ht, rfl⟩⟩, Λ', _, _, _, h2, h3.blk⟩
  · refine (lone_psub_ops hk hE hC hD hv hn ht).mono fun e w' ⟨h1, Λ', h2, h3⟩ => ⟨_, h1, ⟨_, 2, rfl, .inr ⟨ht, rfl⟩⟩, Λ', _, _, _, h2, h3.blk⟩
theorem refSub_nil {m N nb nt : Nat} {sh bag txs : Value} {rs rb rt : List Value} (hW : RefW w m N nb nt sh bag txs false rs rb rt) (a : Option Addr) (c : Nat) : Calls Tryz.L 20 #[.pointer (some ⟨m, 0, none⟩), .slice a 0 c] w (RefRefuses w) := by
  have hc3 : w.cell? ⟨m, 3, none⟩ = some (.bool false) := by unfold World.cell?; rw [hW.cell]; rfl
  have hR := hid' ((lone_right_nil (o := fun _ => ⟨false, 0, 0⟩) (w := w) a c).mono (R' := fun e w' => e = .returned (.bool false) ∧ Same w w') fun e w' k => by
    obtain ⟨t, rfl, ht, hs⟩ := k
    cases t with
    | true => exact absurd (ht.1 rfl) isTx_zero
    | false => exact ⟨rfl, hs⟩)
  clear hW
  go_enter LL.func20, Tryz.ntmps20
  go_wp2_with fail
  refine hR.out.mono ?_
  rintro e w1 ⟨rfl, hs⟩
  go_wp2_with fail
  go_ret2
  exact ⟨rfl, hs⟩
/-- The document's Submit, likewise. -/
theorem lone_refSub_first {m N n base : Nat} {sh v : Value} {rs : List Value} {o : Nat → OpD} (hW : RefW w m N 0 0 sh (.slice none 0 0) (.slice none 0 0) false rs [] []) (hb : m + 1 ≤ base) (hown : w.ownsRow base 61 3 v n (refRow o n)) (hn : n ≤ 5864062014805) (hN : 1 ≤ N) (hN4 : N ≤ 4) :
    Calls Tryz.L 20 #[.pointer (some ⟨m, 0, none⟩), v] w fun e w' => ∃ y, e = .returned y ∧ ((∃ t a : Int, y = .tuple #[.int .i64 t, .int .i64 a] ∧ ((isTx n o ∧ a = 0) ∨ (¬ isTx n o ∧ a = 2))) ∧ w.heap.size ≤ w'.heap.size ∧ w'.os = w.os ∧ ∀ x, x < w.heap.size → x ≠ m → w'.heap[x]? = w.heap[x]?) := by
  have hown' : w.ownsRow (m + 1) 61 3 v n (refRow o n) := own_more hown hb fun _ _ => rfl
  rcases Nat.eq_zero_or_pos n with rfl | h0
  · obtain ⟨a, c, rfl⟩ := own_len hown
    exact (refSub_nil hW a c).mono fun e w' ⟨h1, h2⟩ => ⟨_, h1, ⟨_, _, rfl, .inr ⟨isTx_zero, rfl⟩⟩, by rw [h2.heap]; exact Nat.le_refl _, h2.os, fun x _ _ => by rw [h2.heap]⟩
  · obtain ⟨g, cap, rfl, h1, h2, h3, h4⟩ := refs_of hown h0
    by_cases hx : isTx n o
    · refine (refSub_yes hW hown' h4 hn hx hN hN4 (by omega) (by omega)).mono fun e w' ⟨k1, bag', txs', opv, k2, k3, k4⟩ => ⟨_, k1, ⟨_, _, rfl, .inl ⟨hx, rfl⟩⟩, k4.size, k4.os, fun x hx1 hx2 => k4.old x hx1 hx2 (by intro h; cases h) (by intro h; cases h)⟩
    · exact (refSub_no hW h4 hn hx).mono fun e w' ⟨h1, h2⟩ => ⟨_, h1, ⟨_, _, rfl, .inr ⟨hx, rfl⟩⟩, by rw [h2.heap]; exact Nat.le_refl _, h2.os, fun x _ _ => by rw [h2.heap]⟩
end
end Go.Proofs.Shardlog
/- pick, alone. -/
namespace Go.Proofs.Shardlog
open Go Go.Conc Go.Tame Go.Proofs Go.RowKit
/-- Which of n things a number speaks of. -/
def pkN (x : Int) (n : Nat) : Nat := ((if x < 0 then -(x + 1) else x) % (n : Int)).toNat
theorem pkN_lt (x : Int) {n : Nat} (hn : 0 < n) : pkN x n < n := by
  unfold pkN
  have h1 := Int.emod_lt_of_pos (if x < 0 then -(x + 1) else x) (show (0 : Int) < n by omega)
  have h2 := Int.emod_nonneg (if x < 0 then -(x + 1) else x) (show (n : Int) ≠ 0 by omega)
  omega
theorem lone_pick {w : World} {x : Int} {n : Nat} (hx : -9223372036854775808 ≤ x ∧ x ≤ 9223372036854775807) (hn : 0 < n) (hn' : n ≤ 1152921504606846976) : Calls Tryz.L 15 #[.int .i64 x, .int .i64 n] w fun e w' => e = .returned (.int .i64 (pkN x n)) ∧ w' = w := by
  obtain ⟨h1, h2⟩ := hx
  have hn0 : ((n : Int) == 0) = false := by simp; omega
  have e : ∀ y : Int, 0 ≤ y → y ≤ 9223372036854775807 → IntKind.i64.wrap (y.tmod n) = y % (n : Int) := fun y hy hy' => by
    rw [Int.tmod_eq_emod_of_nonneg hy]
    have a1 := Int.emod_lt_of_pos y (show (0 : Int) < n by omega)
    have a2 := Int.emod_nonneg y (show (n : Int) ≠ 0 by omega)
    simp only [IntKind.wrap, IntKind.bits, IntKind.signed]
    simp
    omega
  by_cases h0 : x < 0
  · have e2 : ((pkN x n : Nat) : Int) = (-(x + 1)) % (n : Int) := by
      unfold pkN
      rw [if_pos h0, Int.toNat_of_nonneg (Int.emod_nonneg _ (by omega))]
    have e1 := e (-(x + 1)) (by omega) (by omega)
    have e3 : IntKind.i64.wrap (x + 1) = x + 1 := by simp only [IntKind.wrap, IntKind.bits, IntKind.signed]; simp; omega
    have e4 : IntKind.i64.wrap (-(x + 1)) = -(x + 1) := by simp only [IntKind.wrap, IntKind.bits, IntKind.signed]; simp; omega
    go_enter LL.func15, Tryz.ntmps15
    go_wp2
    go_ret
    refine ⟨?_, rfl⟩
    rw [e2, ← Int.tmod_eq_emod_of_nonneg (by omega), Int.neg_tmod]
    rfl
  · have e2 : ((pkN x n : Nat) : Int) = x % (n : Int) := by
      unfold pkN
      rw [if_neg h0, Int.toNat_of_nonneg (Int.emod_nonneg _ (by omega))]
    have e1 := e x (by omega) (by omega)
    go_enter LL.func15, Tryz.ntmps15
    go_wp2
    go_ret
    refine ⟨?_, rfl⟩
    first
      | rfl
      | (rw [← Int.tmod_eq_emod_of_nonneg (by omega)]; rfl)
end Go.Proofs.Shardlog
/- Walks of the first goroutine: Right. -/
namespace Go.Proofs.Shardlog
open Go Go.Conc Go.Tame Go.Proofs Go.RowKit Go.Mem
variable {Ω : World}
def inI64 (x : Int) : Prop := -9223372036854775808 ≤ x ∧ x ≤ 9223372036854775807
/-- A script, as it was handed in. -/
def Script (w : World) (s : Value) (N : Nat) : Prop :=
  (∃ a c, s = .slice a 0 c ∧ N = 0) ∨ ∃ b off cap, s = .slice (some ⟨b, off, none⟩) N cap ∧ ∀ i, i < N → ∃ (kd W A B C : Int) (sl : Value),
    w.cell? ⟨b, off + i * 6, none⟩ = some (.int .i64 kd) ∧ w.cell? ⟨b, off + i * 6 + 1, none⟩ = some (.int .i64 W) ∧ w.cell? ⟨b, off + i * 6 + 2, none⟩ = some (.int .i64 A) ∧ w.cell? ⟨b, off + i * 6 + 3, none⟩ = some (.int .i64 B) ∧ w.cell? ⟨b, off + i * 6 + 4, none⟩ = some (.int .i64 C) ∧ w.cell? ⟨b, off + i * 6 + 5, none⟩ = some sl ∧
    inI64 kd ∧ inI64 W ∧ inI64 A ∧ inI64 B ∧ inI64 C ∧ OpsAt w sl
theorem CW.atRet {P : Program} {Z : Setting P} {g : Z.Gh} {cs : List Frame} {v : World} {X : Z.Gh → Frame → List Frame → World → Prop} {b : Frame} {a : Act} {k : List Item} (ok : Z.Ok) (h : CW Z g { b.at a (.code .ret :: k) with mode := .returning } cs v X) : CW Z g (b.at a (.code .ret :: k)) cs v X :=
  .ctl ok (fr' := { b.at a (.code .ret :: k) with mode := .returning }) (fun w => by simp [stepG, stepG.exec, Frame.at, G]) h
/-- A law's function is about to return; its result lies in slot 2. -/
def EndsWith (f : FuncId) (y : Value) (cs : List Frame) (R : List Rec → World → Prop) (g : List Rec) (fr : Frame) (cs' : List Frame) (v : World) : Prop :=
  cs' = cs ∧ ∃ A k, fr = { (base f).at ⟨A, []⟩ k with mode := .returning } ∧ A.getD 2 undef = y ∧ R g v
theorem ZZ.top {g : List Rec} {v : World} {cs : List Frame} {X : List Rec → Frame → List Frame → World → Prop} {f : FuncId} {fn : Func} {c : Code} {args tmps : Array Value} (hf : Tryz.prog.funcs[f]? = some fn) (hb : fn.body = some c) (ht : args ++ Array.replicate (fn.ntmps - args.size) undef = tmps)
    (h : CW (ZZ Ω) g ((base f).at ⟨tmps, []⟩ [.code c]) cs v X) : CW (ZZ Ω) g (Frame.enter Tryz.prog f args .normal) cs v X := by
  have henter : Frame.enter Tryz.prog f args .normal = (base f).at ⟨tmps, []⟩ [.code c] := by
    rw [← ht]
    simp [Frame.enter, Frame.at, hf, hb, base]
  rw [henter]
  exact h
/-- None lives. -/
def AllDead (g : List Rec) : Prop := ∀ r ∈ g, r.live = false
def slotsR (s i : Value) (J : Nat → Value) : Array Value := #[s, J 1, J 2, i, J 4, J 5, J 6, J 7, J 8, J 9, J 10, J 11, J 12, J 13, J 14, J 15, J 16, J 17, J 18, J 19, J 20, J 21, J 22, J 23, J 24, J 25, J 26, J 27, J 28, J 29, J 30, J 31, J 32, J 33, J 34, J 35, J 36, J 37, J 38, J 39, J 40, J 41, J 42, J 43, J 44, J 45, J 46, J 47, J 48, J 49, J 50, J 51, J 52, J 53, J 54, J 55, J 56, J 57, J 58, J 59, J 60, J 61, J 62, J 63, J 64, J 65, J 66, J 67, J 68, J 69, J 70, J 71, J 72, J 73, J 74, J 75, J 76, J 77, J 78]
theorem slotsR_of {A : Array Value} {s i : Value} (h : A = slotsR s i fun i => A.getD i undef) : ∃ J, (⟨A, []⟩ : Act) = ⟨slotsR s i J, []⟩ := ⟨_, congrArg (fun t => (⟨t, []⟩ : Act)) h⟩
/-- A new cluster, by labels. -/
structure Fresh (v u : World) (Λ : Lab) (k c N D : Nat) (sh : Value) (ss : List Value) : Prop where
  clu : Clu u Λ k c N 0 0 0 sh (.slice none 0 0) (.slice none 0 0) D ss [] []
  done : At u Λ still D (.chan 0 #[] false 0 0 false)
  low : ∀ x, x < v.heap.size → Λ x = still
  high : ∀ x, u.heap.size ≤ x → Λ x = still
  grown : Grown v u
  old : v.heap.size ≤ c ∧ v.heap.size ≤ D ∧ c ≠ D
theorem Grown.frS {w w' : World} {Λ : Lab} (h : Grown w w') : Fr Λ Λ (fun _ => False) w w' := h.fr
theorem fresh_new {v u : World} {N : Nat} {ms : List Member} {pos : Nat → Nat} (h : NewAt v u N N (v.heap.size + 2) (v.heap.size + 1) v.heap.size ms pos) : ∃ Λ sh ss, Fresh v u Λ 1 (v.heap.size + 1) N v.heap.size sh ss := by
  obtain ⟨sh, h1, h2, _⟩ := h.cell
  have hb : ∀ b, sh.ownBlock = some b → v.heap.size + 3 ≤ b ∧ b < u.heap.size := fun b hb => h2.lt b hb
  have hs := h.size
  refine ⟨fun x => if x = v.heap.size + 1 then (1, 0, 0) else if sh.ownBlock = some x then (1, 1, 0) else still, sh, _, ⟨⟨⟨h1, if_pos rfl⟩, ⟨own_zero h2, fun b hb' => ?_⟩, Row.nil _ _ _ _ _, Row.nil _ _ _ _ _⟩, ⟨h.done, ?_⟩, fun x hx => ?_, fun x hx => ?_, ⟨by omega, h.old, h.os⟩, by omega, by omega, by omega⟩⟩
  · have := hb b hb'
    rw [if_neg (by omega), if_pos hb']
  · show (if _ then _ else _) = _
    rw [if_neg (by omega), if_neg (fun e => by have := hb _ e; omega)]
  · show (if _ then _ else _) = _
    rw [if_neg (by omega), if_neg (fun e => by have := hb _ e; omega)]
  · show (if _ then _ else _) = _
    rw [if_neg (by omega), if_neg (fun e => by have := hb _ e; omega)]
theorem Fresh.on {v u u' : World} {Λ : Lab} {k c N D : Nat} {sh : Value} {ss : List Value} (h : Fresh v u Λ k c N D sh ss) (g : Grown u u') : Fresh v u' Λ k c N D sh ss :=
  ⟨h.clu.fr g.frS fun _ _ z => z, h.done.fr g.frS fun z => z, h.low, fun x hx => h.high x (by have := g.size; omega), h.grown.trans g, h.old⟩
theorem Fresh.errs {v0 v u : World} {Λ : Lab} {k c N D : Nat} {sh : Value} {ss : List Value} {E : Nat → Addr} (h : Fresh v u Λ k c N D sh ss) (hG : Grown v0 v) (hE : Errs v0 (fun _ => still) E) : Errs u Λ E :=
  hE.fr (((hG.trans h.grown).frS (Λ := fun _ => still)).relab fun x hx => h.low x (Nat.lt_of_lt_of_le hx hG.size)) fun z => z
theorem own_fr {w w' : World} {Λ Λ' : Lab} {M : Role → Prop} {base n size : Nat} {e : TypeId} {v : Value} {xs : List Value} (h : w.ownsRow base e size v n xs) (f : Fr Λ Λ' M w w') (hl : ∀ x, base ≤ x → Λ x = still) (hm : ¬ M still) : w'.ownsRow base e size v n xs :=
  own_more h (Nat.le_refl _) fun x hx => f.old x (h.lt x hx).2 (by rw [hl x (h.lt x hx).1]; exact hm)
theorem RefW.fr {w w' : World} {Λ Λ' : Lab} {M : Role → Prop} {m N nb nt : Nat} {sh bag txs : Value} {stop : Bool} {rs rb rt : List Value} (h : RefW w m N nb nt sh bag txs stop rs rb rt) (f : Fr Λ Λ' M w w') (hl : ∀ x, m ≤ x → Λ x = still) (hm : ¬ M still) : RefW w' m N nb nt sh bag txs stop rs rb rt :=
  ⟨(f.old m (Array.getElem?_eq_some_iff.1 h.cell).1 (by rw [hl m (Nat.le_refl _)]; exact hm)).trans h.cell, own_fr h.shards f (fun x hx => hl x (by omega)) hm, own_fr h.bag f (fun x hx => hl x (by omega)) hm, own_fr h.txs f (fun x hx => hl x (by omega)) hm⟩
theorem not_mineL {k : Nat} (hk : 0 < k) : ¬ mineL k still := by
  simp [mineL, mine, own, still, lent, priv, slip]
  omega
theorem below_shut {g : List Rec} {n D : Nat} (h : Below g n) : Below (shutRec D g) n := fun r hr => by
  obtain ⟨y, hy, _, h1, h2, h3, _⟩ := shutRec_mem hr
  rw [h1, h2, h3]
  exact h y hy
theorem dead_shut {g : List Rec} {r : Rec} {D : Nat} (h : AllDead g) (hr : r.D = D) : AllDead (shutRec D (r :: g)) := fun x hx => by
  obtain ⟨y, hy, rfl⟩ := List.mem_map.1 hx
  by_cases e : y.D = D
  · simp [e]
  · simp only [e, if_false]
    rcases List.mem_cons.1 hy with rfl | hy
    · exact absurd hr e
    · exact h y hy
section
variable {g : List Rec} {v : World} {N : Nat} {E : Nat → Addr} {s : Value} {cs : List Frame}
set_option maxHeartbeats 2000000 in
theorem zz_right (hΩ : Ω.heap.size ≤ v.heap.size) (hb : Below g v.heap.size) (hdead : AllDead g) (hE : Errs v (fun _ => still) E) (hS : Script v s N) (hN : N ≤ 2199023255552) :
    CW (ZZ Ω) g (Frame.enter Tryz.prog 3 #[s] .normal) cs v (EndsWith 3 (.bool true) cs fun g' v' => Grown v v' ∧ AllDead g') := by
  refine ZZ.top (tmps := #[s, undef, undef, undef, undef, undef, undef, undef, undef, undef, undef, undef, undef, undef, undef, undef, undef, undef, undef, undef, undef, undef, undef, undef, undef, undef, undef, undef, undef, undef, undef, undef, undef, undef, undef, undef, undef, undef, undef, undef, undef, undef, undef, undef, undef, undef, undef, undef, undef, undef, undef, undef, undef, undef, undef, undef, undef, undef, undef, undef, undef, undef, undef, undef, undef, undef, undef, undef, undef, undef, undef, undef, undef, undef, undef, undef, undef, undef, undef]) Tryz.func3 (by rfl) (by kernel_rfl) ?_
  refine CW.seq ZZ.ok (ZZ.plain (by kernel_rfl) (by simp [base]) fun Q u0 hu0 ho0 hQ => ?_)
  go_wp2
  refine CW.seq ZZ.ok (CW.seq ZZ.ok (ZZ.plain (by kernel_rfl) (by simp [base]) fun Q u1 hu1 ho1 hQ => ?_))
  go_wp2
  refine CW.block ZZ.ok (CW.loopI ZZ.ok (fun n g' a v' => ∃ k, n = N - k ∧ k ≤ N ∧ (∃ J, a = ⟨slotsR s (.int .i64 k) J, []⟩) ∧ Grown v v' ∧ Below g' v'.heap.size ∧ AllDead g') (fun n ih g' a v' hI => ?_) N _ _ _ ⟨0, rfl, Nat.zero_le _, slotsR_of (by kernel_rfl), Grown.same (hu1.trans hu0) (ho1.trans ho0), by rw [hu1, hu0]; exact hb, hdead⟩)
  obtain ⟨k, rfl, hk, ⟨J, rfl⟩, hG, hB, hdead'⟩ := hI
  clear hu0 hu1 ho0 ho1
  by_cases hkN : k < N
  · rcases hS with ⟨_, _, _, h0⟩ | ⟨sb, off, cap, rfl, hS⟩
    · omega
    obtain ⟨kd, W, A, B, C, sl, -, c1, -, -, -, c5, -, hW, -, -, -, hops⟩ := hS k hkN
    replace c1 := hG.cell c1
    replace c5 := hG.cell c5
    replace hops := hops.grown hG
    refine CW.seq ZZ.ok (CW.seq ZZ.ok (ZZ.plain (by kernel_rfl) (by simp [base]) fun Q u hu ho hQ => ?_))
    simp only [slotsR]
    go_wp2
    rw [← cell_heap hu] at c1 c5
    replace hops := hops.grown (Grown.same hu ho)
    replace hG := hG.trans (Grown.same hu ho)
    rw [← hu] at hB
    refine CW.cond (t := true) ZZ.ok ?_ ?_
    · simp [Act.eval]
      omega
    simp only [if_true]
    refine CW.skip ZZ.ok (CW.seq ZZ.ok (CW.block ZZ.ok (CW.seq ZZ.ok (ZZ.pre [_, _, _, _, _] [_, _, _, _, _, _, _, _] (by kernel_rfl) (by simp [base]) fun Q u1 hu1 ho1 hQ => ?_))))
    clear hu ho
    rw [← cell_heap hu1] at c1 c5
    replace hops := hops.grown (Grown.same hu1 ho1)
    replace hG := hG.trans (Grown.same hu1 ho1)
    rw [← hu1] at hB
    clear hu1 ho1
    go_wp2
    refine ZZ.lone (i := 5) (f := 15) (first := #[]) (captured := #[]) (args := #[.int .i64 W, .int .i64 (4 : Nat)]) (R := fun y w' => y = .int .i64 (pkN W 4) ∧ w'.heap = u1.heap ∧ w'.os = u1.os) rfl rfl (by simp [base]) rfl rfl (by rfl) (by simp [Act.eval]) Tryz.func15 (by kernel_rfl) (by kernel_rfl) (by decide) (by kernel_rfl)
      (fun u h1 h2 => (lone_pick hW (by decide) (by decide)).mono fun e w' ⟨k1, k2⟩ => ⟨_, k1, rfl, by rw [k2]; exact h1, by rw [k2]; exact h2⟩) ?_
    rintro y u2 ⟨rfl, hu2, ho2⟩
    have hp := pkN_lt W (n := 4) (by decide)
    generalize pkN W 4 = p at *
    refine ZZ.mid [_, _, _, _, _, _] [_] [_, _, _, _, _, _] rfl (by kernel_rfl) (by simp [base]) fun Q u3 hu3 ho3 hQ => ?_
    rw [← cell_heap (hu3.trans hu2)] at c1 c5
    replace hops := hops.grown (Grown.same (hu3.trans hu2) (ho3.trans ho2))
    replace hG := hG.trans (Grown.same (hu3.trans hu2) (ho3.trans ho2))
    rw [← (hu3.trans hu2)] at hB
    clear hu2 ho2 hu3 ho3
    have hwr : IntKind.i64.wrap (1 + (p : Int)) = 1 + p := by simp only [IntKind.wrap, IntKind.bits, IntKind.signed]; simp; omega
    go_wp2
    have hpn := zz_pnew (Ω := Ω) (g := g') (v := u3) (N := p + 1) (Nat.le_trans hΩ hG.size) (by omega) (by omega) hB
    refine CW.callAt ZZ.ok (i := 7) (f := 14) (first := #[]) (captured := #[]) (args := #[.int .i64 ((p + 1 : Nat) : Int)]) rfl rfl (by simp [base]) rfl rfl (by rfl) (by simp [Act.eval, Int.add_comm]) Tryz.func14 (by kernel_rfl) (by kernel_rfl) hpn fun g2 y v1 hR => ?_
    obtain ⟨ms, pos, rfl, rfl, hA⟩ := hR
    clear hpn
    refine ZZ.rest (l := [_, _, _, _, _, _, _]) (x := _) (m := [_, _, _, _, _]) rfl (by kernel_rfl) (by simp [base]) fun Q u4 hu4 ho4 hQ => ?_
    replace hA := hA.same hu4 ho4
    clear hu4 ho4
    go_wp2
    obtain ⟨Λ, sh, ss, hf⟩ := fresh_new hA
    have hA' := hid' hA
    clear hA
    have hEr := hf.errs hG hE
    rw [show u3.heap.size + 1 = u3.heap.size + 1 from rfl] at hf
    have hDc := hf.old
    replace c1 := hf.grown.cell c1
    replace c5 := hf.grown.cell c5
    replace hops := hops.grown hf.grown
    have hB3 := hB
    have hz3 : u3.heap.size < u4.heap.size := by have := hA'.out.size; omega
    generalize hcE : u3.heap.size + 1 = c at *
    generalize hDE : u3.heap.size = D at *
    -- the document's New
    refine CW.seq ZZ.ok (ZZ.pre [_, _, _, _, _] [_, _, _, _, _, _, _, _] (by kernel_rfl) (by simp [base]) fun Q u5 hu5 ho5 hQ => ?_)
    rw [← cell_heap hu5] at c1
    have g5 := Grown.same hu5 ho5
    go_wp2
    refine ZZ.lone (i := 5) (f := 15) (first := #[]) (captured := #[]) (args := #[.int .i64 W, .int .i64 (4 : Nat)]) (R := fun y w' => y = .int .i64 (pkN W 4) ∧ w'.heap = u5.heap ∧ w'.os = u5.os) rfl rfl (by simp [base]) rfl rfl (by rfl) (by simp [Act.eval]) Tryz.func15 (by kernel_rfl) (by kernel_rfl) (by decide) (by kernel_rfl)
      (fun u h1 h2 => (lone_pick hW (by decide) (by decide)).mono fun e w' ⟨k1, k2⟩ => ⟨_, k1, rfl, by rw [k2]; exact h1, by rw [k2]; exact h2⟩) ?_
    rintro y u6 ⟨rfl, hu6, ho6⟩
    have hp2 := pkN_lt W (n := 4) (by decide)
    generalize pkN W 4 = p2 at *
    refine ZZ.mid [_, _, _, _, _, _] [_] [_, _, _, _, _, _] rfl (by kernel_rfl) (by simp [base]) fun Q u7 hu7 ho7 hQ => ?_
    have g7 := (g5.trans (Grown.same hu6 ho6)).trans (Grown.same hu7 ho7)
    clear hu5 ho5 hu6 ho6 hu7 ho7 g5
    have hwr2 : IntKind.i64.wrap (1 + (p2 : Int)) = 1 + p2 := by simp only [IntKind.wrap, IntKind.bits, IntKind.signed]; simp; omega
    go_wp2
    refine ZZ.lone (i := 7) (f := 16) (first := #[]) (captured := #[]) (args := #[.int .i64 ((p2 + 1 : Nat) : Int)]) (R := fun y w' => ∃ m sh2 ss2, y = .tuple #[.pointer (some ⟨m, 0, none⟩), .int .i64 0] ∧ NewRef u7 w' m (p2 + 1) sh2 ss2) rfl rfl (by simp [base]) rfl rfl (by rfl) (by simp [Act.eval, Int.add_comm]) Tryz.func16 (by kernel_rfl) (by kernel_rfl) (by decide) (by kernel_rfl)
      (fun u h1 h2 => (lone_refNew (p2 + 1) (by omega) (by omega)).mono fun e w' ⟨m, sh2, ss2, k1, k2⟩ => ⟨_, k1, m, sh2, ss2, rfl, k2.cell, k2.row, (Grown.same h1 h2).trans k2.grown, by rw [← h1]; exact k2.ge⟩) ?_
    rintro y u8 ⟨m, sh2, ss2, rfl, hM⟩
    refine ZZ.rest (l := [_, _, _, _, _, _, _]) (x := _) (m := [_, _, _, _, _]) rfl (by kernel_rfl) (by simp [base]) fun Q u9 hu9 ho9 hQ => ?_
    go_wp2
    have g9 := (g7.trans hM.grown).trans (Grown.same hu9 ho9)
    have hMge : u4.heap.size ≤ m := Nat.le_trans g7.size hM.ge
    have hMW : RefW u9 m (p2 + 1) 0 0 sh2 (.slice none 0 0) (.slice none 0 0) false (ss2.map fun s => .pointer (some ⟨s, 0, none⟩)) [] [] :=
      ⟨by rw [hu9]; exact hM.cell, own_more hM.row (Nat.le_refl _) fun _ _ => by rw [hu9], World.ownsRow_nil _ _ _ _, World.ownsRow_nil _ _ _ _⟩
    clear hM hu9 ho9 g7 hwr2 hwr
    refine CW.seq ZZ.ok (CW.seq ZZ.ok (ZZ.plain (by kernel_rfl) (by simp [base]) fun Q u10 hu10 ho10 hQ => ?_))
    go_wp2
    refine CW.cond (t := false) ZZ.ok (by rfl) ?_
    simp only [if_false, Bool.false_eq_true]
    refine CW.skip ZZ.ok (CW.seq ZZ.ok (ZZ.pre [_, _, _, _, _] [_, _] (by kernel_rfl) (by simp [base]) fun Q u11 hu11 ho11 hQ => ?_))
    have ga := (Grown.same hu10 ho10).trans (Grown.same hu11 ho11)
    have gb := g9.trans ga
    replace c5 := gb.cell c5
    replace hops := hops.grown gb
    go_wp2
    refine ZZ.lone (i := 5) (f := 17) (first := #[]) (captured := #[]) (args := #[sl]) (R := fun y w' => ∃ n o, n ≤ 5864062014805 ∧ (∀ i, keptOp (o i) = o i) ∧ w'.ownsRow u11.heap.size 61 3 y n (refRow o n) ∧ Grown u11 w') rfl rfl (by simp [base]) rfl rfl (by rfl) (by simp [Act.eval]) Tryz.func17 (by kernel_rfl) (by kernel_rfl) (by decide) (by kernel_rfl)
      (fun u h1 h2 => (lone_keptV (hops.grown (Grown.same h1 h2))).mono fun e w' ⟨v8, k1, n, o, k2, k3, k4, k5⟩ => ⟨_, k1, n, o, k2, k3, by rw [← h1]; exact k4, (Grown.same h1 h2).trans k5⟩) ?_
    rintro v8 u12 ⟨n, o, hn, ho, hK, gK⟩
    refine ZZ.rest (l := [_, _, _, _, _]) (x := _) (m := [_]) rfl (by kernel_rfl) (by simp [base]) fun Q u13 hu13 ho13 hQ => ?_
    go_wp2
    have gc := (ga.trans gK).trans (Grown.same hu13 ho13)
    have hK13 : u13.ownsRow u11.heap.size 61 3 v8 n (refRow o n) := own_more hK (Nat.le_refl _) fun _ _ => by rw [hu13]
    have hmb : m + 1 ≤ u11.heap.size := by
      have := (Array.getElem?_eq_some_iff.1 hMW.cell).1
      have := ga.size
      omega
    have hhi : ∀ x, u4.heap.size ≤ x → Λ x = still := hf.high
    have hsz : u4.heap.size ≤ u11.heap.size := gb.size
    have hM13 := hMW.fr (gc.frS (Λ := Λ)) (fun x hx => hhi x (by omega)) (fun z => z)
    have hsz13 : u11.heap.size ≤ u13.heap.size := by rw [hu13]; exact gK.size
    have hf13 := hf.on ((gb.trans gK).trans (Grown.same hu13 ho13))
    have hE13 : Errs u13 Λ E := hEr.fr ((gb.trans gK).trans (Grown.same hu13 ho13)).frS fun z => z
    clear c1 c5 hops gb ga gc gK g9 hK hu13 ho13 hMW hEr hu10 hu11 ho10 ho11
    -- the program's Submit
    refine CW.seq ZZ.ok (ZZ.pre [_, _] [_, _, _, _, _, _, _] (by kernel_rfl) (by simp [base]) fun Q u14 hu14 ho14 hQ => ?_)
    go_wp2
    refine ZZ.lone (i := 2) (f := 19) (first := #[]) (captured := #[]) (args := #[v8]) (R := fun y w' => w'.ownsRow u14.heap.size 65 3 y n (clL (lst o n)) ∧ Grown u14 w') rfl rfl (by simp [base]) rfl rfl (by rfl) (by simp [Act.eval]) Tryz.func19 (by kernel_rfl) (by kernel_rfl) (by decide) (by kernel_rfl)
      (fun u h1 h2 => (lone_givenV hn ho (base := u11.heap.size) (own_more hK13 (Nat.le_refl _) fun _ _ => by rw [h1, hu14])).mono fun e w' ⟨y, k1, k2, k3⟩ => ⟨_, k1, by rw [← h1]; exact k2, (Grown.same h1 h2).trans k3⟩) ?_
    rintro y u15 ⟨hV, gV⟩
    have gd := (Grown.same hu14 ho14).trans gV
    have hK15 := own_fr hK13 (gd.frS (Λ := Λ)) (fun x hx => hhi x (by omega)) (fun z => z)
    have hM15 := hM13.fr (gd.frS (Λ := Λ)) (fun x hx => hhi x (by omega)) (fun z => z)
    have hf15 := hf13.on gd
    have hE15 := hE13.fr (gd.frS (Λ := Λ)) fun z => z
    have hsz14 : u11.heap.size ≤ u14.heap.size := by rw [hu14]; exact hsz13
    have hR15 : Row u15 Λ still 65 3 y n (clL (lst o n)) := ⟨own_zero hV, fun x hx => hhi x (by have := (hV.lt x hx).1; omega)⟩
    have hsz15 : u11.heap.size ≤ u15.heap.size := Nat.le_trans hsz14 gV.size
    clear hK13 hM13 hf13 hE13 gd gV hV hu14 ho14
    refine ZZ.lone (i := 3) (f := 18) (first := #[]) (captured := #[]) (args := #[.pointer (some ⟨c, 0, none⟩), y]) (R := fun y w' => (∃ t a : Int, y = .tuple #[.int .i64 t, .int .i64 a] ∧ ((isTx n o ∧ a = 0) ∨ (¬ isTx n o ∧ a = 2))) ∧ ∃ Λ' sh' tx' bg', Fr Λ Λ' (mineL 1) u15 w' ∧ At w' Λ' (1, 0, 0) c (.cells #[.int .i32 0, .int .u32 0, sh', tx', bg', .chan (some D)] 94 (5, 6))) rfl rfl (by simp [base]) rfl rfl (by rfl) (by simp [Act.eval, Act.put]) Tryz.func18 (by kernel_rfl) (by kernel_rfl) (by decide) (by kernel_rfl)
      (fun u h1 h2 => ?_) ?_
    · have fs : Fr Λ Λ (fun _ => False) u15 u := Fr.same h1 h2
      refine (lone_psub_first (by decide) (hE15.fr fs fun z => z) (hf15.clu.fr fs fun _ _ z => z) (hf15.done.fr fs fun z => z) (by omega) (by omega) (hR15.fr fs fun z => z) hn).mono ?_
      rintro e w' ⟨y, k1, ⟨t, a, k2, k3⟩, Λ', sh', tx', bg', k4, k5⟩
      rw [tx_lst] at k3
      exact ⟨y, k1, ⟨t, a, k2, k3⟩, Λ', sh', tx', bg', (fs.mono fun _ z => z.elim).trans k4, k5⟩
    rintro _ u16 ⟨⟨t, a, rfl, ha⟩, Λ2, sh', tx', bg', hF, hc⟩
    refine ZZ.rest (l := [_, _, _]) (x := _) (m := [_, _, _, _, _]) rfl (by kernel_rfl) (by simp [base]) fun Q u17 hu17 ho17 hQ => ?_
    go_wp2
    have fs : Fr Λ Λ2 (mineL 1) u15 u17 := hF.trans (Fr.same hu17 ho17)
    have hnm := not_mineL (k := 1) (by decide)
    have hK17 := own_fr hK15 fs (fun x hx => hhi x (by omega)) hnm
    have hM17 := hM15.fr fs (fun x hx => hhi x (by omega)) hnm
    have hc17 := hc.fr (Fr.same hu17 ho17 : Fr Λ2 Λ2 (fun _ => False) _ _) fun z => z
    have hD17 := hf15.done.fr fs hnm
    have hG17 : Grown v u17 := hG.trans ⟨by have := fs.size; have := hf15.grown.size; omega, fun x hx => (fs.old x (Nat.lt_of_lt_of_le hx hf15.grown.size) (by rw [hf.low x hx]; exact hnm)).trans (hf15.grown.heap x hx), fs.os.trans hf15.grown.os⟩
    have hz17 : u15.heap.size ≤ u17.heap.size := fs.size
    clear hK15 hM15 hf15 hE15 hR15 fs hF hc hu17 ho17
    -- the document's Submit
    refine CW.seq ZZ.ok (ZZ.pre [_, _] [_, _, _, _, _, _] (by kernel_rfl) (by simp [base]) fun Q u18 hu18 ho18 hQ => ?_)
    go_wp2
    refine ZZ.lone (i := 2) (f := 20) (first := #[]) (captured := #[]) (args := #[.pointer (some ⟨m, 0, none⟩), v8]) (R := fun y w' => (∃ t a : Int, y = .tuple #[.int .i64 t, .int .i64 a] ∧ ((isTx n o ∧ a = 0) ∨ (¬ isTx n o ∧ a = 2))) ∧ u17.heap.size ≤ w'.heap.size ∧ w'.os = u17.os ∧ ∀ x, x < u17.heap.size → x ≠ m → w'.heap[x]? = u17.heap[x]?) rfl rfl (by simp [base]) rfl rfl (by rfl) (by simp [Act.eval]) Tryz.func20 (by kernel_rfl) (by kernel_rfl) (by decide) (by kernel_rfl)
      (fun u h1 h2 => ?_) ?_
    · have e1 : u.heap = u17.heap := h1.trans hu18
      have e2 : u.os = u17.os := h2.trans ho18
      have fs : Fr Λ2 Λ2 (fun _ => False) u17 u := Fr.same e1 e2
      refine (lone_refSub_first (base := u11.heap.size) ⟨by rw [e1]; exact hM17.cell, own_more hM17.shards (Nat.le_refl _) fun _ _ => by rw [e1], World.ownsRow_nil _ _ _ _, World.ownsRow_nil _ _ _ _⟩ hmb (own_more hK17 (Nat.le_refl _) fun _ _ => by rw [e1]) hn (by omega) (by omega)).mono ?_
      rintro e w' ⟨y, k1, k2, k3, k4, k5⟩
      rw [e1] at k3 k5
      exact ⟨y, k1, k2, k3, k4.trans e2, k5⟩
    rintro _ u19 ⟨⟨t2, a2, rfl, ha2⟩, hz19, ho19, hh19⟩
    obtain rfl : a2 = a := by
      rcases ha with ⟨h, rfl⟩ | ⟨h, rfl⟩ <;> rcases ha2 with ⟨h', rfl⟩ | ⟨h', rfl⟩ <;> first | rfl | exact absurd h h' | exact absurd h' h
    refine ZZ.rest (l := [_, _]) (x := _) (m := [_, _, _, _, _]) rfl (by kernel_rfl) (by simp [base]) fun Q u20 hu20 ho20 hQ => ?_
    go_wp2
    have hcm : c < u4.heap.size := hf.clu.blk.lt
    have hc20 : u20.heap[c]? = some (.cells #[.int .i32 0, .int .u32 0, sh', tx', bg', .chan (some D)] 94 (5, 6)) := by
      rw [hu20, hh19 c hc17.lt (by omega)]
      exact hc17.obj
    have hD20 : u20.heap[D]? = some (.chan 0 #[] false 0 0 false) := by
      rw [hu20, hh19 D hD17.lt (by omega)]
      exact hD17.obj
    have hG20 : Grown v u20 := ⟨by have := hG17.size; rw [hu20]; omega, fun x hx => by
      have h1 := hG17.size
      have h2 := hG.size
      rw [hu20, hh19 x (by omega) (by omega)]
      exact hG17.heap x hx, by rw [ho20, ho19]; exact hG17.os⟩
    have hz20 : u4.heap.size ≤ u20.heap.size := by rw [hu20]; omega
    clear hc17 hD17 hG17 hM17 hK17 hu20 ho20 hh19 ho19 hz19 hu18 ho18
    -- Stop
    refine CW.seq ZZ.ok (ZZ.pre [_] [_] (by kernel_rfl) (by simp [base]) fun Q u21 hu21 ho21 hQ => ?_)
    go_wp2
    rw [← hu21] at hc20 hD20
    replace hG20 := hG20.trans (Grown.same hu21 ho21)
    rw [← hu21] at hz20
    clear hu21 ho21
    refine CW.callAt ZZ.ok (i := 1) (f := 21) (first := #[]) (captured := #[]) (args := #[.pointer (some ⟨c, 0, none⟩)]) rfl rfl (by simp [base]) rfl rfl (by rfl) (by simp [Act.eval]) Tryz.func21 (by kernel_rfl) (by kernel_rfl)
      (zz_stop (r := ⟨D + 2, c, D, ms, p + 1, true⟩) (cap := 0) (s := 0) (rr := 0) (List.mem_cons_self ..) rfl hA'.out.len.symm ?_ ?_ ?_ hD20) fun g3 y u22 hR => ?_
    · unfold World.cell?; rw [hc20]; rfl
    · unfold World.frozen?; rw [hc20]; simp
    · unfold World.cell?; rw [hc20]; rfl
    obtain ⟨rfl, rfl, hH⟩ := hR
    have hG22 : Grown v u22 := ⟨Nat.le_trans hG20.size hH.size, fun x hx => by
      have h1 := hG20.size
      have h2 := hG.size
      exact (hH.old x (by omega) (by show x ≠ D; omega)).trans (hG20.heap x hx), hH.os.trans hG20.os⟩
    have hz22 : u4.heap.size ≤ u22.heap.size := Nat.le_trans hz20 hH.size
    have hB22 : Below (shutRec D (⟨D + 2, c, D, ms, p + 1, true⟩ :: g')) u22.heap.size := below_shut fun r hr => by
      rcases List.mem_cons.1 hr with rfl | hr
      · refine ⟨by show D < _; omega, by show c < _; omega, fun x hx => ?_⟩
        obtain ⟨i, hi⟩ := List.mem_iff_getElem?.1 hx
        obtain ⟨m', R, h⟩ := hA'.out.shards i x hi
        exact Nat.lt_of_lt_of_le (Array.getElem?_eq_some_iff.1 h.work).1 hz22
      · have := hB3 r hr
        exact ⟨by omega, by omega, fun x hx => by have := this.2.2 x hx; omega⟩
    have hd22 : AllDead (shutRec D (⟨D + 2, c, D, ms, p + 1, true⟩ :: g')) := dead_shut hdead' rfl
    refine .regionEnd ZZ.ok (CW.seq ZZ.ok (ZZ.plain (by kernel_rfl) (by simp [base]) fun Q u23 hu23 ho23 hQ => ?_))
    go_wp2
    refine CW.cond (t := false) ZZ.ok (by simp [Act.eval]) ?_
    simp only [if_false, Bool.false_eq_true]
    refine CW.skip ZZ.ok (CW.inBlock ZZ.ok (ZZ.plain (by kernel_rfl) (by simp [base]) fun Q u24 hu24 ho24 hQ => ?_))
    have hwk : IntKind.i64.wrap ((k : Int) + 1) = k + 1 := by simp only [IntKind.wrap, IntKind.bits, IntKind.signed]; simp; omega
    go_wp2
    refine ih (N - (k + 1)) (by omega) _ _ _ ⟨k + 1, rfl, by omega, slotsR_of (by kernel_rfl), (hG22.trans (Grown.same hu23 ho23)).trans (Grown.same hu24 ho24), by rw [hu24, hu23]; exact hB22, hd22⟩
  · obtain rfl : k = N := by omega
    refine CW.seq ZZ.ok (CW.seq ZZ.ok (ZZ.plain (by kernel_rfl) (by simp [base]) fun Q u hu ho hQ => ?_))
    simp only [slotsR]
    obtain ⟨oo, cc, rfl⟩ : ∃ o c, s = .slice o k c := by
      rcases hS with ⟨o, c, rfl, rfl⟩ | ⟨b, off, cap, rfl, _⟩
      · exact ⟨_, _, rfl⟩
      · exact ⟨_, _, rfl⟩
    go_wp2
    refine CW.cond (t := false) ZZ.ok (by simp [Act.eval]) ?_
    simp only [if_false, Bool.false_eq_true]
    refine CW.exit ZZ.ok rfl (CW.seq ZZ.ok (ZZ.plain (by kernel_rfl) (by simp [base]) fun Q u2 hu2 ho2 hQ => ?_))
    go_wp2
    exact CW.atRet ZZ.ok (.done ⟨rfl, _, _, rfl, by rfl, (hG.trans (Grown.same hu ho)).trans (Grown.same hu2 ho2), hdead'⟩)
end
end Go.Proofs.Shardlog
/- A script, as it is handed in: what the reading and the sizes give. -/
namespace Go.Proofs.Shardlog
open Go Go.Conc Go.Tame Go.Proofs Go.Deep Go.ChangeShapes
section
variable {H : Type} {enc : TypeId × Value → H} {w : World} {base : Nat} {sp : Nat → Bool} {held : Bool}
/-- A slice of structs whose fields are one cell each. -/
theorem open_structs {P : Program} {t e : TypeId} {fs : Array Field} {fuel : Nat} {cs : List Value} {x : DataW H × List MemPlace} (ht : P.underlying t = some (.slice e)) (he : P.underlying e = some (.struct fs)) (hone : ∀ (i : Nat) (f : Field), fs[i]? = some f → f.offset = i ∧ P.cellsOf f.type = 1) (hC : P.cellsOf e = fs.size) (hpos : 0 < fs.size)
    (h : DataW.trod enc P w base sp held fuel t cs = some x) :
    cs = [.slice none 0 0] ∨ ∃ (a : Addr) (len cap n : Nat) (D : Nat → DataW H) (spare : List (DataW H)), cs = [.slice (some a) len cap] ∧ x.1 = .slice ((List.range len).map D) spare ∧
      ∀ i, i < len → a.spot = none ∧ ∃ ys : List (DataW H × List MemPlace), D i = .agg (ys.map (·.1)) ∧ ∀ (j : Nat) (f : Field), fs[j]? = some f → ∃ v y, ys[j]? = some y ∧ w.cell? ⟨a.block, a.off + i * fs.size + j, none⟩ = some v ∧ DataW.trod enc P w base sp held n f.type [v] = some y := by
  rcases open_slice ht h with ⟨h0, _⟩ | ⟨a, len, cap, m, n, D, Pl, rfl, hb, hl, hm, hmm, rfl, hx⟩
  · exact .inl h0
  right
  have hlm : len ≤ m := by rw [hmm]; split <;> omega
  cases n with
  | zero =>
    refine ⟨a, len, cap, 0, D, _, rfl, rfl, fun i hi => ?_⟩
    obtain ⟨cs', _, h2⟩ := hx i (by omega)
    simp [DataW.trod] at h2
  | succ n =>
  refine ⟨a, len, cap, n, D, _, rfl, rfl, fun i hi => ?_⟩
  obtain ⟨cs', h1, h2⟩ := hx i (by omega)
  rw [hC] at h1
  obtain ⟨_, hlen, hcell⟩ := World.cells?_some h1
  obtain ⟨xs, n', hn', hxe, _, hxl, hf⟩ := DataW.trod_struct he h2
  obtain rfl : n = n' := by omega
  obtain ⟨b, o, spot⟩ := a
  have hspot : spot = none := by
    obtain ⟨cs0, k1, _⟩ := hx 0 (by omega)
    rw [hC] at k1
    obtain ⟨_, klen, kcell⟩ := World.cells?_some k1
    have h0 := kcell 0 hpos
    rw [List.getElem?_eq_getElem (by omega)] at h0
    have := World.cell?_spot h0
    simpa [Addr.add] using this
  subst hspot
  refine ⟨rfl, xs, (congrArg Prod.fst hxe), fun j f hj => ?_⟩
  have hlt : j < fs.size := (Array.getElem?_eq_some_iff.1 hj).1
  obtain ⟨ho, hc1⟩ := hone j f hj
  have g := hf j f hj
  rw [ho, hc1] at g
  rw [take1_drop cs' j undef (by omega), List.getElem?_eq_getElem (by omega)] at g
  refine ⟨cs'.getD j undef, xs[j], List.getElem?_eq_getElem _, ?_, g⟩
  have := hcell j hlt
  rw [List.getElem?_eq_getElem (by omega)] at this
  have e : ((⟨b, o, none⟩ : Addr).add (i * fs.size)).add j = ⟨b, o + i * fs.size + j, none⟩ := by rw [WideShapes.add_plain, WideShapes.add_plain]
  rw [e] at this
  rw [this]
  simp [List.getD, List.getElem?_eq_getElem (show j < cs'.length by omega)]
theorem mem_weightsAll {P : Program} {e : TypeId} : ∀ {l : List (DataW H)} {d : DataW H}, d ∈ l → ∀ n ∈ d.weights P e, n ∈ DataW.weightsAll P e l
  | x :: l, d, h, n, hn => by
    unfold DataW.weightsAll
    rcases List.mem_cons.1 h with rfl | h
    · exact List.mem_append_left _ hn
    · exact List.mem_append_right _ (mem_weightsAll h n hn)
theorem slice_weights {P : Program} {t e : TypeId} {es spare : List (DataW H)} (ht : P.underlying t = some (.slice e)) (n : Nat) : n ∈ (DataW.slice es spare).weights P t ↔ n = (es.length + spare.length) * P.bytesOf e ∨ n ∈ DataW.weightsAll P e es ∨ n ∈ DataW.weightsAll P e spare := by
  unfold DataW.weights
  rw [ht]
  simp
theorem wf_i64 {n : Int} (h : (Lit.int .i64 n).wf = true) : inI64 n := by
  simpa [Lit.wf, IntKind.min, IntKind.max, IntKind.signed, IntKind.bits, inI64] using h
theorem Tryz.bytes29 : Tryz.prog.bytesOf 29 = 64 := by kernel_rfl
theorem Tryz.bytes61 : Tryz.prog.bytesOf 61 = 24 := by kernel_rfl
theorem opsAt_of {fuel : Nat} {sl : Value} {y : DataW H × List MemPlace} (h : DataW.trod enc Tryz.prog w base sp held fuel 27 [sl] = some y) (hz : ∀ n ∈ y.1.weights Tryz.prog 27, n ≤ reachBytes) : OpsAt w sl := by
  rcases open_structs Tryz.underlying27 Tryz.underlying61 (hone_of (by kernel_rfl)) (by kernel_rfl) (by decide) h with h0 | ⟨a, len, cap, n, D, spare, h1, h2, h3⟩
  · cases h0
    exact ⟨0, fun _ => ⟨false, 0, 0⟩, by omega, .inl ⟨_, _, rfl, rfl⟩⟩
  · cases h1
    have hlen : len ≤ 5864062014805 := by
      have := hz _ (by rw [h2]; exact (slice_weights Tryz.underlying27 _).2 (.inl rfl))
      rw [Tryz.bytes61] at this
      unfold reachBytes at this
      simp at this
      omega
    rcases Nat.eq_zero_or_pos len with rfl | h0
    · exact ⟨0, fun _ => ⟨false, 0, 0⟩, by omega, .inl ⟨_, _, rfl, rfl⟩⟩
    · obtain ⟨b, o, s⟩ := a
      obtain rfl : s = none := (h3 0 h0).1
      have key : ∀ i, i < len → ∃ x : OpD, w.cell? ⟨b, o + i * 3, none⟩ = some (.bool x.wr) ∧ w.cell? ⟨b, o + i * 3 + 1, none⟩ = some (.int .i64 x.key) ∧ w.cell? ⟨b, o + i * 3 + 2, none⟩ = some (.int .i64 x.val) := fun i hi => by
        obtain ⟨_, ys, _, hf⟩ := h3 i hi
        obtain ⟨v0, y0, _, c0, t0⟩ := hf 0 _ rfl
        obtain ⟨v1, y1, _, c1, t1⟩ := hf 1 _ rfl
        obtain ⟨v2, y2, _, c2, t2⟩ := hf 2 _ rfl
        obtain ⟨b0, e0, _⟩ := DataW.trod_bool Tryz.underlying4 t0
        obtain ⟨n1, e1, _, _⟩ := DataW.trod_int Tryz.underlying3 t1
        obtain ⟨n2, e2, _, _⟩ := DataW.trod_int Tryz.underlying3 t2
        cases e0; cases e1; cases e2
        exact ⟨⟨b0, n1, n2⟩, c0, c1, c2⟩
      haveI : Inhabited OpD := ⟨⟨false, 0, 0⟩⟩
      obtain ⟨f, hf⟩ := choose_lt (α := OpD) (p := fun i x => w.cell? ⟨b, o + i * 3, none⟩ = some (.bool x.wr) ∧ w.cell? ⟨b, o + i * 3 + 1, none⟩ = some (.int .i64 x.key) ∧ w.cell? ⟨b, o + i * 3 + 2, none⟩ = some (.int .i64 x.val)) key
      exact ⟨len, f, hlen, .inr ⟨b, o, cap, rfl, fun i hi => (hf i hi).1, fun i hi => (hf i hi).2.1, fun i hi => (hf i hi).2.2⟩⟩
theorem script_of {r : Reach} {b0 : Nat} {s : Value} {d : DataW H} {ps : List MemPlace} (hval : Value.okWide Tryz.prog w r b0 22 s) (h : DataW.Trod enc Tryz.prog w base sp held 22 s d ps) (hz : ∀ n ∈ d.weights Tryz.prog 22, n ≤ reachBytes) : ∃ N, N ≤ 2199023255552 ∧ Script w s N := by
  obtain ⟨fuel, h⟩ := h
  obtain ⟨a0, len0, cap0, rfl⟩ := WideShapes.okWide_slice Tryz.underlying22 hval
  change DataW.trod enc Tryz.prog w base sp held fuel 22 [.slice a0 len0 cap0] = _ at h
  rcases open_structs Tryz.underlying22 Tryz.underlying29 (hone_of (by kernel_rfl)) (by kernel_rfl) (by decide) h with h0 | ⟨a, len, cap, n, D, spare, h1, h2, h3⟩
  · cases h0
    exact ⟨0, by omega, .inl ⟨_, _, rfl, rfl⟩⟩
  · cases h1
    have h2 : d = _ := h2
    have hlen : len0 ≤ 2199023255552 := by
      have := hz _ (by rw [h2]; exact (slice_weights Tryz.underlying22 _).2 (.inl rfl))
      rw [Tryz.bytes29] at this
      unfold reachBytes at this
      simp at this
      omega
    rcases Nat.eq_zero_or_pos len0 with rfl | h0
    · exact ⟨0, by omega, .inl ⟨_, _, rfl, rfl⟩⟩
    · obtain ⟨b, o, s⟩ := a
      obtain rfl : s = none := (h3 0 h0).1
      refine ⟨len0, hlen, .inr ⟨b, o, cap0, rfl, fun i hi => ?_⟩⟩
      obtain ⟨_, ys, hD, hf⟩ := h3 i hi
      obtain ⟨v0, y0, _, c0, t0⟩ := hf 0 _ rfl
      obtain ⟨v1, y1, _, c1, t1⟩ := hf 1 _ rfl
      obtain ⟨v2, y2, _, c2, t2⟩ := hf 2 _ rfl
      obtain ⟨v3, y3, _, c3, t3⟩ := hf 3 _ rfl
      obtain ⟨v4, y4, _, c4, t4⟩ := hf 4 _ rfl
      obtain ⟨v5, y5, g5, c5, t5⟩ := hf 5 _ rfl
      obtain ⟨n0, e0, _, w0⟩ := DataW.trod_int Tryz.underlying3 t0
      obtain ⟨n1, e1, _, w1⟩ := DataW.trod_int Tryz.underlying3 t1
      obtain ⟨n2, e2, _, w2⟩ := DataW.trod_int Tryz.underlying3 t2
      obtain ⟨n3, e3, _, w3⟩ := DataW.trod_int Tryz.underlying3 t3
      obtain ⟨n4, e4, _, w4⟩ := DataW.trod_int Tryz.underlying3 t4
      cases e0; cases e1; cases e2; cases e3; cases e4
      refine ⟨n0, n1, n2, n3, n4, v5, c0, c1, c2, c3, c4, c5, wf_i64 w0, wf_i64 w1, wf_i64 w2, wf_i64 w3, wf_i64 w4, opsAt_of t5 fun k hk => ?_⟩
      refine hz k ?_
      rw [h2]
      refine (slice_weights Tryz.underlying22 k).2 (.inr (.inl (mem_weightsAll (d := D i) (List.mem_map.2 ⟨i, List.mem_range.2 hi, rfl⟩) k ?_)))
      rw [hD]
      unfold DataW.weights
      rw [Tryz.underlying29]
      exact DataW.weights_mem_each (j := 5) (t := 27) (d := y5.1) rfl (by rw [List.getElem?_map, g5]; rfl) k hk
end
end Go.Proofs.Shardlog
/- The end of the run: the first goroutine returns, all others only leave. -/
namespace Go.Tame
open Go.Conc
open Go.ConcN (sumTo upd sumTo_upd upd_ne upd_same)
section
variable {P : Program} {S : Prot} {In : Nat → Option Chair} {T : Trace} {gs : Array Goroutine} {w : World} {q : Nat → Nat}
theorem House.handed {t : Trace} (H : Tr (stillOf In) (nearOf In) (goneOf S) (Knows t 0) t) (hIn : ∀ j, In j = Option.none) : t.HandedOver := by
  intro i g hg h0 ⟨x, hx, hm, hc⟩
  have hx' : touchAt t i = some x := hx
  rcases H.known i x hx' hm with ⟨j, op, h1, h2, h3⟩ | ⟨_, g', ⟨c, hc', _⟩, _⟩ | ⟨_, h2, h3⟩
  · refine ⟨j, by rw [g?_of h1, h2], ?_⟩
    rcases h3 with rfl | h3
    · rw [g?_of h1, h2] at hg
      exact absurd (Option.some.inj hg).symm h0
    · exact h3
  · rw [hIn] at hc'; cases hc'
  · rcases hc with hc | hc
    · exact absurd h2 hc
    · exact absurd hc h3
/-- ████ THE RUN ENDS. ████ -/
theorem House.ends (C : House P S In 0 T gs w q) (hIn : ∀ j, In j = Option.none) {a : Goroutine} {sl : Option (Nat × Nat)} {Post : Value → World → Prop} (ha : gs[0]? = some a) (hrun : a.status = .running)
    (hend : ∀ d, ∃ v es, stepG P true a (w.at d) = .ended (.done v) (w.at d) es ∧ (∀ e ∈ es, EvGood S e) ∧ Post v (w.at d)) :
    ∃ N last o w' t', runNT P (N + 1) (crowd gs w sl) T = (.ended o w', t') ∧ runN P N (crowd gs w sl) = .next last ∧ step P last = .ended o w' ∧ Conc.Good P Post last o w' t' := by
  refine run_of_inv Nat.lt_wfRel.wf (fun μ m t => ∃ gs d sl q, m = crowd gs (w.at d) sl ∧ gs[0]? = some a ∧ House P S In 0 t gs (w.at d) q ∧ μ = sumTo gs.size q) (Conc.Good P Post) (fun μ m t h => ?_) _ _ _ ⟨gs, w.drawn, sl, q, rfl, ha, C, rfl⟩
  obtain ⟨gs, d, sl, q, rfl, ha, C, rfl⟩ := h
  obtain ⟨i, g, d', sl', hi, hg, hst⟩ := crowd_pick (P := P) (w := w.at d) (sl := sl) (C.awake ha hrun) ⟨0, a, ha, hrun⟩
  have hat : (w.at d).at d' = w.at d' := rfl
  have Cd : House P S In 0 t gs (w.at d') q := House.at C d'
  rw [hat] at hst
  by_cases e : i = 0
  · subst e
    obtain rfl : g = a := by rw [ha] at hi; exact (Option.some.inj hi).symm
    obtain ⟨v, es, h1, h2, h3⟩ := hend d'
    have hrunT := runT_many_ended (P := P) (sl := sl') (i := 0) hi (show stepG P (0 == 0) g (w.at d') = _ from h1)
    obtain ⟨g1, g2, g3⟩ := good_ops (fn := g.frame.fn) (pos := g.frame.place) Cd h2
    have H := Cd.tr.work g1 g2 (near_gone Cd.nearGone)
    refine .inl ⟨_, _, _, hst.trans hrunT, v, rfl, h3, H.clean, House.handed H hIn, ⟨fun x hx => ?_, rfl⟩, fun j x hx hj => ?_⟩
    · obtain ⟨j, hj⟩ := List.mem_iff_getElem?.1 hx
      rw [List.getElem?_drop] at hj
      have := C.waits (1 + j) x (by omega) (by simpa [crowd] using hj)
      rw [hIn] at this
      exact ⟨_, this.2.leaves⟩
    · have := C.waits j x hj hx
      rw [hIn] at this
      refine ⟨q j, ?_⟩
      have e : (t ++ MemOp.ofEvents 0 g.frame.fn g.frame.place es).deaf j (t ++ MemOp.ofEvents 0 g.frame.fn g.frame.place es).size = Deaf t j :=
        Deaf_other t (g := j) (g' := 0) (by omega) _ g1
      rw [e]
      exact this.2.hears _
  · obtain ⟨gs', ops, q', d₂, hrt, hsz, ha', C', hlt⟩ := House.by_step (sl := sl') Cd hi e hg ha hrun
    exact .inr ⟨_, _, sumTo gs'.size q', by rw [hst]; exact hrt, by rw [hsz]; exact hlt, gs', d₂, sl', q', rfl, ha', C', rfl⟩
end
end Go.Tame
/- A law's row, from its walk in the house. -/
namespace Go.Tame
open Go.Conc
/-- What was there when the call began is there still. -/
theorem Like.oldest {S : Prot} {w v : World} (h : Like S w v) (hs : S.base.heap.size ≤ w.heap.size) (hv : ∀ i, i < S.base.heap.size → v.heap[i]? = (World.tamed S.base).heap[i]?) (i : Nat) (hi : i < S.base.heap.size) : w.heap[i]? = S.base.heap[i]? := by
  have h1 := hv i hi
  rw [tamed_get, Array.getElem?_eq_getElem hi] at h1
  have hw : w.heap[i]? = Option.some (w.heap[i]'(by omega)) := Array.getElem?_eq_getElem _
  have ho := h.obj i _ _ hw h1
  rw [hw, Array.getElem?_eq_getElem hi]
  congr 1
  generalize w.heap[i]'_ = o at ho
  have hb : S.base.heap[i]? = Option.some S.base.heap[i] := Array.getElem?_eq_getElem hi
  generalize S.base.heap[i] = p at ho hb
  cases p with
  | cells c e f =>
    cases ho with
    | cells _ _ f' _ _ hq => rw [hq hi]
    | short _ _ _ _ _ _ _ _ _ hn => exact absurd hi (by omega)
    | same _ hp => exact hp.elim
  | view _ _ =>
    cases ho with
    | same _ hp => exact hp.elim
    | odd _ _ hbb => rw [hb] at hbb; exact (Option.some.inj hbb).symm
  | pending _ _ =>
    cases ho with
    | same _ hp => exact hp.elim
    | odd _ _ hbb => rw [hb] at hbb; exact (Option.some.inj hbb).symm
  | chan _ _ _ _ _ _ =>
    cases ho with
    | same _ hp => exact hp.elim
    | odd _ _ hbb => rw [hb] at hbb; exact (Option.some.inj hbb).symm
  | loop _ =>
    cases ho with
    | same _ hp => exact hp.elim
    | odd _ _ hbb => rw [hb] at hbb; exact (Option.some.inj hbb).symm
  | _ =>
    cases ho with
    | same _ hp => rfl
end Go.Tame
namespace Go.Proofs.Shardlog
open Go Go.Conc Go.ConcM Go.Tame Go.Proofs Go.ChangeShapes Go.Mem
/-- The last step of the run: the first goroutine's function returns what lies in slot 2. -/
theorem step_done {f : FuncId} {fn : Func} {A : Array Value} {k : List Item} {y : Value} (hf : Tryz.prog.funcs[f]? = some fn) (hi : Tryz.prog.inits.idxOf? f = none) (hr : fn.results = #[.tmp 2]) (hy : A.getD 2 undef = y) (w : World) :
    ∃ es, stepG Tryz.prog true (G { (base f).at ⟨A, []⟩ k with mode := .returning } []) w = .ended (.done y) w es ∧ es = _root_.Go.seen Tryz.prog f #[] := by
  have hres : (results fn A).run Tryz.prog w = .ok y w ∧ (results fn A).events Tryz.prog w #[] = #[] := by
    unfold results
    rw [hr, Array.mapM_eq_mapM_toList, map_eq_pure_bind]
    show Sem.run Tryz.prog (((do
      let __do_lift ← List.mapM _ [ResultVar.tmp 2]
      pure __do_lift.toArray) : Sem (Array Value)) >>= _) w = _ ∧ _
    simp only [List.mapM_cons, List.mapM_nil]
    rw [← hy]
    exact ⟨rfl, rfl⟩
  have : stepG Tryz.prog true (G { (base f).at ⟨A, []⟩ k with mode := .returning } []) w = GStep.after (_root_.Go.seen Tryz.prog f ((results fn A).events Tryz.prog w #[])) (match (results fn A).run Tryz.prog w with
        | .ok y x' => doReturn Tryz.prog true { (base f).at ⟨A, []⟩ k with mode := .returning } [] none y x'
        | .halt (.stuck s) x' => .ended (.stuck s (Frame.pos Tryz.prog { (base f).at ⟨A, []⟩ k with mode := .returning })) x'
        | .halt _ x' => .ended (.stuck "return: the result variables cannot be read" (Frame.pos Tryz.prog { (base f).at ⟨A, []⟩ k with mode := .returning })) x') := by
    simp only [stepG, G, Frame.at, base]
    unfold unwind
    simp only [hf, Sem.runT_eq]
    rfl
  refine ⟨_, ?_, rfl⟩
  have hd : doReturn Tryz.prog true { (base f).at ⟨A, []⟩ k with mode := .returning } [] none y w = .ended (.done y) w := by
    unfold doReturn
    show (if !true then _ else match Tryz.prog.inits.idxOf? f with | some k => _ | none => _) = _
    rw [hi]
    rfl
  rw [this, hres.1, hres.2]
  show GStep.after _ (doReturn Tryz.prog true { (base f).at ⟨A, []⟩ k with mode := .returning } [] none y w) = _
  rw [hd]
  simp [GStep.after]
section
variable {H : Type} {enc : TypeId × Value → H}
/-- The run from the call's start to its end. -/
theorem run_of_walk {f : FuncId} {fn : Func} {s y : Value} (hf : Tryz.prog.funcs[f]? = some fn) (hi : Tryz.prog.inits.idxOf? f = none) (hr : fn.results = #[.tmp 2]) (W : World)
    (walk : CW (ZZ W) [] (Frame.enter Tryz.prog f #[s] .normal) [] (Tame.World.tamed W) (EndsWith f y [] fun g' v' => Grown (Tame.World.tamed W) v' ∧ AllDead g')) :
    ∃ M last o w' t', runNT Tryz.prog (M + 1) (solo (G (Frame.enter Tryz.prog f #[s] .normal) []) W) #[] = (.ended o w', t') ∧ runN Tryz.prog M (solo (G (Frame.enter Tryz.prog f #[s] .normal) []) W) = .next last ∧
      step Tryz.prog last = .ended o w' ∧ Conc.Good Tryz.prog (fun v w' => v = y ∧ w'.os = W.os ∧ w'.output = W.output ∧ W.heap.size ≤ w'.heap.size ∧ ∀ i, i < W.heap.size → w'.heap[i]? = W.heap[i]?) last o w' t' := by
  have hl : Like (protOf W []) W (Tame.World.tamed W) := like_tamed W rfl (fun a h => by obtain ⟨r, h, _⟩ := h; cases h) (fun a h => by obtain ⟨r, h, _⟩ := h; cases h)
  have hh : House Tryz.prog (protOf W []) (fun _ => none) 0 #[] #[G (Frame.enter Tryz.prog f #[s] .normal) []] W (fun _ => 0) := house_alone _ W fun a h => by obtain ⟨r, h, _⟩ := h; cases h
  have hj : Held [] W (fun _ => none) := ⟨(fun j c h => by cases h), (fun r h => by cases h), (fun r h => by cases h), (fun r h => by cases h), (fun r h => by cases h)⟩
  obtain ⟨N, gs', g', fr', cs', w', v', sl', T', q', In', h1, h2, ⟨rfl, A, k, rfl, hy, hG, hdead⟩, h4, h5, h6⟩ := walk W hl (fun _ => none) #[] _ (fun _ => 0) none hh hj rfl
  have hIn : ∀ j, In' j = none := fun j => by
    cases e : In' j with
    | none => rfl
    | some c =>
      obtain ⟨r, hr', hlv, _⟩ := h6.who j c e
      rw [hdead r hr'] at hlv
      cases hlv
  have hsz : (Tame.World.tamed W).heap.size = W.heap.size := by simp [Tame.World.tamed]
  have hend : ∀ d, ∃ v es, stepG Tryz.prog true (G { (base f).at ⟨A, []⟩ k with mode := .returning } []) (w'.at d) = .ended (.done v) (w'.at d) es ∧ (∀ e ∈ es, EvGood ((ZZ W).S g') e) ∧ (fun v w' => v = y ∧ w'.os = W.os ∧ w'.output = W.output ∧ W.heap.size ≤ w'.heap.size ∧ ∀ i, i < W.heap.size → w'.heap[i]? = W.heap[i]?) v (w'.at d) := fun d => by
    obtain ⟨es, e1, e2⟩ := step_done (k := k) hf hi hr hy (w'.at d)
    refine ⟨y, es, e1, fun e he => ?_, rfl, ?_, h4.out, ?_, fun i hi => ?_⟩
    · rw [e2] at he
      have := Go.Conc.mem_seen he
      simp at this
    · show w'.os = W.os
      rw [← h4.os, hG.os]
      rfl
    · have := hG.size
      have := h4.size
      show W.heap.size ≤ w'.heap.size
      omega
    · have hs := hG.size
      have hs2 := h4.size
      exact h4.oldest (show W.heap.size ≤ w'.heap.size by omega) (fun i hi => hG.heap i (by rw [hsz]; exact hi)) i hi
  obtain ⟨M, last, o, w2, t2, k1, k2, k3, k4⟩ := House.ends (Post := fun v w' => v = y ∧ w'.os = W.os ∧ w'.output = W.output ∧ W.heap.size ≤ w'.heap.size ∧ ∀ i, i < W.heap.size → w'.heap[i]? = W.heap[i]?) h5 hIn (sl := sl') h2 rfl hend
  refine ⟨N + M, last, o, w2, t2, ?_, ?_, k3, k4⟩
  · rw [show N + M + 1 = N + (M + 1) by omega, runNT_add]
    have h1' : runNT Tryz.prog N (solo (G (Frame.enter Tryz.prog f #[s] .normal) []) W) #[] = (.next (crowd gs' w' sl'), T') := h1
    rw [h1']
    exact k1
  · have h1' : runNT Tryz.prog N (solo (G (Frame.enter Tryz.prog f #[s] .normal) []) W) #[] = (.next (crowd gs' w' sl'), T') := h1
    have h1n : runN Tryz.prog N (solo (G (Frame.enter Tryz.prog f #[s] .normal) []) W) = .next (crowd gs' w' sl') := by rw [← runNT_fst _ _ _ #[], h1']
    rw [runN_add, h1n]
    exact k2
theorem runs_true {f : FuncId} {fn : Func} {spec : ChangeSpec} {apart fresh handsOn : Bool} (hf : Tryz.prog.funcs[f]? = some fn) (hi : Tryz.prog.inits.idxOf? f = none) (hp : fn.params = #[22]) (hrt : fn.resultTypes = #[4]) (hr : fn.results = #[.tmp 2]) (hv : spec.vars = []) (hfn : ∀ d : DataW H, spec.fn H [d] = { results := [.lit (.bool true)], args := [d] })
    (walk : ∀ (W : World) (s : Value) (N : Nat) (E : Nat → Addr), N ≤ 2199023255552 → Script (Tame.World.tamed W) s N → Errs (Tame.World.tamed W) (fun _ => still) E → CW (ZZ W) [] (Frame.enter Tryz.prog f #[s] .normal) [] (Tame.World.tamed W) (EndsWith f (.bool true) [] fun g' v' => Grown (Tame.World.tamed W) v' ∧ AllDead g'))
    {W : World} {b0 : Nat} {args : Array Value} {ds gs : List (DataW H)} {before : List MemPlace} (hval : ∀ (j : Nat) t v, fn.params[j]? = some t → args[j]? = some v → Value.okWide Tryz.prog W .any b0 t v)
    (hw : DataW.Whole enc Tryz.prog fn.params.toList spec.vars apart W args.toList ds gs before) (hz : (DataW.weightsEach Tryz.prog (fn.params.toList ++ spec.plain.varTypes Tryz.prog) (ds ++ gs)).all (· ≤ reachBytes) = true)
    (hL : laidMetH Tryz.prog (("errors.errorType", YtblcigmggdiccaaGreatDoor.Rows.laid_errors_errorType) :: sents) W) :
    ∃ M last o w' t', runNT Tryz.prog (M + 1) (solo (G (Frame.enter Tryz.prog f args .normal) []) W) #[] = (.ended o w', t') ∧ runN Tryz.prog M (solo (G (Frame.enter Tryz.prog f args .normal) []) W) = .next last ∧
      step Tryz.prog last = .ended o w' ∧ Conc.Good Tryz.prog (fun v W' => spec.post enc Tryz.prog fn apart fresh handsOn false W args v { W' with os := W.os } ∧ OsLater W.os W'.os) last o w' t' := by
  have hW' := hw
  obtain ⟨p, q, hA0, hV0, rfl, hfz, hnd⟩ := hw
  have hA : DataW.TrodAll enc Tryz.prog W 0 (fun _ => true) true fn.params.toList args.toList ds p := hA0
  have hV : DataW.TrodVars enc Tryz.prog W (fun _ => true) spec.vars gs q := hV0
  rw [hp] at hA hval
  rw [hv] at hV
  obtain ⟨s, d, rfl, rfl, h0⟩ := trodAll_one hA
  obtain ⟨rfl, rfl⟩ : gs = [] ∧ q = [] := by
    cases gs with
    | nil => exact ⟨rfl, hV⟩
    | cons g r => exact absurd hV (by intro h; cases h)
  obtain ⟨N, hN, hS⟩ := script_of (hval 0 22 s rfl rfl) h0 (fun n hn => by
    have := List.all_eq_true.1 hz n (by
      rw [hp]
      exact DataW.weights_mem_each (j := 0) (t := 22) (d := d) rfl rfl n hn)
    simpa using this)
  obtain ⟨E, hE⟩ := errs_of_laid hL
  have hS' : Script (Tame.World.tamed W) s N := by
    unfold Script OpsAt at hS ⊢
    simp only [tamed_cell]
    refine hS.imp id ?_
    rintro ⟨b, off, cap, e, h⟩
    refine ⟨b, off, cap, e, fun i hi => ?_⟩
    obtain ⟨kd, W', A, B, C, sl, k0, k1, k2, k3, k4, k5, r0, r1, r2, r3, r4, n, o, hn, ho⟩ := h i hi
    refine ⟨kd, W', A, B, C, sl, k0, k1, k2, k3, k4, k5, r0, r1, r2, r3, r4, n, o, hn, ho.imp id ?_⟩
    rintro ⟨g, f, cap, e, hr⟩
    exact ⟨g, f, cap, e, fun i hi => by rw [tamed_cell]; exact hr.wr i hi, fun i hi => by rw [tamed_cell]; exact hr.key i hi, fun i hi => by rw [tamed_cell]; exact hr.val i hi⟩
  obtain ⟨M, last, o, w', t', k1, k2, k3, v, e, ⟨rfl, hos, hout, hsz, hheap⟩, r1, r2, r3, r4⟩ := run_of_walk hf hi hr W (walk W s N E hN hS' hE)
  have e1 : spec.fn H ([d] ++ []) = { results := [.lit (.bool true)], args := [d] } := hfn d
  refine ⟨M, last, o, w', t', k1, k2, k3, _, e, ⟨?_, by rw [hos]; exact OsLater.refl _⟩, r1, r2, r3, r4⟩
  have hb : RowKit.Below W.heap.size W { w' with os := W.os, tape := W.tape } := ⟨rfl, rfl, hout, hsz, hheap⟩
  have hk : W.keptBut { w' with os := W.os } (fun p_1 => p_1 ∈ p ++ [] ∧ (p_1 ∈ ([] : List MemPlace) ∨ p_1 ∈ p ∨ p_1 ∈ ([] : List MemPlace))) := by
    have := RowKit.Below.frame hb (fun p_1 => p_1 ∈ p ++ [] ∧ (p_1 ∈ ([] : List MemPlace) ∨ p_1 ∈ p ∨ p_1 ∈ ([] : List MemPlace)))
    exact this
  have hlt : ∀ x ∈ p, x.block < W.heap.size := fun x hx => hW'.lt x (by simpa using hx)
  refine ⟨[d], [], p ++ [], [], p, [], hW', ?_, ?_, ?_, hk, fun h => by cases h⟩
  · rw [hrt, e1]
    exact trodAll_mk1 (RowKit.shut_bool Tryz.underlying4 true)
  · rw [hp, e1]
    have := RowKit.Below.trod (by kernel_rfl) (by kernel_rfl) (of_decide_eq_true (by kernel_rfl)) h0 hb hlt
    exact trodAll_mk1 (DataW.Trod.of_heap (by rfl) this)
  · rw [hv, e1]
    rfl
end
end Go.Proofs.Shardlog
