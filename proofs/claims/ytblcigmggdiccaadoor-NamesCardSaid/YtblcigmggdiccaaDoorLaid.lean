/- What a list of listed sentinels gives: for any number of error variables laid one behind the other: each variable's cell, each pointee's block, and that the pointers differ. Over whatever program. -/
import Derived.ChangeSame
import Derived.LaidLaws
namespace Go.Proofs.YtblcigmggdiccaaDoor.Laid
open Go Go.ChangeShapes

/-- A variable's datum: an error as errors.New makes it. -/
def IsErr (d : DataW Unit) : Prop := ∃ text, d = .iface "*errors.errorString" (.ptr (.agg [.lit (.string text)]))

theorem row_one (a : Addr) : MemPlace.row a 1 = [.cell a.block a.off] := rfl

section
variable {P : Program} {ti tp te ts : TypeId} {ms : Array (String × TypeId)} {f : Field}

/-- The pointers of the listed errors, the first of which is package-level variable number n. -/
theorem sentinels (hi : P.underlying ti = some (.interface ms)) (hrow : ∀ u, P.typeName? 3 u = some "*errors.errorString" → u = tp)
    (hp : P.underlying tp = some (.pointer te)) (he : P.underlying te = some (.struct #[f])) (hft : f.type = ts) (hfo : f.offset = 0) (hs : P.underlying ts = some .string) (hc : P.cellsOf te = 1) (hcs : P.cellsOf ts = 1)
    {W : World} (l : List (String × DataW Unit)) : ∀ (n : Nat) (ps : List MemPlace),
    (∀ j x, l[j]? = some x → IsErr x.2 ∧ P.globalNamed x.1 = some (n + j) ∧ (P.globals[n + j]?).map (·.type) = some ti) →
    DataW.LaidVars P W l ps →
    (∀ b off, MemPlace.cell b off ∈ ps → ∀ u v, W.cell? ⟨b, off, none⟩ = some (.iface u v) → Value.okWide P W .any 0 u v) →
    ∃ as : List Addr, as.length = l.length ∧ (∀ j a, as[j]? = some a → W.cell? ⟨n + j, 0, none⟩ = some (.iface tp (.pointer (some a)))) ∧ (as.map fun a => MemPlace.cell a.block a.off).Sublist ps := by
  induction l with
  | nil => exact fun n ps _ hl _ => ⟨[], rfl, fun j a h => by simp at h, by simp⟩
  | cons x r ih =>
    intro n ps hx hl hok
    obtain ⟨name, d⟩ := x
    obtain ⟨g, t, cs, fuel, p, q, hg, ht, hv, hd, hr, rfl⟩ := hl
    obtain ⟨⟨text, hd'⟩, hgn, htn⟩ := hx 0 _ rfl
    simp only [Nat.add_zero] at hd' hgn htn
    subst hd'
    have hgn' : g = n := Option.some.inj (hg.symm.trans hgn)
    subst hgn'
    obtain rfl := Option.some.inj (ht.symm.trans htn)
    obtain ⟨lcs⟩ := cs
    have ok0 : ∀ u v, lcs = [.iface u v] → Value.okWide P W .any 0 u v := fun u v e => by
      subst e
      exact hok g 0 (by simp [MemPlace.row]) u v (by simpa using World.var?_cell hg hv 0)
    obtain ⟨a, s, rfl, _, _, _, rfl⟩ := errorString_of_trod hi hrow hp he hft hfo hs hc hcs hd ok0
    obtain ⟨as, hlen, hcell, hsub⟩ := ih (g + 1) q
      (fun j y hy => by
        have := hx (j + 1) y (by simpa using hy)
        rw [show g + (j + 1) = g + 1 + j from by omega] at this
        exact this)
      hr (fun b off hm => hok b off (by simp [hm]))
    refine ⟨a :: as, by simp [hlen], fun j b hb => ?_, ?_⟩
    · rcases j with _ | j
      · obtain rfl : a = b := by simpa using hb
        simpa using World.var?_cell hg hv 0
      · have := hcell j b (by simpa using hb)
        rw [show g + (j + 1) = g + 1 + j from by omega]
        exact this
    · rw [row_one, List.append_assoc]
      refine List.Sublist.trans ?_ (List.sublist_append_right _ _)
      simpa using hsub

/-- .. so they are different ones, each in a block of its own kind. -/
theorem sentinels_apart {as : List Addr} {ps : List MemPlace} (hnd : ps.Nodup) (hsub : (as.map fun a => MemPlace.cell a.block a.off).Sublist ps) {i k : Nat} {a b : Addr} (ha : as[i]? = some a) (hb : as[k]? = some b) (hne : i ≠ k) : a ≠ b := by
  have h := hnd.sublist hsub
  rintro rfl
  have e : ∀ i, as[i]? = some a → ∃ h : i < (as.map fun a => MemPlace.cell a.block a.off).length, (as.map fun a => MemPlace.cell a.block a.off)[i] = MemPlace.cell a.block a.off := fun i ha => by
    have hi : i < (as.map fun a => MemPlace.cell a.block a.off).length := by
      rw [List.length_map]; exact (List.getElem?_eq_some_iff.1 ha).1
    refine ⟨hi, ?_⟩
    have e1 : (as.map fun a => MemPlace.cell a.block a.off)[i]? = some (MemPlace.cell a.block a.off) := by rw [List.getElem?_map, ha]; rfl
    rw [List.getElem?_eq_getElem hi] at e1
    exact Option.some.inj e1
  obtain ⟨hi, ei⟩ := e i ha
  obtain ⟨hk, ek⟩ := e k hb
  have hp := List.pairwise_iff_getElem.1 h
  rcases Nat.lt_or_gt_of_ne hne with hlt | hlt
  · exact hp i k hi hk hlt (ei.trans ek.symm)
  · exact hp k i hk hi hlt (ek.trans ei.symm)
end
end Go.Proofs.YtblcigmggdiccaaDoor.Laid
