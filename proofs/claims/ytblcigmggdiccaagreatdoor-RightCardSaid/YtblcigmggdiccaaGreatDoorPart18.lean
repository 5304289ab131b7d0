/- What the listed variables lay: the package's errors, and errors.errorType. -/
import Derived.Test.YtblcigmggdiccaaGreatDoorRows
import Derived.Test.YtblcigmggdiccaaGreatDoorPart17
import Derived.ChangeSame
import Derived.LaidLaws
import Derived.LaidHandle
set_option linter.unusedSectionVars false
set_option linter.unusedSimpArgs false
set_option linter.unusedVariables false
set_option maxRecDepth 100000
namespace Go.Proofs.Shardlog
open Go Go.Conc Go.Tame Go.Proofs Go.Mem Go.ChangeShapes
/-- A variable's datum: an error as errors.New makes it. -/
def IsErr (d : DataW Unit) : Prop := ∃ text, d = .iface "*errors.errorString" (.ptr (.agg [.lit (.string text)]))
section
variable {P : Program} {ti tp te ts : TypeId} {ms : Array (String × TypeId)} {f : Field}
/-- The pointers of the listed errors, of which number j is package-level variable number G j. -/
theorem sentinels (hi : P.underlying ti = some (.interface ms)) (hrow : ∀ u, P.typeName? 3 u = some "*errors.errorString" → u = tp)
    (hp : P.underlying tp = some (.pointer te)) (he : P.underlying te = some (.struct #[f])) (hft : f.type = ts) (hfo : f.offset = 0) (hs : P.underlying ts = some .string) (hc : P.cellsOf te = 1) (hcs : P.cellsOf ts = 1)
    {W : World} (l : List (String × DataW Unit)) : ∀ (G : Nat → Nat) (ps : List MemPlace),
    (∀ j x, l[j]? = some x → IsErr x.2 ∧ P.globalNamed x.1 = some (G j) ∧ (P.globals[G j]?).map (·.type) = some ti) →
    DataW.LaidVars P W l ps →
    (∀ b off, MemPlace.cell b off ∈ ps → ∀ u v, W.cell? ⟨b, off, none⟩ = some (.iface u v) → Value.okWide P W .any 0 u v) →
    ∃ la : List Addr, la.length = l.length ∧ (∀ j a, la[j]? = some a → W.cell? ⟨G j, 0, none⟩ = some (.iface tp (.pointer (some a)))) ∧ (la.map fun a => MemPlace.cell a.block a.off).Sublist ps := by
  induction l with
  | nil => exact fun G ps _ hl _ => ⟨[], rfl, fun j a h => by simp at h, by simp⟩
  | cons x r ih =>
    intro G ps hx hl hok
    obtain ⟨name, d⟩ := x
    obtain ⟨g, t, cs, fuel, p, q, hg, ht, hv, hd, hr, rfl⟩ := hl
    obtain ⟨⟨text, hd'⟩, hgn, htn⟩ := hx 0 _ rfl
    simp only at hd' hgn htn
    subst hd'
    have hgn' : g = G 0 := Option.some.inj (hg.symm.trans hgn)
    subst hgn'
    obtain rfl := Option.some.inj (ht.symm.trans htn)
    obtain ⟨lcs⟩ := cs
    have ok0 : ∀ u v, lcs = [.iface u v] → Value.okWide P W .any 0 u v := fun u v e => by
      subst e
      exact hok (G 0) 0 (by simp [MemPlace.row]) u v (by simpa using World.var?_cell hg hv 0)
    obtain ⟨a, s, rfl, _, _, _, rfl⟩ := errorString_of_trod hi hrow hp he hft hfo hs hc hcs hd ok0
    obtain ⟨la, hlen, hcell, hsub⟩ := ih (fun j => G (j + 1)) q
      (fun j y hy => hx (j + 1) y (by simpa using hy))
      hr (fun b off hm => hok b off (by simp [hm]))
    refine ⟨a :: la, by simp [hlen], fun j b hb => ?_, ?_⟩
    · rcases j with _ | j
      · obtain rfl : a = b := by simpa using hb
        simpa using World.var?_cell hg hv 0
      · exact hcell j b (by simpa using hb)
    · rw [show MemPlace.row a 1 = [.cell a.block a.off] from rfl, List.append_assoc]
      refine List.Sublist.trans ?_ (List.sublist_append_right _ _)
      simpa using hsub
/-- .. so they are different ones. -/
theorem sentinels_apart {la : List Addr} {ps : List MemPlace} (hnd : ps.Nodup) (hsub : (la.map fun a => MemPlace.cell a.block a.off).Sublist ps) {i k : Nat} {a b : Addr} (ha : la[i]? = some a) (hb : la[k]? = some b) (hne : i ≠ k) : a ≠ b := by
  have h := hnd.sublist hsub
  rintro rfl
  have e : ∀ i, la[i]? = some a → ∃ h : i < (la.map fun a => MemPlace.cell a.block a.off).length, (la.map fun a => MemPlace.cell a.block a.off)[i] = MemPlace.cell a.block a.off := fun i ha => by
    have hi : i < (la.map fun a => MemPlace.cell a.block a.off).length := by
      rw [List.length_map]; exact (List.getElem?_eq_some_iff.1 ha).1
    refine ⟨hi, ?_⟩
    have e1 : (la.map fun a => MemPlace.cell a.block a.off)[i]? = some (MemPlace.cell a.block a.off) := by rw [List.getElem?_map, ha]; rfl
    rw [List.getElem?_eq_getElem hi] at e1
    exact Option.some.inj e1
  obtain ⟨hi, ei⟩ := e i ha
  obtain ⟨hk, ek⟩ := e k hb
  have hp := List.pairwise_iff_getElem.1 h
  rcases Nat.lt_or_gt_of_ne hne with hlt | hlt
  · exact hp i k hi hk hlt (ei.trans ek.symm)
  · exact hp k i hk hi hlt (ek.trans ei.symm)
theorem laidMetH_parts {P : Program} {laid : List (String × DataW Unit)} {W : World} (h : laidMetH P laid W) (hne : (laid.filter fun x => x.2.handleName?.isSome).isEmpty = false) :
    laidMet P (laid.filter fun x => x.2.handleName?.isNone) W ∧ handlesMet P (laid.filter fun x => x.2.handleName?.isSome) W := by
  unfold laidMetH at h
  split at h
  · rename_i e
    rw [e] at hne
    cases hne
  · rename_i e
    rw [e]
    exact h
end
open YtblcigmggdiccaaGreatDoor
theorem Tryz.own : ownKnob Tryz.prog.godebug = none := by kernel_rfl
theorem Tryz.cells406 : Tryz.prog.cellsOf 406 = 1 := by kernel_rfl
theorem Tryz.cells9 : Tryz.prog.cellsOf 9 = 1 := by kernel_rfl
theorem Tryz.star : "*" ++ "errors.errorString" = "*errors.errorString" := by decide
theorem Tryz.row384 (u : TypeId) (h : Tryz.prog.typeName? 3 u = some "*errors.errorString") : u = 384 :=
  typeName_ptr_named (nm := "errors.errorString") (by rw [Tryz.star]; kernel_rfl) (by kernel_rfl) (by decide) u (by rw [Tryz.star]; exact h)
/-- The listed errors, in the rows' order. -/
def sents : List (String × DataW Unit) := [("shardlog/cluster.ErrShape", Rows.laid_shardlog_cluster_ErrShape), ("shardlog/cluster.ErrOps", Rows.laid_shardlog_cluster_ErrOps), ("shardlog/cluster.ErrMany", Rows.laid_shardlog_cluster_ErrMany), ("shardlog/cluster.ErrTx", Rows.laid_shardlog_cluster_ErrTx), ("shardlog/cluster.ErrMessage", Rows.laid_shardlog_cluster_ErrMessage), ("shardlog/cluster.ErrShard", Rows.laid_shardlog_cluster_ErrShard), ("shardlog/cluster.ErrDown", Rows.laid_shardlog_cluster_ErrDown), ("shardlog/cluster.ErrUp", Rows.laid_shardlog_cluster_ErrUp), ("shardlog/cluster.ErrStopped", Rows.laid_shardlog_cluster_ErrStopped)]
theorem Tryz.named : ((List.range 9).all fun j => ((sents[j]?).bind fun x => Tryz.prog.globalNamed x.1) == some (ordE j) && (Tryz.prog.globals[ordE j]?).map (·.type) == some 44) = true := by kernel_rfl
theorem Tryz.et : Tryz.prog.globalNamed "errors.errorType" = some 4 := by kernel_rfl
theorem Tryz.rt : (Tryz.prog.cutTypes.find? (·.1 == "internal/reflectlite.rtype")).map (·.2) = some 199 := by kernel_rfl
theorem Tryz.oneRow : ((List.range Tryz.prog.types.size).filter fun t => Tryz.prog.rowNamed t [101, 114, 114, 111, 114]) = [44] := by kernel_rfl
def posE : Nat → Nat
  | 0 => 0 | 1 => 1 | 2 => 2 | 5 => 3 | 6 => 4 | 7 => 5 | 8 => 6 | 9 => 7 | _ => 8
theorem ord_pos {i : Nat} (hi : i < 10) (h4 : i ≠ 4) : ordE (posE i) = i := by
  rcases i with _ | _ | _ | _ | _ | _ | _ | _ | _ | _ | i <;> first | rfl | omega
theorem pos_lt (i : Nat) : posE i < 9 := by
  unfold posE
  split <;> decide
theorem lt_of_cell {W : World} {a : Addr} {x : Value} (h : W.cell? a = some x) : a.block < W.heap.size := by
  unfold World.cell? at h
  rcases Nat.lt_or_ge a.block W.heap.size with hl | hl
  · exact hl
  · rw [Array.getElem?_eq_none_iff.2 hl] at h
    simp at h
theorem errs_of_laid {W : World} (h : laidMetH Tryz.prog (("errors.errorType", Rows.laid_errors_errorType) :: sents) W) : ∃ E, Errs (Tame.World.tamed W) (fun _ => still) E := by
  obtain ⟨⟨ps, hl, hnd, hrows⟩, hh⟩ := laidMetH_parts h (by kernel_rfl)
  rw [show (("errors.errorType", Rows.laid_errors_errorType) :: sents).filter (fun x => x.2.handleName?.isNone) = sents by kernel_rfl] at hl
  obtain ⟨name, u, ty, e1, e2, e3, e4, e5⟩ := hh ("errors.errorType", Rows.laid_errors_errorType) (by rw [List.mem_filter]; exact ⟨List.mem_cons_self .., by kernel_rfl⟩)
  have en : name = [101, 114, 114, 111, 114] := (Option.some.inj e1).symm
  subst en
  obtain rfl := Option.some.inj (Tryz.rt.symm.trans e2)
  have hm : ty ∈ (List.range Tryz.prog.types.size).filter fun t => Tryz.prog.rowNamed t [101, 114, 114, 111, 114] := List.mem_filter.2 ⟨List.mem_range.2 e3, e4⟩
  rw [Tryz.oneRow] at hm
  obtain rfl := List.mem_singleton.1 hm
  have hth : typeHandle Tryz.prog 44 = .pointer (some ⟨10, 44, none⟩) := by kernel_rfl
  rw [hth] at e5
  have hty : W.cell? ⟨4, 0, none⟩ = some (.iface 199 (.agg #[.pointer (some ⟨10, 44, none⟩)])) := by simpa using World.var?_cell Tryz.et e5 0
  obtain ⟨la, hlen, hcell, hsub⟩ := sentinels Tryz.underlying44 Tryz.row384 Tryz.underlying384 Tryz.underlying406 rfl rfl Tryz.underlying9 Tryz.cells406 Tryz.cells9 sents ordE ps
    (fun j x hx => by
      have hj : j < 9 := (List.getElem?_eq_some_iff.1 hx).1
      have hn := List.all_eq_true.1 Tryz.named j (List.mem_range.2 hj)
      rw [hx] at hn
      simp only [Option.bind_some, Bool.and_eq_true, beq_iff_eq] at hn
      refine ⟨?_, hn.1, hn.2⟩
      match j, hj with
      | 0, _ | 1, _ | 2, _ | 3, _ | 4, _ | 5, _ | 6, _ | 7, _ | 8, _ => exact ⟨_, (congrArg Prod.snd (Option.some.inj hx)).symm⟩)
    hl (fun b off hm => (hrows b off hm).2)
  have hlen9 : la.length = 9 := hlen
  have hget : ∀ i, la[posE i]? = some (la.getD (posE i) default) := fun i => by
    have := pos_lt i
    rw [List.getD_eq_getElem?_getD, List.getElem?_eq_getElem (by omega)]; rfl
  have hg : ∀ i, i < 10 → i ≠ 4 → W.cell? ⟨i, 0, none⟩ = some (errV (la.getD (posE i) default)) := fun i hi h4 => by
    have := hcell (posE i) _ (hget i)
    rwa [ord_pos hi h4] at this
  have hb : ∀ i, ∃ ca ta, W.heap[(la.getD (posE i) default).block]? = some (.cells ca ta (0, 0)) := fun i =>
    (hrows _ (la.getD (posE i) default).off (hsub.subset (List.mem_map.2 ⟨_, List.mem_of_getElem? (hget i), rfl⟩))).1
  have hsz : (Tame.World.tamed W).heap.size = W.heap.size := by simp [Tame.World.tamed]
  refine ⟨fun i => la.getD (posE i) default, fun i hi h4 => ?_, fun i hi h4 => ?_, fun i hi h4 => ?_, ?_, fun i j hi hj hi4 hj4 hne => ?_, fun i hi => ⟨rfl, ?_, fun h4 => ⟨rfl, ?_⟩⟩⟩
  · rw [tamed_cell]
    exact hg i hi h4
  · obtain ⟨ca, ta, h⟩ := hb i
    unfold World.frozen?
    rw [tamed_cells h]
    simp
  · obtain ⟨ca, ta, h⟩ := hb i
    exact ⟨ca, ta, tamed_cells h⟩
  · rw [tamed_cell]
    exact hty
  · refine sentinels_apart hnd hsub (hget i) (hget j) fun e => hne ?_
    rw [← ord_pos hi hi4, ← ord_pos hj hj4, e]
  · rw [hsz]
    by_cases h4 : i = 4
    · subst h4
      exact lt_of_cell hty
    · exact lt_of_cell (hg i hi h4)
  · rw [hsz]
    obtain ⟨ca, ta, h⟩ := hb i
    exact (Array.getElem?_eq_some_iff.1 h).1
end Go.Proofs.Shardlog
