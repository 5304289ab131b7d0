/- For every start in which the nine error variables hold what their initialisers lay: Names returns true; the card ties that condition to the program's text. -/
import Derived.Test.YtblcigmggdiccaaDoorRows
import Derived.Test.YtblcigmggdiccaaDoorCards
import Derived.Test.YtblcigmggdiccaaDoorTie
import Derived.Test.YtblcigmggdiccaaDoorLaid
import Derived.Test.YtblcigmggdiccaaDoorWalks
import Derived.ProofKit
import Derived.LaidMore
import Derived.Stop.Joined
import Derived.SevenTiedAt
namespace Go.Proofs.YtblcigmggdiccaaDoor
open Go.ChangeShapes Go.WideShapes Go.ChangeAt Go.RowKit

theorem Tryd.own : ownKnob Tryd.prog.godebug = none := by kernel_rfl
theorem Tryd.cells45 : Tryd.prog.cellsOf 45 = 1 := by kernel_rfl
theorem Tryd.cells9 : Tryd.prog.cellsOf 9 = 1 := by kernel_rfl
theorem Tryd.star : "*" ++ "errors.errorString" = "*errors.errorString" := by decide
theorem Tryd.row27 (u : TypeId) (h : Tryd.prog.typeName? 3 u = some "*errors.errorString") : u = 27 :=
  typeName_ptr_named (nm := "errors.errorString") (by rw [Tryd.star]; kernel_rfl) (by kernel_rfl) (by decide) u (by rw [Tryd.star]; exact h)

theorem Tryd.named : ((List.range 9).all fun j => ((Rows.namesRow.laid[j]?).bind fun x => Tryd.prog.globalNamed x.1) == some j && (Tryd.prog.globals[j]?).map (·.type) == some 26) = true := by kernel_rfl

theorem nine_of_laid {W : World} (h : laidMet Tryd.prog Rows.namesRow.laid W) : ∃ A, Nine A W := by
  obtain ⟨ps, hl, hnd, hrows⟩ := h
  obtain ⟨la, hlen, hcell, hsub⟩ := Laid.sentinels Tryd.underlying26 Tryd.row27 Tryd.underlying27 Tryd.underlying45 rfl rfl Tryd.underlying9 Tryd.cells45 Tryd.cells9 Rows.namesRow.laid 0 ps
    (fun j x hx => by
      have hj : j < 9 := (List.getElem?_eq_some_iff.1 hx).1
      have hn := List.all_eq_true.1 Tryd.named j (List.mem_range.2 hj)
      rw [hx] at hn
      simp only [Option.bind_some, Bool.and_eq_true, beq_iff_eq] at hn
      refine ⟨?_, by rw [Nat.zero_add]; exact hn.1, by rw [Nat.zero_add]; exact hn.2⟩
      match j, hj with
      | 0, _ | 1, _ | 2, _ | 3, _ | 4, _ | 5, _ | 6, _ | 7, _ | 8, _ => exact ⟨_, (congrArg Prod.snd (Option.some.inj hx)).symm⟩)
    hl (fun b off hm => (hrows b off hm).2)
  have hlen9 : la.length = 9 := hlen
  have hget : ∀ i, i < 9 → la[i]? = some (la.getD i default) := fun i hi => by
    rw [List.getD_eq_getElem?_getD, List.getElem?_eq_getElem (by omega)]; rfl
  refine ⟨fun i => la.getD i default, ⟨fun i hi => ?_, fun i hi => ?_, fun i k hi hk hne => ?_⟩⟩
  · have := hcell i _ (hget i hi)
    rwa [Nat.zero_add] at this
  · refine (hrows _ (la.getD i default).off (hsub.subset ?_)).1
    exact List.mem_map.2 ⟨_, List.mem_of_getElem? (hget i hi), rfl⟩
  · exact Laid.sentinels_apart hnd hsub (hget i hi) (hget k hk) hne

set_option maxHeartbeats 400000 in
theorem names_calls (A : Nat → Addr) (w : World) (h : Nine A w) :
    Calls Tryd.prog 3 #[] w fun e w' => e = .returned (.bool true) ∧ w' = w.alloc (.cells (nineCells A) 26) := by
  have HA := hid (different_calls A w h)
  clear h
  go_enter Tryd.func3, Tryd.ntmps3
  go_wp2_with fail
  refine HA.out.mono ?_
  rintro e w' ⟨rfl, rfl⟩
  go_wp2
  go_ret
  exact ⟨rfl, rfl⟩

theorem door_met (os : Os) (args : Array Value) : laidMetH Tryd.prog Rows.namesRow.laid ((World.doorLaid Tryd.prog 180 os).forCall (fun _ _ => 0) ⟨#[], args, []⟩).memory :=
  laidMetH_of_parts3 (fuel := 8) (laidMet_of_run' 8 (by kernel_rfl) (by kernel_rfl)) (by kernel_rfl) (by kernel_rfl)

set_option maxRecDepth 100000 in
theorem lifted (os : Os) (started : os.Started) (H : Type) (enc : TypeId × Value → H) :
    ReturnsInHanded {} Tryd.checked os 3 .any (fun w args => (Rows.namesSpec.pre enc Tryd.prog Tryd.f3 [] false w args ∧ laidMetH Tryd.prog Rows.namesRow.laid w) ∧ sizedMet enc Tryd.prog Tryd.f3 (OpenSpec.ofChange Rows.namesSpec) false w args)
      (Rows.namesSpec.post enc Tryd.prog Tryd.f3 false true false false) := by
  refine returnsInHanded_of_change_and (C := Tryd.checked) (X := fun w _ => laidMetH Tryd.prog Rows.namesRow.laid w) (fun _ _ _ hh h => h.of_heap hh) Tryd.own started (by kernel_rfl) Tryd.func3
    (ChangeSpec.witness_shaped (enc := enc) (C := Tryd.checked) (os := os) (X := fun w _ => laidMetH Tryd.prog Rows.namesRow.laid w) false (World.doorLaid Tryd.prog 180 os) #[] 8 rfl (World.shaped_of_RefB (by kernel_rfl) (by kernel_rfl)) (by kernel_rfl) (by kernel_rfl) (by kernel_rfl) (door_met os _)) ?_
  intro W base args ds gs before hval0 hW _ _ hL _
  have hW' := hW
  obtain ⟨p, q, hA0, hV, rfl, hfz, hnd⟩ := hW
  have hA : DataW.TrodAll enc Tryd.prog W 0 (fun _ => true) true Tryd.f3.params.toList args.toList ds p := hA0
  rw [Tryd.params3] at hA
  obtain ⟨largs⟩ := args
  obtain ⟨rfl, rfl, rfl⟩ : largs = [] ∧ ds = [] ∧ p = [] := by
    cases largs with
    | nil => cases ds with
      | nil => exact ⟨rfl, rfl, hA⟩
      | cons _ _ => exact absurd hA (by intro h; cases h)
    | cons _ _ => exact absurd hA (by intro h; cases h)
  obtain ⟨rfl, rfl⟩ := trodVars_none hV
  obtain ⟨A, h9⟩ := nine_of_laid (show laidMet Tryd.prog Rows.namesRow.laid W from hL)
  refine (names_calls A W h9).mono fun e W' ⟨he, hw⟩ => ?_
  subst he; subst hw
  exact ⟨_, rfl, _, _, _, [], [], [], hW', trodAll_mk1 (shut_bool Tryd.underlying4 true), rfl, rfl, World.keptBut_alloc _ _ _, fun h => by cases h⟩

theorem row_holds : Rows.NamesSaid :=
  OpenClaim.holds_of_wide 3 Tryd.f3 rfl rfl rfl rfl rfl rfl rfl ⟨rfl, rfl, rfl, rfl, rfl⟩ rfl rfl rfl rfl rfl (by kernel_rfl) Tryd.func3 (by kernel_rfl)
    (of_decide_eq_true (by kernel_rfl)) (by unfold Func.isWrapper; first | (rw [if_pos (by decide +kernel)]; kernel_rfl) | (rw [if_neg (by decide +kernel)]; exact ⟨rfl, rfl⟩))
    (fun os started H enc _ => lifted os started H enc)

theorem names_holds : Rows.NamesCardSaid :=
  Claim7.holds_tied_plain_at .later [] [.sentinel, .sentinel, .sentinel, .sentinel, .sentinel, .sentinel, .sentinel, .sentinel, .sentinel] true (true, "1c8c7b27c9957367010e7d60b073be09ffd85427c402aefafe2e77a009c7513f") true
    row_holds (fun _ h => by cases h) (by kernel_rfl) (fun _ h => by cases h) names_row_tie rfl ⟨rfl, rfl⟩ (by kernel_rfl) rfl
    (fun f fn hf hfn => by
      obtain rfl : f = 3 := Option.some.inj ((show Tryd.prog.funcNamed "shardlog/shardloglaw.Names" = some 3 by kernel_rfl).symm.trans hf) |>.symm
      obtain rfl : fn = Tryd.f3 := (Option.some.inj (Tryd.func3.symm.trans hfn)).symm
      exact ⟨by kernel_rfl, fun j t ht => by
        rw [Tryd.params3] at ht
        simp at ht⟩)
    (by kernel_rfl)
#print axioms names_holds
end Go.Proofs.YtblcigmggdiccaaDoor
