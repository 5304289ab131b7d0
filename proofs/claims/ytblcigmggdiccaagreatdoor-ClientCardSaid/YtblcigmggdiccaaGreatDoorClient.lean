/- For every start in which the package's errors hold what their initialisers lay: on every schedule Client returns true for every script, without a data race, the script reads as it did, and at the return all other goroutines have ended or only leave; the card ties that condition to the program's text. (Calm: where two meet at a mutex the clock may be asked; the form's own reach.) -/
import Derived.Test.YtblcigmggdiccaaGreatDoorCards
import Derived.Test.YtblcigmggdiccaaGreatDoorTie
import Derived.Test.YtblcigmggdiccaaGreatDoorPart25
import Derived.Test.YtblcigmggdiccaaGreatDoorPart27
import Derived.Test.YtblcigmggdiccaaGreatDoorPart32
set_option linter.unusedSectionVars false
set_option linter.unusedSimpArgs false
set_option linter.unusedVariables false
set_option maxRecDepth 100000
namespace Go.Proofs.YtblcigmggdiccaaGreatDoor
open Go Go.Conc Go.ConcM Go.Tame Go.Proofs Go.ChangeShapes Go.Mem Go.Proofs.Shardlog
section
theorem client_lifted (os:Os)(started:os.Started)(H:Type)(enc:TypeId × Value->H)(F:Stop.Interp) :
    ReturnsInLeavingWide { calm:=true } Tryz.checked os 4 .any (fun w args=>(Rows.clientSpec.pre enc Tryz.prog Tryz.f4 [] false w args/\laidMetH Tryz.prog Rows.clientRow.laid w)/\sizedMet enc Tryz.prog Tryz.f4 (OpenSpec.ofChange Rows.clientSpec) false w args)
      ((OpenSpec.ofChange Rows.clientSpec).postWith enc Tryz.prog Tryz.f4 F (outsideKept [.timePasses]) false true false):=by
  refine returnsInLeavingWide_of_good (C:=Tryz.checked) Tryz.own started (client_witness os H enc) ?_
  intro w tape i _ _ _ hok hpre _
  obtain ⟨_,_,_,fn',hfn',_,_,_,_,hval⟩:=hok
  obtain rfl:fn'=Tryz.f4:=Option.some.inj (hfn'.symm.trans Tryz.func4)
  obtain ⟨⟨⟨ds,gs,before,hw,_⟩,hL⟩,hz⟩:=hpre
  have hw':=DataW.Whole.of_heap (w':=w.forCall tape i) (by rfl) hw
  have hL':laidMetH Tryz.prog Rows.clientRow.laid (w.forCall tape i):=laidMetH.of_heap (by rfl) hL
  obtain ⟨M,last,o,w',t',h1,h2,h3,v,e,hp,r1,r2,r3,r4⟩:=runs_true (fn:=Tryz.f4) (spec:=Rows.clientSpec) (apart:=false) (fresh:=true) (handsOn:=false) Tryz.func4 (by kernel_rfl) Tryz.params4 (by kernel_rfl) (by kernel_rfl) rfl (fun _=>rfl)
    (fun W s N E hN hS hE=>zz_client (by simp [Tame.World.tamed]) (fun r h=>by cases h) (fun r h=>by cases h) hE hS hN) hval hw' (hz.weights hw) hL'
  exact ⟨M,last,o,w',t',h1,h2,h3,v,e,postWith_blind (postWith_of_post hp.1 hp.2),r1,r2,r3,r4⟩
theorem client_row:Rows.ClientSaid:=
  OpenClaim.holds_of_wide_leaving_time 4 Tryz.f4 rfl rfl rfl rfl rfl rfl rfl ⟨rfl,rfl,rfl,rfl,rfl⟩ rfl rfl rfl rfl rfl (by kernel_rfl) Tryz.func4 client_closed
    (of_decide_eq_true (by kernel_rfl)) (by unfold Func.isWrapper;first|(rw [if_pos (by decide +kernel)];kernel_rfl)|(rw [if_neg (by decide +kernel)];exact ⟨rfl,rfl⟩))
    (fun os started H enc _ F=>client_lifted os started H enc F)
theorem client_holds:Rows.ClientCardSaid:=by
  have h6:∀ r:OpenClaim,Claim7.isSixth { stood:={ row:=r,standIns:=[],harness:=(true, "e98d76e80e41348f767178e6ed1f44dd42649946274b32376059da1dd77b8d86"),looks:=true },kinds:=[] }=false:=fun r=>by
    simp [Claim7.isSixth]
  refine ⟨Claim7.tied_new_at .later [.handle,.sentinel,.sentinel,.sentinel,.sentinel,.sentinel,.sentinel,.sentinel,.sentinel,.sentinel] true (Claim7.new_of_sixth client_row (true, "e98d76e80e41348f767178e6ed1f44dd42649946274b32376059da1dd77b8d86") true rfl ⟨rfl,rfl⟩ (by kernel_rfl) (h6 Rows.clientRow) ?_) (by kernel_rfl),fun D hD=>(by cases hD),client_row_tie,(fun h=>by cases h),by kernel_rfl⟩
  intro f fn hf hfn
  obtain rfl:f=4:=Option.some.inj ((show Tryz.prog.funcNamed "shardlog/shardloglaw.Client" = some 4 by kernel_rfl).symm.trans hf) |>.symm
  obtain rfl:fn=Tryz.f4:=(Option.some.inj (Tryz.func4.symm.trans hfn)).symm
  exact ⟨by kernel_rfl,fun j t ht=>by
    rw [Tryz.params4] at ht
    have h3:t=22:=by
      rcases j with _|j
      · simpa using ht.symm
      · simp at ht
    subst h3
    exact (show Tryz.prog.wantsStandIn 22=false by kernel_rfl)⟩
#print axioms client_holds
end
end Go.Proofs.YtblcigmggdiccaaGreatDoor
