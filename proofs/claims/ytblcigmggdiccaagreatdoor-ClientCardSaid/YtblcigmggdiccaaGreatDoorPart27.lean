/- Client: a start that meets the conditions. -/
import Derived.Test.YtblcigmggdiccaaGreatDoorPart26
set_option linter.unusedSectionVars false
set_option linter.unusedSimpArgs false
set_option linter.unusedVariables false
set_option maxRecDepth 100000
namespace Go.Proofs.YtblcigmggdiccaaGreatDoor
open Go Go.Conc Go.ConcM Go.Tame Go.Proofs Go.ChangeShapes Go.Mem Go.Proofs.Shardlog
section
theorem client_met (os:Os)(args:Array Value):laidMetH Tryz.prog Rows.clientRow.laid ((World.doorLaid Tryz.prog 187 os).forCall (fun _ _=>0) ⟨#[],args,[]⟩).memory:=
  laidMetH_of_parts3 (fuel:=8) (laidMet_of_run' 8 (by kernel_rfl) (by kernel_rfl)) (by kernel_rfl) (by kernel_rfl)
theorem client_witness (os:Os)(H:Type)(enc:TypeId × Value->H):∃ (w:World) (tape:Tape) (i:Input),w.os=os/\(w.forCall tape i).Shaped Tryz.prog/\i.vars = []/\Input.okWide Tryz.prog (w.forCall tape i) .any w.heap.size 4 i /\
      ((Rows.clientSpec.pre enc Tryz.prog Tryz.f4 [] false (w.forCall tape i).memory i.args/\laidMetH Tryz.prog Rows.clientRow.laid (w.forCall tape i).memory)/\sizedMet enc Tryz.prog Tryz.f4 (OpenSpec.ofChange Rows.clientSpec) false (w.forCall tape i).memory i.args)/\({ calm:=true }:Assume).holds Tryz.prog (lone (Frame.enter Tryz.prog 4 i.args .normal) [] (w.forCall tape i)):=by
  have hok:Input.okWideB Tryz.prog ((World.doorLaid Tryz.prog 187 os).forCall (fun _ _=>0) ⟨#[],#[.slice none 0 0],[]⟩) 4 ⟨#[],#[.slice none 0 0],[]⟩=true:=by kernel_rfl
  refine ⟨World.doorLaid Tryz.prog 187 os,fun _ _=>0,⟨#[],#[.slice none 0 0],[]⟩,rfl,World.shaped_of_RefB (by kernel_rfl) (by kernel_rfl),(Input.okWide_of_okWideB (base:=0) hok).1,(Input.okWide_of_okWideB hok).2,⟨⟨ChangeSpec.pre_of_preB (fuel:=8) (by kernel_rfl),client_met os _⟩,sizedMet_of_sizedB (fuel:=8) (by kernel_rfl)⟩,?_⟩
  simp only [Assume.holds]
  exact ⟨by simp,fun _ _ _ _=>rfl,by simp,by simp,by simp⟩
end
end Go.Proofs.YtblcigmggdiccaaGreatDoor
