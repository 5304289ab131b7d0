/- The last shard, where the first goroutine waits: it wakes that, and leaves. -/
import Derived.Test.YtblcigmggdiccaaGreatDoorPart02
set_option linter.unusedSectionVars false
set_option linter.unusedSimpArgs false
set_option linter.unusedVariables false
namespace Go.Proofs.Shardlog
open Go.Conc Go.Tame
section
section
variable (cb sb c s D W:Nat)(w0 w1:Nat->World)(w2:Nat->Nat->World)(w3 w4 w5 w6 w7 w8 w9 w10:Nat->World)
noncomputable def x1:Goroutine:=fin Tryz.prog false 103 (l4 cb sb c s D W w0 w1 w2 w3 w4 w5 w6 w7 1) w8
noncomputable def x2:Goroutine:=putOf (x1 cb sb c s D W w0 w1 w2 w3 w4 w5 w6 w7 w8) (.int .u64 1)
noncomputable def x3:Goroutine:=fin Tryz.prog false 20 (x2 cb sb c s D W w0 w1 w2 w3 w4 w5 w6 w7 w8) w9
noncomputable def x4:Goroutine:=putOf (x3 cb sb c s D W w0 w1 w2 w3 w4 w5 w6 w7 w8 w9) (.tuple #[])
noncomputable def x5:Goroutine:=fin Tryz.prog false 27 (x4 cb sb c s D W w0 w1 w2 w3 w4 w5 w6 w7 w8 w9) w10
noncomputable def x6:Goroutine:=putOf (x5 cb sb c s D W w0 w1 w2 w3 w4 w5 w6 w7 w8 w9 w10) (.tuple #[])
end
set_option maxRecDepth 100000
section
variable {cb sb c s D W:Nat}{w0 w1:Nat->World}{w2:Nat->Nat->World}{w3 w4 w5 w6 w7 w8 w9 w10:Nat->World}{K:World->Prop}{Stop:Nat->Goroutine->Prop}
theorem wake1 (h:∀ w8,Stop 1 (x1 cb sb c s D W w0 w1 w2 w3 w4 w5 w6 w7 w8)):WayD Tryz.prog false K (fun e=>e.mute=true) Stop 103 1 (l4 cb sb c s D W w0 w1 w2 w3 w4 w5 w6 w7 1):=
  WayD.seg (p:=Event.mute) (n:=103) (m:=0) (d':=1) (fun _ he=>he) (fun ws=>by kernel_rfl) fun w8=>h w8
theorem Tryz.ext92:Ext Tryz.prog 92 Tryz.f92 (Extern.Atomic.loadT (.int .u64)):=⟨Tryz.func92,by kernel_rfl,by kernel_rfl,by kernel_rfl,by kernel_rfl⟩
theorem Tryz.ext117:Ext Tryz.prog 117 Tryz.f117 Extern.Atomic.storeT:=⟨Tryz.func117,by kernel_rfl,by kernel_rfl,by kernel_rfl,by kernel_rfl⟩
theorem Tryz.ext78:Ext Tryz.prog 78 Tryz.f78 Extern.Sync.semrelease:=⟨Tryz.func78,by kernel_rfl,by kernel_rfl,by kernel_rfl,by kernel_rfl⟩
theorem wake2 {w:World}(hc:w.cell? ⟨c,6,none⟩=some (.int .u64 1)):stepG Tryz.prog false (x1 cb sb c s D W w0 w1 w2 w3 w4 w5 w6 w7 w8) w=.go (x2 cb sb c s D W w0 w1 w2 w3 w4 w5 w6 w7 w8) w #[⟨.cell ⟨c,6,none⟩,false,true⟩]:=by
  have h:AtOp (x1 cb sb c s D W w0 w1 w2 w3 w4 w5 w6 w7 w8) (.call { callee:=.value (.func 92),args:=#[.tmp 5],argTypes:=#[187] }):=⟨by kernel_rfl,by kernel_rfl,by kernel_rfl,by kernel_rfl,by kernel_rfl⟩
  exact h.loadA Tryz.ext92 (by kernel_rfl) hc
theorem wake3 (h:∀ w9,Stop 1 (x3 cb sb c s D W w0 w1 w2 w3 w4 w5 w6 w7 w8 w9)):WayD Tryz.prog false K (fun e=>e.mute=true) Stop 20 1 (x2 cb sb c s D W w0 w1 w2 w3 w4 w5 w6 w7 w8):=
  WayD.seg (p:=Event.mute) (n:=20) (m:=0) (d':=1) (fun _ he=>he) (fun ws=>by kernel_rfl) fun w9=>h w9
theorem wake4 {w:World}{u:Value}(hc:w.cell? ⟨c,6,none⟩=some u)(hz:w.frozen? ⟨c,6,none⟩=false):stepG Tryz.prog false (x3 cb sb c s D W w0 w1 w2 w3 w4 w5 w6 w7 w8 w9) w=.go (x4 cb sb c s D W w0 w1 w2 w3 w4 w5 w6 w7 w8 w9) (w.setCell ⟨c,6,none⟩ (.int .u64 0)) #[⟨.cell ⟨c,6,none⟩,true,true⟩]:=by
  have h:AtOp (x3 cb sb c s D W w0 w1 w2 w3 w4 w5 w6 w7 w8 w9) (.call { callee:=.value (.func 117),args:=#[.tmp 6,.tmp 7],argTypes:=#[187,88] }):=⟨by kernel_rfl,by kernel_rfl,by kernel_rfl,by kernel_rfl,by kernel_rfl⟩
  exact h.storeA Tryz.ext117 (by kernel_rfl) (by kernel_rfl) hc hz
theorem wake5 (h:∀ w10,Stop 1 (x5 cb sb c s D W w0 w1 w2 w3 w4 w5 w6 w7 w8 w9 w10)):WayD Tryz.prog false K (fun e=>e.mute=true) Stop 27 1 (x4 cb sb c s D W w0 w1 w2 w3 w4 w5 w6 w7 w8 w9):=
  WayD.seg (p:=Event.mute) (n:=27) (m:=0) (d':=1) (fun _ he=>he) (fun ws=>by kernel_rfl) fun w10=>h w10
theorem wake6 {w:World}{n:Int}(hc:w.cell? ⟨c,7,none⟩=some (.int .u32 n))(hz:w.frozen? ⟨c,7,none⟩=false):stepG Tryz.prog false (x5 cb sb c s D W w0 w1 w2 w3 w4 w5 w6 w7 w8 w9 w10) w=.go (x6 cb sb c s D W w0 w1 w2 w3 w4 w5 w6 w7 w8 w9 w10) (w.setCell ⟨c,7,none⟩ (.int .u32 (IntKind.u32.wrap (n+1)))) (semEvents ⟨c,7,none⟩):=by
  have h:AtOp (x5 cb sb c s D W w0 w1 w2 w3 w4 w5 w6 w7 w8 w9 w10) (.call { callee:=.value (.func 78),args:=#[.tmp 115,.const (.bool false),.const (.int .i64 0)],argTypes:=#[131,4,3] }):=⟨by kernel_rfl,by kernel_rfl,by kernel_rfl,by kernel_rfl,by kernel_rfl⟩
  exact h.semrelease Tryz.ext78 (by kernel_rfl) hc hz
theorem wake7 (w:World):frees Tryz.prog 24 1 (x6 cb sb c s D W w0 w1 w2 w3 w4 w5 w6 w7 w8 w9 w10) w=true:=by kernel_rfl
end
end
end Go.Proofs.Shardlog
