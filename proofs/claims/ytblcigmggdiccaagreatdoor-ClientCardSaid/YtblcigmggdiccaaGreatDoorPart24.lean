/- The law's part of the program: step, alone, at a question. -/
import Derived.Test.YtblcigmggdiccaaGreatDoorPart22
set_option linter.unusedSectionVars false
set_option linter.unusedSimpArgs false
set_option linter.unusedVariables false
set_option maxRecDepth 100000
namespace Go.Proofs.Shardlog
open Go Go.Conc Go.Tame Go.Proofs Go.RowKit Go.Mem
section
section
variable {w:World}{Λ:Lab}{E:Nat->Addr}{j c m Wb D on oc:Nat}{stop:Bool}{v:Value}{ps:List (Nat × Nat)}{oo:Option Addr}{K W A B C:Int}
set_option maxHeartbeats 32000000 in
theorem lone_step_ask (hK:K=4∨K=5∨K=6∨K=7∨K=8∨K=9)(hW : -9223372036854775808<=W/\W<=9223372036854775807)(h:Wd w Λ Wb v ps)(hn:0<ps.length)(hps:ps.length<=2199023255552)(hcm:ps[pkN W ps.length]? = some (c,m))
    (hask:Calls Tryz.L 69 #[.agg #[.pointer (some ⟨c,0,none⟩),.pointer (some ⟨m,0,none⟩)],.agg #[.int .i64 K,.int .i64 W,.int .i64 A,.int .i64 B,.int .i64 C,.slice oo on oc]] (stpU w ⟨K,W,A,B,C,oo,on,oc⟩ c m) (AskOut (stpU w ⟨K,W,A,B,C,oo,on,oc⟩ c m) (stpΛ w Λ) j c m D stop)) :
    Calls Tryz.L 35 #[.pointer (some ⟨Wb,0,none⟩),.agg #[.int .i64 K,.int .i64 W,.int .i64 A,.int .i64 B,.int .i64 C,.slice oo on oc]] w (StepOut w Λ j c m D stop):=by
  have hpk:=hid' (fun u:World=>lone_pick (w:=u) hW hn (by omega))
  generalize pkN W ps.length=p at *
  obtain ⟨g1,g2⟩:=pairL_get ps p _ hcm
  obtain ⟨gp,cap,rfl,_⟩:=h.row.some hn
  have x0:w.cell? ⟨Wb,0,none⟩=some (.slice (some ⟨gp,0,none⟩) ps.length cap):=h.blk.cell rfl
  have x1:w.cell? ⟨gp,p*2,none⟩=some (.pointer (some ⟨c,0,none⟩)):=h.row.cell rfl g1
  have x2:w.cell? ⟨gp,p*2+1,none⟩=some (.pointer (some ⟨m,0,none⟩)):=h.row.cell rfl g2
  have y0:(stpW w ⟨K,W,A,B,C,oo,on,oc⟩).cell? ⟨Wb,0,none⟩=some (.slice (some ⟨gp,0,none⟩) ps.length cap):=cell_alloc x0
  have y1:(stpW w ⟨K,W,A,B,C,oo,on,oc⟩).cell? ⟨gp,p*2,none⟩=some (.pointer (some ⟨c,0,none⟩)):=cell_alloc x1
  have y2:(stpW w ⟨K,W,A,B,C,oo,on,oc⟩).cell? ⟨gp,p*2+1,none⟩=some (.pointer (some ⟨m,0,none⟩)):=cell_alloc x2
  have hp:p<ps.length:=(List.getElem?_eq_some_iff.1 hcm).1
  have hD:=hid' hask
  have ho:=hid' (And.intro (stp_o (w:=w) (Λ:=Λ) (c:=c) (m:=m) (x:=⟨K,W,A,B,C,oo,on,oc⟩)) (stp_p (w:=w) (Λ:=Λ) (c:=c) (m:=m) (x:=⟨K,W,A,B,C,oo,on,oc⟩)))
  clear h g1 g2 hask
  unfold stpW Stp.cells at y0 y1 y2
  rcases hK with rfl|rfl|rfl|rfl|rfl|rfl
  all_goals (
    go_enter LL.func35,Tryz.ntmps35
    go_wp2_with fail
    have n0:=World.new_ne _ _ y0
    have n1:=World.new_ne _ _ y1
    have n2:=World.new_ne _ _ y2
    go_region_held3 (fun u=>u.cell? ⟨Wb,0,none⟩=some (.slice (some ⟨gp,0,none⟩) ps.length cap)/\u.cell? ⟨w.heap.size,1,none⟩=some (.int .i64 W)/\u.cell? ⟨gp,p*2,none⟩=some (.pointer (some ⟨c,0,none⟩))/\u.cell? ⟨gp,p*2+1,none⟩=some (.pointer (some ⟨m,0,none⟩))) (first|go_keep)
      (first
        | (go_at_call 15;refine (hpk.out _).mono ?_;rintro e w6 ⟨rfl,rfl⟩))
    all_goals go_wp2_with fail
    all_goals refine hD.out.mono ?_
    all_goals
      rintro e w2 ⟨rfl,Λ2,f2,hP⟩
      have hZ:=hid' (And.intro ((stpFr.mono fun _ z=>z.elim).trans f2) hP)
      clear f2 hP hD
      go_wp2
      go_ret
      exact ⟨rfl,Λ2,hZ.out.1,hZ.out.2⟩)
end
end
end Go.Proofs.Shardlog
