/- The group's Add(1), by the first goroutine in the house: its route. -/
import Derived.Test.YtblcigmggdiccaaGreatDoorPart07
set_option linter.unusedSectionVars false
set_option linter.unusedSimpArgs false
set_option linter.unusedVariables false
namespace Go.Proofs.Shardlog
open Go.Conc Go.Tame
section
set_option maxRecDepth 100000
def Fewer (n:Int):Prop:=n=4294967296∨n=8589934592∨n=12884901888
section
variable (c:Nat)(b:Frame)(cs:List Frame)(n:Int)(w0 w1 w2 w3:Nat->World)
noncomputable def aa0:Goroutine:=G (Frame.enter Tryz.prog 38 #[.pointer (some ⟨c,6,none⟩),.int .i64 1] .normal) (b :: cs)
noncomputable def aa1:Goroutine:=fin Tryz.prog true 47 (aa0 c b cs) w0
noncomputable def aa2:Goroutine:=putOf (aa1 c b cs w0) (.int .u64 n)
noncomputable def ab3:Goroutine:=fin Tryz.prog true 52 (aa2 c b cs 4294967296 w0) w1
noncomputable def ab4:Goroutine:=putOf (ab3 c b cs w0 w1) (.pointer (some ⟨c,7,none⟩))
noncomputable def ab5:Goroutine:=fin Tryz.prog true 1 (ab4 c b cs w0 w1) w2
noncomputable def ab6:Goroutine:=fin Tryz.prog true 40 (ab5 c b cs w0 w1 w2) w3
noncomputable def ac3:Goroutine:=fin Tryz.prog true 88 (aa2 c b cs n w0) w1
end
theorem Tryz.ext116':Ext Tryz.prog 116 Tryz.f116 (Extern.Atomic.update (Op.intArith .add) .u64 true):=⟨Tryz.func116,by kernel_rfl,by kernel_rfl,by kernel_rfl,by kernel_rfl⟩
section
variable {c:Nat}{b:Frame}{cs:List Frame}{n:Int}{w0 w1 w2 w3:Nat->World}{S:Prot}{w:World}{Stop:Goroutine->World->Prop}
theorem aa_1 (ws:Nat->World):chk Tryz.prog true bareMark 47 0 (aa0 c b cs) ws=some (tgt 47 ws,1):=by kernel_rfl
theorem aa_2:AtOp (aa1 c b cs w0) (.call { callee:=.value (.func 116),args:=#[.tmp 7,.tmp 8],argTypes:=#[187,88] }):=⟨by kernel_rfl,by kernel_rfl,by kernel_rfl,by kernel_rfl,by kernel_rfl⟩
theorem aa_2v:(actOf (aa1 c b cs w0)).eval (.tmp 7)=.pointer (some ⟨c,6,none⟩):=by kernel_rfl
theorem aa_2a:(actOf (aa1 c b cs w0)).eval (.tmp 8)=.int .u64 4294967296:=by kernel_rfl
theorem aa_2r:isRun (aa1 c b cs w0)=true:=by kernel_rfl
theorem aa_add {u:World}{v:Int}(hc:u.cell? ⟨c,6,none⟩=some (.int .u64 v))(hz:u.frozen? ⟨c,6,none⟩=false)(hv:v=0∨Fewer v) :
    stepG Tryz.prog true (aa1 c b cs w0) u=.go (aa2 c b cs (v+4294967296) w0) (u.setCell ⟨c,6,none⟩ (.int .u64 (v+4294967296))) #[⟨.cell ⟨c,6,none⟩,false,true⟩,⟨.cell ⟨c,6,none⟩,true,true⟩]:=by
  have h1:=aa_2 (c:=c) (b:=b) (cs:=cs) (w0:=w0)
  have h2:=aa_2v (c:=c) (b:=b) (cs:=cs) (w0:=w0)
  have h3:=aa_2a (c:=c) (b:=b) (cs:=cs) (w0:=w0)
  unfold aa2
  generalize aa1 c b cs w0=g at h1 h2 h3 ⊢
  have h:=h1.addA (main:=true) Tryz.ext116' h2 h3 hc hz
  have e:IntKind.u64.wrap (v+4294967296)=v+4294967296:=by rcases hv with rfl|rfl|rfl|rfl <;> decide
  rw [e] at h
  exact h
theorem ab_1 (ws:Nat->World):chk Tryz.prog true bareMark 52 1 (aa2 c b cs 4294967296 w0) ws=some (tgt 52 ws,1):=by kernel_rfl
theorem ab_2:AtOp (ab3 c b cs w0 w1) (.convert 131 127 (.tmp 70)):=⟨by kernel_rfl,by kernel_rfl,by kernel_rfl,by kernel_rfl,by kernel_rfl⟩
theorem ab_2v:(actOf (ab3 c b cs w0 w1)).eval (.tmp 70)=.pointer (some ⟨c,7,none⟩):=by kernel_rfl
theorem ab_2r:isRun (ab3 c b cs w0 w1)=true:=by kernel_rfl
theorem ab_conv {u:World}{v:Value}(hc:u.cell? ⟨c,7,none⟩=some v):stepG Tryz.prog true (ab3 c b cs w0 w1) u=.go (ab4 c b cs w0 w1) u #[]:=by
  obtain ⟨cc,e,f,hb1,hb2⟩:=cellBlock hc
  have h1:=ab_2 (c:=c) (b:=b) (cs:=cs) (w0:=w0) (w1:=w1)
  have h2:=ab_2v (c:=c) (b:=b) (cs:=cs) (w0:=w0) (w1:=w1)
  unfold ab4
  generalize ab3 c b cs w0 w1=g at h1 h2 ⊢
  exact h1.unsafePtr (a:=⟨c,7,none⟩) (t:=75) (n:=0) h2 Tryz.und131 Tryz.und127 Tryz.size75 hb1 hb2
theorem ab_mark (u:World):stepG Tryz.prog true (ab4 c b cs w0 w1) u=.go (ab5 c b cs w0 w1 fun _=>u) u #[⟨.mark (.read ⟨c,7,none⟩),false,true⟩]:=by
  have:(fun u=>stepG Tryz.prog true (ab4 c b cs w0 w1) u)=fun u=>.go (ab5 c b cs w0 w1 fun _=>u) u #[⟨.mark (.read ⟨c,7,none⟩),false,true⟩]:=by kernel_rfl
  exact congrFun this u
theorem ab_4r:isRun (ab4 c b cs w0 w1)=true:=by kernel_rfl
theorem ab_5 (ws:Nat->World):chk Tryz.prog true bareMark 40 1 (ab5 c b cs w0 w1 w2) ws=some (tgt 40 ws,0):=by kernel_rfl
theorem ab_6r:isRun (ab6 c b cs w0 w1 w2 w3)=true:=by kernel_rfl
theorem ab_6 (u:World):stepG Tryz.prog true (ab6 c b cs w0 w1 w2 w3) u=.go (G (b.finish (.tuple #[])) cs) u #[]:=by
  have:(fun u=>stepG Tryz.prog true (ab6 c b cs w0 w1 w2 w3) u)=fun u=>.go (G (b.finish (.tuple #[])) cs) u #[]:=by kernel_rfl
  exact congrFun this u
theorem ac_1 (hn:n=8589934592∨n=12884901888∨n=17179869184)(ws:Nat->World):chk Tryz.prog true bareMark 88 1 (aa2 c b cs n w0) ws=some (tgt 88 ws,0):=by
  rcases hn with h|h|h <;> (subst h;kernel_rfl)
theorem ac_2r (hn:n=8589934592∨n=12884901888∨n=17179869184):isRun (ac3 c b cs n w0 w1)=true:=by
  rcases hn with h|h|h <;> (subst h;kernel_rfl)
theorem ac_2 (hn:n=8589934592∨n=12884901888∨n=17179869184)(u:World):stepG Tryz.prog true (ac3 c b cs n w0 w1) u=.go (G (b.finish (.tuple #[])) cs) u #[]:=by
  have:(fun u=>stepG Tryz.prog true (ac3 c b cs n w0 w1) u)=fun u=>.go (G (b.finish (.tuple #[])) cs) u #[]:=by
    rcases hn with h|h|h <;> (subst h;kernel_rfl)
  exact congrFun this u
theorem add_route {v:Int}(hv:v=0∨Fewer v)(hc:w.cell? ⟨c,6,none⟩=some (.int .u64 v))(hz:w.frozen? ⟨c,6,none⟩=false)(hc':(w.cell? ⟨c,7,none⟩).isSome=true)(hk:¬ S.keep ⟨c,6,none⟩)(hg:S.gone ⟨c,6,none⟩)(hg':S.gone ⟨c,7,none⟩)
    (hs:∀ d,Stop (G (b.finish (.tuple #[])) cs) ((w.setCell ⟨c,6,none⟩ (.int .u64 (v+4294967296))).at d)):Route Tryz.prog S Stop 143 0 (aa0 c b cs) w:=by
  refine Route.seg (n:=47) (m:=96) (d:=0) (d':=1) (g:=aa0 c b cs) (aa_1 (c:=c) (b:=b) (cs:=cs)) fun w0 x0=>?_
  have h1:=fun x=>aa_add (b:=b) (cs:=cs) (w0:=w0) (u:=(w.at x0).at x) hc hz hv
  refine Route.one (n:=95) (d:=1) (g:=aa1 c b cs w0) (g':=aa2 c b cs (v+4294967296) w0) (f:=fun w=>w.setCell ⟨c,6,none⟩ (.int .u64 (v+4294967296))) aa_2r h1 (fun x=>Leaves.setAt hk) (atomics_gone hg) fun x=>?_
  rw [deaf_two]
  rcases hv with rfl|hv
  · obtain ⟨v7,hc7⟩:=Option.isSome_iff_exists.1 hc'
    have hcell:((((w.at x0).at x).setCell ⟨c,6,none⟩ (.int .u64 (0+4294967296))).cell? ⟨c,7,none⟩)=some v7:=by
      rw [World.cell?_setCell_other _ _ _ _ (by simp)];exact hc7
    refine Route.seg (n:=52) (m:=43) (d:=1) (d':=1) (g:=aa2 c b cs (0+4294967296) w0) (ab_1 (c:=c) (b:=b) (cs:=cs) (w0:=w0)) fun w1 x1=>?_
    have h2:=fun x'=>ab_conv (b:=b) (cs:=cs) (w0:=w0) (w1:=w1) (u:=((((w.at x0).at x).setCell ⟨c,6,none⟩ (.int .u64 (0+4294967296))).at x1).at x') hcell
    refine Route.one (n:=42) (d:=1) (g:=ab3 c b cs w0 w1) (g':=ab4 c b cs w0 w1) (f:=id) ab_2r h2 (fun x=>Leaves.at _ _ _) Fine.nil fun x2=>?_
    refine .step (n:=41) (d:=1) (g:=ab4 c b cs w0 w1) (isRun_eq ab_4r) fun x3=>⟨_,_,_,ab_mark _,Leaves.at _ _ _,said_gone hg',?_⟩
    refine Route.seg (n:=40) (m:=1) (d:=1) (d':=0) (g:=ab5 c b cs w0 w1 _) (ab_5 (c:=c) (b:=b) (cs:=cs) (w0:=w0) (w1:=w1)) fun w3 x4=>?_
    refine Route.one (n:=0) (d:=0) (g:=ab6 c b cs w0 w1 _ w3) (f:=id) ab_6r (fun x=>ab_6 _) (fun x=>Leaves.at _ _ _) Fine.nil fun x5=>?_
    exact .stop (hs x5)
  · have hn:v+4294967296=8589934592∨v+4294967296=12884901888∨v+4294967296=17179869184:=by rcases hv with rfl|rfl|rfl <;> simp
    refine Route.more (n:=89) ?_ (by omega)
    refine Route.seg (n:=88) (m:=1) (d:=1) (d':=0) (g:=aa2 c b cs (v+4294967296) w0) (ac_1 (c:=c) (b:=b) (cs:=cs) (w0:=w0) hn) fun w1 x1=>?_
    refine Route.one (n:=0) (d:=0) (g:=ac3 c b cs (v+4294967296) w0 w1) (f:=id) (ac_2r (c:=c) (b:=b) (cs:=cs) hn) (fun x=>ac_2 (c:=c) (b:=b) (cs:=cs) hn _) (fun x=>Leaves.at _ _ _) Fine.nil fun x5=>?_
    exact .stop (hs x5)
end
end
end Go.Proofs.Shardlog
