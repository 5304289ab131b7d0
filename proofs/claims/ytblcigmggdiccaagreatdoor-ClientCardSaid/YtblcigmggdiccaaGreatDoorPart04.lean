/- The first goroutine waits till all shards of a cluster have left. -/
import Derived.Test.YtblcigmggdiccaaGreatDoorPart03
set_option linter.unusedSectionVars false
set_option linter.unusedSimpArgs false
set_option linter.unusedVariables false
namespace Go.Proofs.Shardlog
open Go.Conc Go.Tame
section
def Count (n:Int):Prop:=n=4294967296∨n=8589934592∨n=12884901888∨n=17179869184
section
variable (c:Nat)(cs:List Frame)
noncomputable def m0:Goroutine:=G (Frame.enter Tryz.prog 34 #[.pointer (some ⟨c,6,none⟩)] .normal) cs
noncomputable def todoLH:List Item:=(fin Tryz.prog true 7 (G (Frame.enter Tryz.prog 34 #[.pointer none] .normal) []) (fun _=>default)).frame.todo
noncomputable def LH (J:Nat->Value):Goroutine:=G ((base 34).at ⟨⟨.pointer (some ⟨c,6,none⟩) :: (List.range 83).map fun i=>J (i+1)⟩,[]⟩ todoLH) cs
variable (J:Nat->Value)(n:Int)(a0 a1 a2 a3 a4 a5 a6 a7 a8 a9:Nat->World)
noncomputable def p0:Goroutine:=fin Tryz.prog true 16 (LH c cs J) a0
noncomputable def p1:Goroutine:=putOf (p0 c cs J a0) (.int .u64 n)
noncomputable def z1:Goroutine:=fin Tryz.prog true 35 (p1 c cs J 0 a0) a1
noncomputable def z2:Goroutine:=putOf (z1 c cs J a0 a1) (.pointer (some ⟨c,6,none⟩))
noncomputable def z2b:Goroutine:=fin Tryz.prog true 1 (z2 c cs J a0 a1) a2
noncomputable def z3:Goroutine:=fin Tryz.prog true 19 (z2b c cs J a0 a1 a2) a3
noncomputable def c1:Goroutine:=fin Tryz.prog true 48 (p1 c cs J n a0) a1
noncomputable def c2:Goroutine:=putOf (c1 c cs J n a0 a1) (.bool true)
noncomputable def d2:Goroutine:=putOf (c1 c cs J n a0 a1) (.bool false)
noncomputable def c3:Goroutine:=fin Tryz.prog true 19 (c2 c cs J n a0 a1) a2
noncomputable def c4:Goroutine:=putOf (c3 c cs J n a0 a1 a2) (.pointer (some ⟨c,7,none⟩))
noncomputable def c4b:Goroutine:=fin Tryz.prog true 1 (c4 c cs J n a0 a1 a2) a3
noncomputable def c5:Goroutine:=fin Tryz.prog true 23 (c4b c cs J n a0 a1 a2 a3) a4
noncomputable def c6:Goroutine:=putOf (c5 c cs J n a0 a1 a2 a3 a4) (.tuple #[])
noncomputable def c7:Goroutine:=fin Tryz.prog true 16 (c6 c cs J n a0 a1 a2 a3 a4) a5
noncomputable def c8:Goroutine:=putOf (c7 c cs J n a0 a1 a2 a3 a4 a5) (.int .u64 0)
noncomputable def c9:Goroutine:=fin Tryz.prog true 15 (c8 c cs J n a0 a1 a2 a3 a4 a5) a6
noncomputable def c10:Goroutine:=putOf (c9 c cs J n a0 a1 a2 a3 a4 a5 a6) (.pointer (some ⟨c,6,none⟩))
noncomputable def c10b:Goroutine:=fin Tryz.prog true 1 (c10 c cs J n a0 a1 a2 a3 a4 a5 a6) a7
noncomputable def c11:Goroutine:=fin Tryz.prog true 9 (c10b c cs J n a0 a1 a2 a3 a4 a5 a6 a7) a8
end
set_option maxRecDepth 100000
section
variable {c:Nat}{cs:List Frame}{J:Nat->Value}{n:Int}{a0 a1 a2 a3 a4 a5 a6 a7 a8:Nat->World}{K:World->Prop}{Stop:Nat->Goroutine->Prop}{m:Nat}
theorem w_begin (h:WayD Tryz.prog true K (fun e=>e.mute=true) Stop m 1 (LH c cs fun _=>undef)):WayD Tryz.prog true K (fun e=>e.mute=true) Stop (7+m) 0 (m0 c cs):=by
  refine WayD.seg (p:=Event.mute) (n:=7) (d':=1) (fun _ he=>he) (fun ws=>by kernel_rfl) fun ws=>?_
  have e:fin Tryz.prog true 7 (m0 c cs) ws=LH c cs fun _=>undef:=by kernel_rfl
  rw [e];exact h
theorem w_load (h:∀ a0,WayD Tryz.prog true K (fun e=>e.mute=true) Stop m 1 (p0 c cs J a0)):WayD Tryz.prog true K (fun e=>e.mute=true) Stop (16+m) 1 (LH c cs J):=
  WayD.seg (p:=Event.mute) (n:=16) (d':=1) (fun _ he=>he) (fun ws=>by kernel_rfl) h
theorem p0_load {w:World}(hc:w.cell? ⟨c,6,none⟩=some (.int .u64 n)):stepG Tryz.prog true (p0 c cs J a0) w=.go (p1 c cs J n a0) w #[⟨.cell ⟨c,6,none⟩,false,true⟩]:=by
  have h:AtOp (p0 c cs J a0) (.call { callee:=.value (.func 92),args:=#[.tmp 5],argTypes:=#[187] }):=⟨by kernel_rfl,by kernel_rfl,by kernel_rfl,by kernel_rfl,by kernel_rfl⟩
  exact h.loadA Tryz.ext92 (by kernel_rfl) hc
theorem Tryz.und123:Tryz.prog.underlying 123=some (.pointer 92):=by kernel_rfl
theorem Tryz.und127:Tryz.prog.underlying 127=some .unsafePointer:=by kernel_rfl
theorem Tryz.size92:(Tryz.prog.info? 92).map (·.size)=some 2:=by kernel_rfl
theorem Tryz.und131:Tryz.prog.underlying 131=some (.pointer 75):=by kernel_rfl
theorem Tryz.size75:(Tryz.prog.info? 75).map (·.size)=some 1:=by kernel_rfl
theorem z_way (hK:∀ w,K w->∃ x e f,w.heap[c]? = some (.cells x e f)/\7<x.size)(h:∀ a1,WayD Tryz.prog true K (fun e=>e.mute=true) Stop m 0 (z2 c cs J a0 a1)):WayD Tryz.prog true K (fun e=>e.mute=true) Stop (35+(m+1)) 1 (p1 c cs J 0 a0):=by
  refine WayD.seg (p:=Event.mute) (n:=35) (m:=m+1) (d':=0) (fun _ he=>he) (fun ws=>by kernel_rfl) fun a1=>?_
  have hat:AtOp (z1 c cs J a0 a1) (.convert 123 127 (.tmp 21)):=⟨by kernel_rfl,by kernel_rfl,by kernel_rfl,by kernel_rfl,by kernel_rfl⟩
  refine WayD.one (m:=m) (g':=z2 c cs J a0 a1) (es:=#[]) (show (z1 c cs J a0 a1).status=.running by kernel_rfl) (fun w hw=>?_) (by simp) (h a1)
  obtain ⟨x,e,f,h1,h2⟩:=hK w hw
  exact hat.unsafePtr (a:=⟨c,6,none⟩) (t:=92) (n:=1) (by kernel_rfl) Tryz.und123 Tryz.und127 Tryz.size92 h1 (by show 6<x.size;omega)
theorem z_mark (w:World):stepG Tryz.prog true (z2 c cs J a0 a1) w=.go (z2b c cs J a0 a1 fun _=>w) w #[⟨.mark (.acquire ⟨c,6,none⟩),false,true⟩]:=by
  have:(fun w=>stepG Tryz.prog true (z2 c cs J a0 a1) w)=fun w=>.go (z2b c cs J a0 a1 fun _=>w) w #[⟨.mark (.acquire ⟨c,6,none⟩),false,true⟩]:=by kernel_rfl
  exact congrFun this w
theorem z_out (h:∀ a3,Stop 0 (z3 c cs J a0 a1 a2 a3)):WayD Tryz.prog true K (fun e=>e.mute=true) Stop 19 0 (z2b c cs J a0 a1 a2):=
  WayD.seg (p:=Event.mute) (n:=19) (m:=0) (d':=0) (fun _ he=>he) (fun ws=>by kernel_rfl) fun a3=>h a3
theorem z_back (b:Frame)(w:World):stepG Tryz.prog true (z3 c (b :: cs) J a0 a1 a2 a3) w=.go (G (b.finish (.tuple #[])) cs) w #[]:=by
  have:(fun w=>stepG Tryz.prog true (z3 c (b :: cs) J a0 a1 a2 a3) w)=fun w=>.go (G (b.finish (.tuple #[])) cs) w #[]:=by kernel_rfl
  exact congrFun this w
theorem c_way (hn:Count n)(h:∀ a1,Stop 1 (c1 c cs J n a0 a1)):WayD Tryz.prog true K (fun e=>e.mute=true) Stop 48 1 (p1 c cs J n a0):=by
  rcases hn with rfl|rfl|rfl|rfl
  all_goals exact WayD.seg (p:=Event.mute) (n:=48) (m:=0) (d':=1) (fun _ he=>he) (fun ws=>by kernel_rfl) fun a1=>h a1
theorem Tryz.ext93:Ext Tryz.prog 93 Tryz.f93 (Extern.Atomic.casT (.int .u64)):=⟨Tryz.func93,by kernel_rfl,by kernel_rfl,by kernel_rfl,by kernel_rfl⟩
theorem Tryz.ext66:Ext Tryz.prog 66 Tryz.f66 Extern.Sync.semacquire:=⟨Tryz.func66,by kernel_rfl,by kernel_rfl,by kernel_rfl,by kernel_rfl⟩
theorem c1_at (hn:Count n):AtOp (c1 c cs J n a0 a1) (.call { callee:=.value (.func 93),args:=#[.tmp 9,.tmp 10,.tmp 11],argTypes:=#[187,88,88] }):=by
  rcases hn with rfl|rfl|rfl|rfl <;> exact ⟨by kernel_rfl,by kernel_rfl,by kernel_rfl,by kernel_rfl,by kernel_rfl⟩
theorem c1_vals (hn:Count n):(actOf (c1 c cs J n a0 a1)).eval (.tmp 9)=.pointer (some ⟨c,6,none⟩)/\(actOf (c1 c cs J n a0 a1)).eval (.tmp 10)=.int .u64 n/\(actOf (c1 c cs J n a0 a1)).eval (.tmp 11)=.int .u64 (n+1):=by
  rcases hn with rfl|rfl|rfl|rfl <;> exact ⟨by kernel_rfl,by kernel_rfl,by kernel_rfl⟩
theorem c1_hit (hn:Count n){w:World}(hc:w.cell? ⟨c,6,none⟩=some (.int .u64 n))(hz:w.frozen? ⟨c,6,none⟩=false):stepG Tryz.prog true (c1 c cs J n a0 a1) w=.go (c2 c cs J n a0 a1) (w.setCell ⟨c,6,none⟩ (.int .u64 (n+1))) #[⟨.cell ⟨c,6,none⟩,false,true⟩,⟨.cell ⟨c,6,none⟩,true,true⟩]:=
  (c1_at hn).casHit Tryz.ext93 (c1_vals hn).1 (c1_vals hn).2.1 (c1_vals hn).2.2 hc hz
theorem c1_miss (hn:Count n){w:World}{v:Int}(hc:w.cell? ⟨c,6,none⟩=some (.int .u64 v))(hz:w.frozen? ⟨c,6,none⟩=false)(hv:¬ v=n):stepG Tryz.prog true (c1 c cs J n a0 a1) w=.go (d2 c cs J n a0 a1) w #[⟨.cell ⟨c,6,none⟩,false,true⟩]:=
  (c1_at hn).casMiss Tryz.ext93 (c1_vals hn).1 (c1_vals hn).2.1 (c1_vals hn).2.2 hc hz hv
theorem d_way (hn:Count n)(h:∀ J',WayD Tryz.prog true K (fun e=>e.mute=true) Stop m 1 (LH c cs J')):WayD Tryz.prog true K (fun e=>e.mute=true) Stop (9+m) 1 (d2 c cs J n a0 a1):=by
  rcases hn with rfl|rfl|rfl|rfl
  · refine WayD.seg (p:=Event.mute) (n:=9) (m:=m) (d':=1) (fun _ he=>he) (fun ws=>by kernel_rfl) fun ws=>?_
    have e:∃ J',fin Tryz.prog true 9 (d2 c cs J 4294967296 a0 a1) ws=LH c cs J':=⟨fun i=>(fin Tryz.prog true 9 (d2 c cs J 4294967296 a0 a1) ws).frame.tmps.getD i undef,by kernel_rfl⟩
    obtain ⟨J',e⟩:=e
    rw [e];exact h J'
  · refine WayD.seg (p:=Event.mute) (n:=9) (m:=m) (d':=1) (fun _ he=>he) (fun ws=>by kernel_rfl) fun ws=>?_
    have e:∃ J',fin Tryz.prog true 9 (d2 c cs J 8589934592 a0 a1) ws=LH c cs J':=⟨fun i=>(fin Tryz.prog true 9 (d2 c cs J 8589934592 a0 a1) ws).frame.tmps.getD i undef,by kernel_rfl⟩
    obtain ⟨J',e⟩:=e
    rw [e];exact h J'
  · refine WayD.seg (p:=Event.mute) (n:=9) (m:=m) (d':=1) (fun _ he=>he) (fun ws=>by kernel_rfl) fun ws=>?_
    have e:∃ J',fin Tryz.prog true 9 (d2 c cs J 12884901888 a0 a1) ws=LH c cs J':=⟨fun i=>(fin Tryz.prog true 9 (d2 c cs J 12884901888 a0 a1) ws).frame.tmps.getD i undef,by kernel_rfl⟩
    obtain ⟨J',e⟩:=e
    rw [e];exact h J'
  · refine WayD.seg (p:=Event.mute) (n:=9) (m:=m) (d':=1) (fun _ he=>he) (fun ws=>by kernel_rfl) fun ws=>?_
    have e:∃ J',fin Tryz.prog true 9 (d2 c cs J 17179869184 a0 a1) ws=LH c cs J':=⟨fun i=>(fin Tryz.prog true 9 (d2 c cs J 17179869184 a0 a1) ws).frame.tmps.getD i undef,by kernel_rfl⟩
    obtain ⟨J',e⟩:=e
    rw [e];exact h J'
theorem c2_way (hn:Count n)(hK:∀ w,K w->∃ x e f,w.heap[c]? = some (.cells x e f)/\7<x.size)(h:∀ a2,WayD Tryz.prog true K (fun e=>e.mute=true) Stop m 1 (c4 c cs J n a0 a1 a2)):WayD Tryz.prog true K (fun e=>e.mute=true) Stop (19+(m+1)) 1 (c2 c cs J n a0 a1):=by
  have hat:∀ a2,AtOp (c3 c cs J n a0 a1 a2) (.convert 131 127 (.tmp 55))/\(actOf (c3 c cs J n a0 a1 a2)).eval (.tmp 55)=.pointer (some ⟨c,7,none⟩)/\(c3 c cs J n a0 a1 a2).status=.running:=by
    rcases hn with rfl|rfl|rfl|rfl <;> exact fun a2=>⟨⟨by kernel_rfl,by kernel_rfl,by kernel_rfl,by kernel_rfl,by kernel_rfl⟩,by kernel_rfl,by kernel_rfl⟩
  have k:∀ a2,WayD Tryz.prog true K (fun e=>e.mute=true) Stop (m+1) 1 (c3 c cs J n a0 a1 a2):=fun a2=>by
    refine WayD.one (m:=m) (g':=c4 c cs J n a0 a1 a2) (es:=#[]) (hat a2).2.2 (fun w hw=>?_) (by simp) (h a2)
    obtain ⟨x,e,f,h1,h2⟩:=hK w hw
    exact (hat a2).1.unsafePtr (a:=⟨c,7,none⟩) (t:=75) (n:=0) (hat a2).2.1 Tryz.und131 Tryz.und127 Tryz.size75 h1 (by show 7<x.size;omega)
  rcases hn with rfl|rfl|rfl|rfl
  all_goals exact WayD.seg (p:=Event.mute) (n:=19) (m:=m+1) (d':=1) (fun _ he=>he) (fun ws=>by kernel_rfl) fun a2=>k a2
theorem c4_mark (hn:Count n)(w:World):stepG Tryz.prog true (c4 c cs J n a0 a1 a2) w=.go (c4b c cs J n a0 a1 a2 fun _=>w) w #[⟨.mark (.write ⟨c,7,none⟩),false,true⟩]:=by
  rcases hn with rfl|rfl|rfl|rfl
  · have:(fun w=>stepG Tryz.prog true (c4 c cs J 4294967296 a0 a1 a2) w)=fun w=>.go (c4b c cs J 4294967296 a0 a1 a2 fun _=>w) w #[⟨.mark (.write ⟨c,7,none⟩),false,true⟩]:=by kernel_rfl
    exact congrFun this w
  · have:(fun w=>stepG Tryz.prog true (c4 c cs J 8589934592 a0 a1 a2) w)=fun w=>.go (c4b c cs J 8589934592 a0 a1 a2 fun _=>w) w #[⟨.mark (.write ⟨c,7,none⟩),false,true⟩]:=by kernel_rfl
    exact congrFun this w
  · have:(fun w=>stepG Tryz.prog true (c4 c cs J 12884901888 a0 a1 a2) w)=fun w=>.go (c4b c cs J 12884901888 a0 a1 a2 fun _=>w) w #[⟨.mark (.write ⟨c,7,none⟩),false,true⟩]:=by kernel_rfl
    exact congrFun this w
  · have:(fun w=>stepG Tryz.prog true (c4 c cs J 17179869184 a0 a1 a2) w)=fun w=>.go (c4b c cs J 17179869184 a0 a1 a2 fun _=>w) w #[⟨.mark (.write ⟨c,7,none⟩),false,true⟩]:=by kernel_rfl
    exact congrFun this w
theorem c4_way (hn:Count n)(h:∀ a4,Stop 1 (c5 c cs J n a0 a1 a2 a3 a4)):WayD Tryz.prog true K (fun e=>e.mute=true) Stop 23 1 (c4b c cs J n a0 a1 a2 a3):=by
  rcases hn with rfl|rfl|rfl|rfl
  all_goals exact WayD.seg (p:=Event.mute) (n:=23) (m:=0) (d':=1) (fun _ he=>he) (fun ws=>by kernel_rfl) fun a4=>h a4
end
end
end Go.Proofs.Shardlog
