/- Several texts in one: TameStageZ, Lone, Facts, TameOut, TameDefer. -/
import Derived.Test.YtblcigmggdiccaaGreatDoorPart05
import Derived.Test.YtblcigmggdiccaaGreatDoorChecked
import Derived.KernelRfl
import Derived.Test.YtblcigmggdiccaaGreatDoorPart01
import Derived.WalkKit
import Derived.Orders
set_option linter.unusedSectionVars false
set_option linter.unusedSimpArgs false
set_option linter.unusedVariables false
namespace Go.Proofs.Shardlog
open Go.Conc Go.Tame
section
set_option maxRecDepth 100000
section
variable {cb sb c s D W:Nat}{w0 w1:Nat->World}{w2:Nat->Nat->World}{w3 w4 w5 w6 w7 w8 w9 w10:Nat->World}{K:World->Prop}
theorem s_rel:SRel Tryz.prog ⟨c,7,none⟩ 1 (x5 cb sb c s D W w0 w1 w2 w3 w4 w5 w6 w7 w8 w9 w10):=
  ⟨rfl,by kernel_rfl,by kernel_rfl,fun _ _ hc hz=>⟨_,wake6 hc hz,QuitsD.free (wake7 default)⟩⟩
theorem s_store:SStore Tryz.prog K ⟨c,6,none⟩ ⟨c,7,none⟩ 1 (x3 cb sb c s D W w0 w1 w2 w3 w4 w5 w6 w7 w8 w9):=
  ⟨rfl,by kernel_rfl,fun _ _ hc hz=>⟨_,wake4 hc hz,wake5 fun _=>s_rel⟩⟩
theorem s_load:SLoad Tryz.prog K ⟨c,6,none⟩ ⟨c,7,none⟩ 1 (x1 cb sb c s D W w0 w1 w2 w3 w4 w5 w6 w7 w8):=
  ⟨rfl,by kernel_rfl,fun _ hc=>⟨_,wake2 hc,wake3 fun _=>s_store⟩⟩
theorem s_add:SAdd Tryz.prog K ⟨c,6,none⟩ ⟨c,7,none⟩ 1 (l3 cb sb c s D W w0 w1 w2 w3 w4 w5 w6 w7):=by
  refine ⟨rfl,by kernel_rfl,fun n w hc hz=>⟨_,leave3 hc hz,fun e=>?_,fun e=>?_⟩⟩
  · rw [e];exact wake1 fun _=>s_load
  · have h4:=leave4 (cb:=cb) (sb:=sb) (c:=c) (s:=s) (D:=D) (W:=W) (w0:=w0) (w1:=w1) (w2:=w2) (w3:=w3) (w4:=w4) (w5:=w5) (w6:=w6) (w7:=w7) default
    have h5:=leave5 (cb:=cb) (sb:=sb) (c:=c) (s:=s) (D:=D) (W:=W) (w0:=w0) (w1:=w1) (w2:=w2) (w3:=w3) (w4:=w4) (w5:=w5) (w6:=w6) (w7:=w7) default
    simp only [Bool.and_eq_true] at h4 h5
    rcases e with e|e|e|e|e|e|e <;> rw [e]
    · exact QuitsD.free h4.1.1.1
    · exact QuitsD.free h4.1.1.2
    · exact QuitsD.free h4.1.2
    · exact QuitsD.free h4.2
    · exact QuitsD.free h5.1.1
    · exact QuitsD.free h5.1.2
    · exact QuitsD.free h5.2
theorem s_tell:STell Tryz.prog K ⟨c,6,none⟩ ⟨c,7,none⟩ 0 (l2 cb sb c s D W w0 w1 w2 w3 w4 w5):=
  ⟨rfl,by kernel_rfl,fun w=>⟨_,leave1 w,leave2 fun _=>s_add⟩⟩
theorem s_out (hK:∀ w,K w->∃ x e f,w.heap[c]? = some (.cells x e f)/\6<x.size):WayD Tryz.prog false K (fun _=>False) (STell Tryz.prog K ⟨c,6,none⟩ ⟨c,7,none⟩) 27 0 (l0 cb sb c s D W w0 w1 w2 w3 w4):=
  leave0 hK fun _=>s_tell
end
section
variable {c:Nat}{b:Frame}{cs:List Frame}{J:Nat->Value}{n:Int}{a0 a1 a2 a3 a4 a5 a6 a7 a8:Nat->World}{K:World->Prop}
theorem m_last (hK:∀ w,K w->∃ x e f,w.heap[c]? = some (.cells x e f)/\7<x.size)(hn:Count n):MLast Tryz.prog K ⟨c,6,none⟩ b cs 1 (c7 c (b :: cs) J n a0 a1 a2 a3 a4 a5):=by
  refine ⟨rfl,by rcases hn with rfl|rfl|rfl|rfl <;> kernel_rfl,fun w hc=>⟨_,c7_load hn hc,c8_way (m:=0) hn hK fun a6=>⟨rfl,by rcases hn with rfl|rfl|rfl|rfl <;> kernel_rfl,fun w=>⟨_,c10_mark hn w,?_⟩⟩⟩⟩
  exact WayD.pad (n:=9) (k:=10) (c10_way hn fun a8=>⟨rfl,by rcases hn with rfl|rfl|rfl|rfl <;> kernel_rfl,fun w=>c11_back hn b w⟩)
theorem m_sem (hK:∀ w,K w->∃ x e f,w.heap[c]? = some (.cells x e f)/\7<x.size)(hn:Count n):MSem Tryz.prog K ⟨c,6,none⟩ ⟨c,7,none⟩ b cs 1 (c5 c (b :: cs) J n a0 a1 a2 a3 a4):=
  ⟨rfl,(c5_at hn).2.2,by rcases hn with rfl|rfl|rfl|rfl <;> kernel_rfl,fun _ hc=>c5_wait hn hc,fun _ hc hz=>⟨_,c5_go hn hc hz,c6_way hn fun _=>m_last hK hn⟩⟩
theorem m_say (hK:∀ w,K w->∃ x e f,w.heap[c]? = some (.cells x e f)/\7<x.size)(hn:Count n):MSay Tryz.prog K ⟨c,6,none⟩ ⟨c,7,none⟩ b cs 1 (c4 c (b :: cs) J n a0 a1 a2):=
  ⟨rfl,by rcases hn with rfl|rfl|rfl|rfl <;> kernel_rfl,fun w=>⟨_,c4_mark hn w,c4_way hn fun _=>m_sem hK hn⟩⟩
def Heads (c:Nat) (cs:List Frame) (g:Goroutine):Prop:=∃ J,g=LH c cs J
theorem m_cas (hK:∀ w,K w->∃ x e f,w.heap[c]? = some (.cells x e f)/\7<x.size)(hn:Count n):MCas Tryz.prog K ⟨c,6,none⟩ ⟨c,7,none⟩ b cs (Heads c (b :: cs)) n 1 (c1 c (b :: cs) J n a0 a1):=
  ⟨rfl,by rcases hn with rfl|rfl|rfl|rfl <;> kernel_rfl,fun _ hc hz=>⟨_,c1_hit hn hc hz,c2_way (m:=0) hn hK fun _=>m_say hK hn⟩,fun _ _ hc hz hv=>⟨_,c1_miss hn hc hz hv,d_way (m:=0) hn fun J'=>⟨rfl,J',rfl⟩⟩⟩
theorem m_load (hK:∀ w,K w->∃ x e f,w.heap[c]? = some (.cells x e f)/\7<x.size):MLoad Tryz.prog K ⟨c,6,none⟩ ⟨c,7,none⟩ b cs (Heads c (b :: cs)) 1 (p0 c (b :: cs) J a0):=by
  refine ⟨rfl,by kernel_rfl,fun n w hc=>⟨_,p0_load hc,fun e=>?_,fun hn=>c_way hn fun _=>m_cas hK hn⟩⟩
  subst e
  exact z_way (m:=0) hK fun a1=>⟨rfl,by kernel_rfl,fun w=>⟨_,z_mark w,z_out fun a3=>⟨rfl,by kernel_rfl,fun w=>z_back b w⟩⟩⟩
theorem m_loop (hK:∀ w,K w->∃ x e f,w.heap[c]? = some (.cells x e f)/\7<x.size):MLoop Tryz.prog K ⟨c,6,none⟩ ⟨c,7,none⟩ b cs (Heads c (b :: cs)):=
  ⟨fun _ ⟨_,e⟩=>e ▸ w_load (m:=0) fun _=>m_load hK⟩
theorem m_begin:WayD Tryz.prog true K (fun e=>e.mute=true) (fun d g=>d=1/\Heads c cs g) 7 0 (m0 c cs):=w_begin (m:=0) ⟨rfl,_,rfl⟩
end
end
end Go.Proofs.Shardlog
namespace Go.Proofs
open Go
section
def standOps (k:Int):Array Oper:=
  #[{ dst:=some 2,op:=.assign (.const (.bool true)),type:=4,pos:= "",after:=#[],guard:=none },{ dst:=none,op:=.load 21 (.const (.pointer none)),type:=21,pos:= "",after:=#[],guard:=some (0,true) },
    { dst:=some 1,op:=.load 21 (.tmp 0),type:=21,pos:= "",after:=#[],guard:=none },{ dst:=some 1,op:=.binOp .eql 21 (.tmp 1) (.const (.int .i32 k)) 21,type:=4,pos:= "",after:=#[],guard:=none }]
def standPut (n:Int):Array Oper:=#[{ dst:=none,op:=.store 21 (.tmp 0) (.const (.int .i32 n)),type:=0,pos:= "",after:=#[],guard:=none }]
def standIn (k n:Int):Code:=.seq (.region 0 (standOps k) false) (.cond (.tmp 1) (.seq (.region 1 (standPut n) false) .ret) (.refuse ""))
def deadFn (f:Nat):Bool:=f == 25 || f == 32 || f == 34 || f == 38 || f == 41 || f == 121 || f == 130 || f == 141 || f == 250 || f == 123
def liveRow (f:Nat):Bool:=f == 84 || f == 85 || f == 86 || f == 88 || f == 118 || f == 119 || f == 288 || f == 303 || f == 304 || f == 305 || f == 306
def loneFn (f:Nat) (fn:Func):Func:=
  if f == 90 then { fn with ntmps:=2,body:=some (standIn 0 1) }
  else if f == 91 then { fn with ntmps:=2,body:=some (standIn 1 0) }
  else match fn.body with
    | some c=>{ fn with body:=some (if deadFn f then .refuse "" else c) }
    | none=>if liveRow f then fn else { fn with name:= "dead",origin:= "dead" }
noncomputable def Tryz.FL:Array Func:=Tryz.prog.funcs.mapIdx loneFn
noncomputable def Tryz.L:Program:=Go.Tame.withFuncs Tryz.prog Tryz.FL
end
section
section
variable (P:Program)(F:Array Func)
theorem wf_funcs:(Go.Tame.withFuncs P F).funcs=F:=rfl
theorem wf_underlying (t:TypeId):(Go.Tame.withFuncs P F).underlying t=P.underlying t:=rfl
theorem wf_runUnderlying (t:TypeId)(w:World):Sem.run (Go.Tame.withFuncs P F) (underlying t) w=Sem.run P (underlying t) w:=by
  show (match P.underlying t with|some d=>pure d|none=>stuck _:Sem TypeDesc).run (Go.Tame.withFuncs P F) w=(match P.underlying t with|some d=>pure d|none=>stuck _:Sem TypeDesc).run P w
  cases P.underlying t <;> rfl
theorem wf_typeInfo (t:TypeId)(w:World):Sem.run (Go.Tame.withFuncs P F) (typeInfo t) w=Sem.run P (typeInfo t) w:=by
  show (match P.info? t with|some d=>pure d|none=>stuck _:Sem TypeInfo).run (Go.Tame.withFuncs P F) w=(match P.info? t with|some d=>pure d|none=>stuck _:Sem TypeInfo).run P w
  cases P.info? t <;> rfl
theorem wf_sizeOf (t:TypeId)(w:World):Sem.run (Go.Tame.withFuncs P F) (Go.sizeOf t) w=Sem.run P (Go.sizeOf t) w:=by
  unfold Go.sizeOf
  rw [Sem.run_bind,Sem.run_bind,wf_typeInfo]
  cases Sem.run P (typeInfo t) w <;> simp
theorem wf_isAgg (t:TypeId)(w:World):Sem.run (Go.Tame.withFuncs P F) (Go.isAgg t) w=Sem.run P (Go.isAgg t) w:=by
  unfold Go.isAgg
  rw [Sem.run_bind,Sem.run_bind,wf_runUnderlying]
  cases Sem.run P (Go.underlying t) w with
  | ok d w=>cases d <;> simp
  | halt=>simp
theorem wf_zeroValue (t:TypeId)(w:World):Sem.run (Go.Tame.withFuncs P F) (Go.zeroValue t) w=Sem.run P (Go.zeroValue t) w:=by
  unfold Go.zeroValue
  rw [Sem.run_bind,Sem.run_bind,wf_typeInfo]
  cases Sem.run P (typeInfo t) w with
  | ok d w=>simp only [Result.andThen_ok];cases d.zero <;> simp
  | halt=>simp
end
@[go_sem] theorem LL.sizeOf (t:TypeId) (w:World):Sem.run Tryz.L (Go.sizeOf t) w=Sem.run Tryz.prog (Go.sizeOf t) w:=wf_sizeOf _ _ _ _
@[go_sem] theorem LL.isAgg (t:TypeId) (w:World):Sem.run Tryz.L (Go.isAgg t) w=Sem.run Tryz.prog (Go.isAgg t) w:=wf_isAgg _ _ _ _
@[go_sem] theorem LL.zeroValue (t:TypeId) (w:World):Sem.run Tryz.L (Go.zeroValue t) w=Sem.run Tryz.prog (Go.zeroValue t) w:=wf_zeroValue _ _ _ _
@[go_sem] theorem LL.underlying (t:TypeId):Tryz.L.underlying t=Tryz.prog.underlying t:=wf_underlying _ _ _
@[go_sem] theorem LL.runUnderlying (t:TypeId) (w:World):Sem.run Tryz.L (Go.underlying t) w=Sem.run Tryz.prog (Go.underlying t) w:=wf_runUnderlying _ _ _ _
theorem LL.funcOf {k:Nat}{fn fn':Func}(h:Tryz.prog.funcs[k]? = some fn)(he:loneFn k fn=fn'):Tryz.L.funcs[k]? = some fn':=by
  have e:Tryz.L.funcs=Tryz.FL:=wf_funcs _ _
  rw [e]
  unfold Tryz.FL
  rw [Array.getElem?_mapIdx,h,Option.map_some,he]
theorem LL.callOf {f:FuncId}{fn:Func}(h:Tryz.L.funcs[f]? = some fn)(hb:fn.body.isNone=false)(hn:(fn.name == "runtime.NumGoroutine")=false)(args:Array Value)(w:World):Sem.run Tryz.L (callFunc f args) w=.ok (.enter f args) w:=
  (Go.Tame.callFunc_enter h hb hn w).1
theorem LL.func15:Tryz.L.funcs[15]? = some Tryz.f15:=LL.funcOf Tryz.func15 (by kernel_rfl)
@[go_sem] theorem LL.call15 (args:Array Value) (w:World):Sem.run Tryz.L (callFunc 15 args) w=.ok (.enter 15 args) w:=LL.callOf LL.func15 (by kernel_rfl) (by kernel_rfl) args w
theorem LL.func16:Tryz.L.funcs[16]? = some Tryz.f16:=LL.funcOf Tryz.func16 (by kernel_rfl)
theorem LL.func17:Tryz.L.funcs[17]? = some Tryz.f17:=LL.funcOf Tryz.func17 (by kernel_rfl)
@[go_sem] theorem LL.call17 (args:Array Value) (w:World):Sem.run Tryz.L (callFunc 17 args) w=.ok (.enter 17 args) w:=LL.callOf LL.func17 (by kernel_rfl) (by kernel_rfl) args w
theorem LL.func18:Tryz.L.funcs[18]? = some Tryz.f18:=LL.funcOf Tryz.func18 (by kernel_rfl)
@[go_sem] theorem LL.call18 (args:Array Value) (w:World):Sem.run Tryz.L (callFunc 18 args) w=.ok (.enter 18 args) w:=LL.callOf LL.func18 (by kernel_rfl) (by kernel_rfl) args w
theorem LL.func19:Tryz.L.funcs[19]? = some Tryz.f19:=LL.funcOf Tryz.func19 (by kernel_rfl)
@[go_sem] theorem LL.call19 (args:Array Value) (w:World):Sem.run Tryz.L (callFunc 19 args) w=.ok (.enter 19 args) w:=LL.callOf LL.func19 (by kernel_rfl) (by kernel_rfl) args w
theorem LL.func20:Tryz.L.funcs[20]? = some Tryz.f20:=LL.funcOf Tryz.func20 (by kernel_rfl)
@[go_sem] theorem LL.call20 (args:Array Value) (w:World):Sem.run Tryz.L (callFunc 20 args) w=.ok (.enter 20 args) w:=LL.callOf LL.func20 (by kernel_rfl) (by kernel_rfl) args w
theorem LL.func22:Tryz.L.funcs[22]? = some Tryz.f22:=LL.funcOf Tryz.func22 (by kernel_rfl)
theorem LL.func26:Tryz.L.funcs[26]? = some Tryz.f26:=LL.funcOf Tryz.func26 (by kernel_rfl)
@[go_sem] theorem LL.call26 (args:Array Value) (w:World):Sem.run Tryz.L (callFunc 26 args) w=.ok (.enter 26 args) w:=LL.callOf LL.func26 (by kernel_rfl) (by kernel_rfl) args w
theorem LL.func27:Tryz.L.funcs[27]? = some Tryz.f27:=LL.funcOf Tryz.func27 (by kernel_rfl)
@[go_sem] theorem LL.call27 (args:Array Value) (w:World):Sem.run Tryz.L (callFunc 27 args) w=.ok (.enter 27 args) w:=LL.callOf LL.func27 (by kernel_rfl) (by kernel_rfl) args w
theorem LL.func28:Tryz.L.funcs[28]? = some Tryz.f28:=LL.funcOf Tryz.func28 (by kernel_rfl)
@[go_sem] theorem LL.call28 (args:Array Value) (w:World):Sem.run Tryz.L (callFunc 28 args) w=.ok (.enter 28 args) w:=LL.callOf LL.func28 (by kernel_rfl) (by kernel_rfl) args w
theorem LL.func29:Tryz.L.funcs[29]? = some Tryz.f29:=LL.funcOf Tryz.func29 (by kernel_rfl)
@[go_sem] theorem LL.call29 (args:Array Value) (w:World):Sem.run Tryz.L (callFunc 29 args) w=.ok (.enter 29 args) w:=LL.callOf LL.func29 (by kernel_rfl) (by kernel_rfl) args w
theorem LL.func30:Tryz.L.funcs[30]? = some Tryz.f30:=LL.funcOf Tryz.func30 (by kernel_rfl)
@[go_sem] theorem LL.call30 (args:Array Value) (w:World):Sem.run Tryz.L (callFunc 30 args) w=.ok (.enter 30 args) w:=LL.callOf LL.func30 (by kernel_rfl) (by kernel_rfl) args w
theorem LL.func31:Tryz.L.funcs[31]? = some Tryz.f31:=LL.funcOf Tryz.func31 (by kernel_rfl)
@[go_sem] theorem LL.call31 (args:Array Value) (w:World):Sem.run Tryz.L (callFunc 31 args) w=.ok (.enter 31 args) w:=LL.callOf LL.func31 (by kernel_rfl) (by kernel_rfl) args w
theorem LL.func33:Tryz.L.funcs[33]? = some Tryz.f33:=LL.funcOf Tryz.func33 (by kernel_rfl)
@[go_sem] theorem LL.call33 (args:Array Value) (w:World):Sem.run Tryz.L (callFunc 33 args) w=.ok (.enter 33 args) w:=LL.callOf LL.func33 (by kernel_rfl) (by kernel_rfl) args w
theorem LL.func37:Tryz.L.funcs[37]? = some Tryz.f37:=LL.funcOf Tryz.func37 (by kernel_rfl)
theorem LL.func42:Tryz.L.funcs[42]? = some Tryz.f42:=LL.funcOf Tryz.func42 (by kernel_rfl)
@[go_sem] theorem LL.call42 (args:Array Value) (w:World):Sem.run Tryz.L (callFunc 42 args) w=.ok (.enter 42 args) w:=LL.callOf LL.func42 (by kernel_rfl) (by kernel_rfl) args w
theorem LL.func43:Tryz.L.funcs[43]? = some Tryz.f43:=LL.funcOf Tryz.func43 (by kernel_rfl)
@[go_sem] theorem LL.call43 (args:Array Value) (w:World):Sem.run Tryz.L (callFunc 43 args) w=.ok (.enter 43 args) w:=LL.callOf LL.func43 (by kernel_rfl) (by kernel_rfl) args w
theorem LL.func44:Tryz.L.funcs[44]? = some Tryz.f44:=LL.funcOf Tryz.func44 (by kernel_rfl)
@[go_sem] theorem LL.call44 (args:Array Value) (w:World):Sem.run Tryz.L (callFunc 44 args) w=.ok (.enter 44 args) w:=LL.callOf LL.func44 (by kernel_rfl) (by kernel_rfl) args w
theorem LL.func45:Tryz.L.funcs[45]? = some Tryz.f45:=LL.funcOf Tryz.func45 (by kernel_rfl)
@[go_sem] theorem LL.call45 (args:Array Value) (w:World):Sem.run Tryz.L (callFunc 45 args) w=.ok (.enter 45 args) w:=LL.callOf LL.func45 (by kernel_rfl) (by kernel_rfl) args w
theorem LL.func46:Tryz.L.funcs[46]? = some Tryz.f46:=LL.funcOf Tryz.func46 (by kernel_rfl)
@[go_sem] theorem LL.call46 (args:Array Value) (w:World):Sem.run Tryz.L (callFunc 46 args) w=.ok (.enter 46 args) w:=LL.callOf LL.func46 (by kernel_rfl) (by kernel_rfl) args w
theorem LL.func47:Tryz.L.funcs[47]? = some Tryz.f47:=LL.funcOf Tryz.func47 (by kernel_rfl)
theorem LL.func48:Tryz.L.funcs[48]? = some Tryz.f48:=LL.funcOf Tryz.func48 (by kernel_rfl)
@[go_sem] theorem LL.call48 (args:Array Value) (w:World):Sem.run Tryz.L (callFunc 48 args) w=.ok (.enter 48 args) w:=LL.callOf LL.func48 (by kernel_rfl) (by kernel_rfl) args w
theorem LL.func49:Tryz.L.funcs[49]? = some Tryz.f49:=LL.funcOf Tryz.func49 (by kernel_rfl)
@[go_sem] theorem LL.call49 (args:Array Value) (w:World):Sem.run Tryz.L (callFunc 49 args) w=.ok (.enter 49 args) w:=LL.callOf LL.func49 (by kernel_rfl) (by kernel_rfl) args w
theorem LL.func50:Tryz.L.funcs[50]? = some Tryz.f50:=LL.funcOf Tryz.func50 (by kernel_rfl)
theorem LL.func51:Tryz.L.funcs[51]? = some Tryz.f51:=LL.funcOf Tryz.func51 (by kernel_rfl)
@[go_sem] theorem LL.call51 (args:Array Value) (w:World):Sem.run Tryz.L (callFunc 51 args) w=.ok (.enter 51 args) w:=LL.callOf LL.func51 (by kernel_rfl) (by kernel_rfl) args w
theorem LL.func52:Tryz.L.funcs[52]? = some Tryz.f52:=LL.funcOf Tryz.func52 (by kernel_rfl)
@[go_sem] theorem LL.call52 (args:Array Value) (w:World):Sem.run Tryz.L (callFunc 52 args) w=.ok (.enter 52 args) w:=LL.callOf LL.func52 (by kernel_rfl) (by kernel_rfl) args w
theorem LL.func53:Tryz.L.funcs[53]? = some Tryz.f53:=LL.funcOf Tryz.func53 (by kernel_rfl)
@[go_sem] theorem LL.call53 (args:Array Value) (w:World):Sem.run Tryz.L (callFunc 53 args) w=.ok (.enter 53 args) w:=LL.callOf LL.func53 (by kernel_rfl) (by kernel_rfl) args w
theorem LL.func54:Tryz.L.funcs[54]? = some Tryz.f54:=LL.funcOf Tryz.func54 (by kernel_rfl)
theorem LL.func55:Tryz.L.funcs[55]? = some Tryz.f55:=LL.funcOf Tryz.func55 (by kernel_rfl)
@[go_sem] theorem LL.call55 (args:Array Value) (w:World):Sem.run Tryz.L (callFunc 55 args) w=.ok (.enter 55 args) w:=LL.callOf LL.func55 (by kernel_rfl) (by kernel_rfl) args w
theorem LL.func56:Tryz.L.funcs[56]? = some Tryz.f56:=LL.funcOf Tryz.func56 (by kernel_rfl)
@[go_sem] theorem LL.call56 (args:Array Value) (w:World):Sem.run Tryz.L (callFunc 56 args) w=.ok (.enter 56 args) w:=LL.callOf LL.func56 (by kernel_rfl) (by kernel_rfl) args w
theorem LL.func67:Tryz.L.funcs[67]? = some Tryz.f67:=LL.funcOf Tryz.func67 (by kernel_rfl)
@[go_sem] theorem LL.call67 (args:Array Value) (w:World):Sem.run Tryz.L (callFunc 67 args) w=.ok (.enter 67 args) w:=LL.callOf LL.func67 (by kernel_rfl) (by kernel_rfl) args w
theorem LL.func68:Tryz.L.funcs[68]? = some Tryz.f68:=LL.funcOf Tryz.func68 (by kernel_rfl)
@[go_sem] theorem LL.call68 (args:Array Value) (w:World):Sem.run Tryz.L (callFunc 68 args) w=.ok (.enter 68 args) w:=LL.callOf LL.func68 (by kernel_rfl) (by kernel_rfl) args w
theorem LL.func69:Tryz.L.funcs[69]? = some Tryz.f69:=LL.funcOf Tryz.func69 (by kernel_rfl)
@[go_sem] theorem LL.call69 (args:Array Value) (w:World):Sem.run Tryz.L (callFunc 69 args) w=.ok (.enter 69 args) w:=LL.callOf LL.func69 (by kernel_rfl) (by kernel_rfl) args w
theorem LL.func70:Tryz.L.funcs[70]? = some Tryz.f70:=LL.funcOf Tryz.func70 (by kernel_rfl)
@[go_sem] theorem LL.call70 (args:Array Value) (w:World):Sem.run Tryz.L (callFunc 70 args) w=.ok (.enter 70 args) w:=LL.callOf LL.func70 (by kernel_rfl) (by kernel_rfl) args w
theorem LL.func79:Tryz.L.funcs[79]? = some Tryz.f79:=LL.funcOf Tryz.func79 (by kernel_rfl)
@[go_sem] theorem LL.call79 (args:Array Value) (w:World):Sem.run Tryz.L (callFunc 79 args) w=.ok (.enter 79 args) w:=LL.callOf LL.func79 (by kernel_rfl) (by kernel_rfl) args w
theorem LL.func80:Tryz.L.funcs[80]? = some Tryz.f80:=LL.funcOf Tryz.func80 (by kernel_rfl)
@[go_sem] theorem LL.call80 (args:Array Value) (w:World):Sem.run Tryz.L (callFunc 80 args) w=.ok (.enter 80 args) w:=LL.callOf LL.func80 (by kernel_rfl) (by kernel_rfl) args w
theorem LL.func81:Tryz.L.funcs[81]? = some Tryz.f81:=LL.funcOf Tryz.func81 (by kernel_rfl)
@[go_sem] theorem LL.call81 (args:Array Value) (w:World):Sem.run Tryz.L (callFunc 81 args) w=.ok (.enter 81 args) w:=LL.callOf LL.func81 (by kernel_rfl) (by kernel_rfl) args w
theorem LL.func82:Tryz.L.funcs[82]? = some Tryz.f82:=LL.funcOf Tryz.func82 (by kernel_rfl)
@[go_sem] theorem LL.call82 (args:Array Value) (w:World):Sem.run Tryz.L (callFunc 82 args) w=.ok (.enter 82 args) w:=LL.callOf LL.func82 (by kernel_rfl) (by kernel_rfl) args w
theorem LL.func83:Tryz.L.funcs[83]? = some Tryz.f83:=LL.funcOf Tryz.func83 (by kernel_rfl)
@[go_sem] theorem LL.call83 (args:Array Value) (w:World):Sem.run Tryz.L (callFunc 83 args) w=.ok (.enter 83 args) w:=LL.callOf LL.func83 (by kernel_rfl) (by kernel_rfl) args w
theorem LL.func87:Tryz.L.funcs[87]? = some Tryz.f87:=LL.funcOf Tryz.func87 (by kernel_rfl)
@[go_sem] theorem LL.call87 (args:Array Value) (w:World):Sem.run Tryz.L (callFunc 87 args) w=.ok (.enter 87 args) w:=LL.callOf LL.func87 (by kernel_rfl) (by kernel_rfl) args w
theorem LL.func89:Tryz.L.funcs[89]? = some Tryz.f89:=LL.funcOf Tryz.func89 (by kernel_rfl)
@[go_sem] theorem LL.call89 (args:Array Value) (w:World):Sem.run Tryz.L (callFunc 89 args) w=.ok (.enter 89 args) w:=LL.callOf LL.func89 (by kernel_rfl) (by kernel_rfl) args w
theorem LL.func94:Tryz.L.funcs[94]? = some Tryz.f94:=LL.funcOf Tryz.func94 (by kernel_rfl)
@[go_sem] theorem LL.call94 (args:Array Value) (w:World):Sem.run Tryz.L (callFunc 94 args) w=.ok (.enter 94 args) w:=LL.callOf LL.func94 (by kernel_rfl) (by kernel_rfl) args w
theorem LL.func96:Tryz.L.funcs[96]? = some Tryz.f96:=LL.funcOf Tryz.func96 (by kernel_rfl)
@[go_sem] theorem LL.call96 (args:Array Value) (w:World):Sem.run Tryz.L (callFunc 96 args) w=.ok (.enter 96 args) w:=LL.callOf LL.func96 (by kernel_rfl) (by kernel_rfl) args w
theorem LL.func97:Tryz.L.funcs[97]? = some Tryz.f97:=LL.funcOf Tryz.func97 (by kernel_rfl)
@[go_sem] theorem LL.call97 (args:Array Value) (w:World):Sem.run Tryz.L (callFunc 97 args) w=.ok (.enter 97 args) w:=LL.callOf LL.func97 (by kernel_rfl) (by kernel_rfl) args w
theorem LL.func102:Tryz.L.funcs[102]? = some Tryz.f102:=LL.funcOf Tryz.func102 (by kernel_rfl)
@[go_sem] theorem LL.call102 (args:Array Value) (w:World):Sem.run Tryz.L (callFunc 102 args) w=.ok (.enter 102 args) w:=LL.callOf LL.func102 (by kernel_rfl) (by kernel_rfl) args w
theorem LL.func108:Tryz.L.funcs[108]? = some Tryz.f108:=LL.funcOf Tryz.func108 (by kernel_rfl)
@[go_sem] theorem LL.call108 (args:Array Value) (w:World):Sem.run Tryz.L (callFunc 108 args) w=.ok (.enter 108 args) w:=LL.callOf LL.func108 (by kernel_rfl) (by kernel_rfl) args w
theorem LL.func109:Tryz.L.funcs[109]? = some Tryz.f109:=LL.funcOf Tryz.func109 (by kernel_rfl)
@[go_sem] theorem LL.call109 (args:Array Value) (w:World):Sem.run Tryz.L (callFunc 109 args) w=.ok (.enter 109 args) w:=LL.callOf LL.func109 (by kernel_rfl) (by kernel_rfl) args w
theorem LL.func110:Tryz.L.funcs[110]? = some Tryz.f110:=LL.funcOf Tryz.func110 (by kernel_rfl)
@[go_sem] theorem LL.call110 (args:Array Value) (w:World):Sem.run Tryz.L (callFunc 110 args) w=.ok (.enter 110 args) w:=LL.callOf LL.func110 (by kernel_rfl) (by kernel_rfl) args w
theorem LL.func111:Tryz.L.funcs[111]? = some Tryz.f111:=LL.funcOf Tryz.func111 (by kernel_rfl)
@[go_sem] theorem LL.call111 (args:Array Value) (w:World):Sem.run Tryz.L (callFunc 111 args) w=.ok (.enter 111 args) w:=LL.callOf LL.func111 (by kernel_rfl) (by kernel_rfl) args w
theorem LL.func112:Tryz.L.funcs[112]? = some Tryz.f112:=LL.funcOf Tryz.func112 (by kernel_rfl)
@[go_sem] theorem LL.call112 (args:Array Value) (w:World):Sem.run Tryz.L (callFunc 112 args) w=.ok (.enter 112 args) w:=LL.callOf LL.func112 (by kernel_rfl) (by kernel_rfl) args w
theorem LL.func113:Tryz.L.funcs[113]? = some Tryz.f113:=LL.funcOf Tryz.func113 (by kernel_rfl)
@[go_sem] theorem LL.call113 (args:Array Value) (w:World):Sem.run Tryz.L (callFunc 113 args) w=.ok (.enter 113 args) w:=LL.callOf LL.func113 (by kernel_rfl) (by kernel_rfl) args w
theorem LL.func114:Tryz.L.funcs[114]? = some Tryz.f114:=LL.funcOf Tryz.func114 (by kernel_rfl)
@[go_sem] theorem LL.call114 (args:Array Value) (w:World):Sem.run Tryz.L (callFunc 114 args) w=.ok (.enter 114 args) w:=LL.callOf LL.func114 (by kernel_rfl) (by kernel_rfl) args w
theorem LL.func124:Tryz.L.funcs[124]? = some Tryz.f124:=LL.funcOf Tryz.func124 (by kernel_rfl)
@[go_sem] theorem LL.call124 (args:Array Value) (w:World):Sem.run Tryz.L (callFunc 124 args) w=.ok (.enter 124 args) w:=LL.callOf LL.func124 (by kernel_rfl) (by kernel_rfl) args w
theorem LL.func125:Tryz.L.funcs[125]? = some Tryz.f125:=LL.funcOf Tryz.func125 (by kernel_rfl)
@[go_sem] theorem LL.call125 (args:Array Value) (w:World):Sem.run Tryz.L (callFunc 125 args) w=.ok (.enter 125 args) w:=LL.callOf LL.func125 (by kernel_rfl) (by kernel_rfl) args w
theorem LL.func127:Tryz.L.funcs[127]? = some Tryz.f127:=LL.funcOf Tryz.func127 (by kernel_rfl)
@[go_sem] theorem LL.call127 (args:Array Value) (w:World):Sem.run Tryz.L (callFunc 127 args) w=.ok (.enter 127 args) w:=LL.callOf LL.func127 (by kernel_rfl) (by kernel_rfl) args w
theorem LL.func128:Tryz.L.funcs[128]? = some Tryz.f128:=LL.funcOf Tryz.func128 (by kernel_rfl)
@[go_sem] theorem LL.call128 (args:Array Value) (w:World):Sem.run Tryz.L (callFunc 128 args) w=.ok (.enter 128 args) w:=LL.callOf LL.func128 (by kernel_rfl) (by kernel_rfl) args w
theorem LL.func133:Tryz.L.funcs[133]? = some Tryz.f133:=LL.funcOf Tryz.func133 (by kernel_rfl)
@[go_sem] theorem LL.call133 (args:Array Value) (w:World):Sem.run Tryz.L (callFunc 133 args) w=.ok (.enter 133 args) w:=LL.callOf LL.func133 (by kernel_rfl) (by kernel_rfl) args w
theorem LL.func134:Tryz.L.funcs[134]? = some Tryz.f134:=LL.funcOf Tryz.func134 (by kernel_rfl)
@[go_sem] theorem LL.call134 (args:Array Value) (w:World):Sem.run Tryz.L (callFunc 134 args) w=.ok (.enter 134 args) w:=LL.callOf LL.func134 (by kernel_rfl) (by kernel_rfl) args w
theorem LL.func150:Tryz.L.funcs[150]? = some Tryz.f150:=LL.funcOf Tryz.func150 (by kernel_rfl)
@[go_sem] theorem LL.call150 (args:Array Value) (w:World):Sem.run Tryz.L (callFunc 150 args) w=.ok (.enter 150 args) w:=LL.callOf LL.func150 (by kernel_rfl) (by kernel_rfl) args w
theorem LL.func151:Tryz.L.funcs[151]? = some Tryz.f151:=LL.funcOf Tryz.func151 (by kernel_rfl)
@[go_sem] theorem LL.call151 (args:Array Value) (w:World):Sem.run Tryz.L (callFunc 151 args) w=.ok (.enter 151 args) w:=LL.callOf LL.func151 (by kernel_rfl) (by kernel_rfl) args w
theorem LL.func152:Tryz.L.funcs[152]? = some Tryz.f152:=LL.funcOf Tryz.func152 (by kernel_rfl)
@[go_sem] theorem LL.call152 (args:Array Value) (w:World):Sem.run Tryz.L (callFunc 152 args) w=.ok (.enter 152 args) w:=LL.callOf LL.func152 (by kernel_rfl) (by kernel_rfl) args w
theorem LL.func153:Tryz.L.funcs[153]? = some Tryz.f153:=LL.funcOf Tryz.func153 (by kernel_rfl)
@[go_sem] theorem LL.call153 (args:Array Value) (w:World):Sem.run Tryz.L (callFunc 153 args) w=.ok (.enter 153 args) w:=LL.callOf LL.func153 (by kernel_rfl) (by kernel_rfl) args w
theorem LL.func154:Tryz.L.funcs[154]? = some Tryz.f154:=LL.funcOf Tryz.func154 (by kernel_rfl)
@[go_sem] theorem LL.call154 (args:Array Value) (w:World):Sem.run Tryz.L (callFunc 154 args) w=.ok (.enter 154 args) w:=LL.callOf LL.func154 (by kernel_rfl) (by kernel_rfl) args w
theorem LL.func155:Tryz.L.funcs[155]? = some Tryz.f155:=LL.funcOf Tryz.func155 (by kernel_rfl)
@[go_sem] theorem LL.call155 (args:Array Value) (w:World):Sem.run Tryz.L (callFunc 155 args) w=.ok (.enter 155 args) w:=LL.callOf LL.func155 (by kernel_rfl) (by kernel_rfl) args w
theorem LL.func156:Tryz.L.funcs[156]? = some Tryz.f156:=LL.funcOf Tryz.func156 (by kernel_rfl)
@[go_sem] theorem LL.call156 (args:Array Value) (w:World):Sem.run Tryz.L (callFunc 156 args) w=.ok (.enter 156 args) w:=LL.callOf LL.func156 (by kernel_rfl) (by kernel_rfl) args w
theorem LL.func157:Tryz.L.funcs[157]? = some Tryz.f157:=LL.funcOf Tryz.func157 (by kernel_rfl)
@[go_sem] theorem LL.call157 (args:Array Value) (w:World):Sem.run Tryz.L (callFunc 157 args) w=.ok (.enter 157 args) w:=LL.callOf LL.func157 (by kernel_rfl) (by kernel_rfl) args w
theorem LL.func158:Tryz.L.funcs[158]? = some Tryz.f158:=LL.funcOf Tryz.func158 (by kernel_rfl)
@[go_sem] theorem LL.call158 (args:Array Value) (w:World):Sem.run Tryz.L (callFunc 158 args) w=.ok (.enter 158 args) w:=LL.callOf LL.func158 (by kernel_rfl) (by kernel_rfl) args w
theorem LL.func159:Tryz.L.funcs[159]? = some Tryz.f159:=LL.funcOf Tryz.func159 (by kernel_rfl)
@[go_sem] theorem LL.call159 (args:Array Value) (w:World):Sem.run Tryz.L (callFunc 159 args) w=.ok (.enter 159 args) w:=LL.callOf LL.func159 (by kernel_rfl) (by kernel_rfl) args w
theorem LL.func167:Tryz.L.funcs[167]? = some Tryz.f167:=LL.funcOf Tryz.func167 (by kernel_rfl)
@[go_sem] theorem LL.call167 (args:Array Value) (w:World):Sem.run Tryz.L (callFunc 167 args) w=.ok (.enter 167 args) w:=LL.callOf LL.func167 (by kernel_rfl) (by kernel_rfl) args w
theorem LL.func198:Tryz.L.funcs[198]? = some Tryz.f198:=LL.funcOf Tryz.func198 (by kernel_rfl)
@[go_sem] theorem LL.call198 (args:Array Value) (w:World):Sem.run Tryz.L (callFunc 198 args) w=.ok (.enter 198 args) w:=LL.callOf LL.func198 (by kernel_rfl) (by kernel_rfl) args w
theorem LL.func199:Tryz.L.funcs[199]? = some Tryz.f199:=LL.funcOf Tryz.func199 (by kernel_rfl)
@[go_sem] theorem LL.call199 (args:Array Value) (w:World):Sem.run Tryz.L (callFunc 199 args) w=.ok (.enter 199 args) w:=LL.callOf LL.func199 (by kernel_rfl) (by kernel_rfl) args w
theorem LL.func200:Tryz.L.funcs[200]? = some Tryz.f200:=LL.funcOf Tryz.func200 (by kernel_rfl)
@[go_sem] theorem LL.call200 (args:Array Value) (w:World):Sem.run Tryz.L (callFunc 200 args) w=.ok (.enter 200 args) w:=LL.callOf LL.func200 (by kernel_rfl) (by kernel_rfl) args w
theorem LL.func201:Tryz.L.funcs[201]? = some Tryz.f201:=LL.funcOf Tryz.func201 (by kernel_rfl)
@[go_sem] theorem LL.call201 (args:Array Value) (w:World):Sem.run Tryz.L (callFunc 201 args) w=.ok (.enter 201 args) w:=LL.callOf LL.func201 (by kernel_rfl) (by kernel_rfl) args w
theorem LL.func202:Tryz.L.funcs[202]? = some Tryz.f202:=LL.funcOf Tryz.func202 (by kernel_rfl)
@[go_sem] theorem LL.call202 (args:Array Value) (w:World):Sem.run Tryz.L (callFunc 202 args) w=.ok (.enter 202 args) w:=LL.callOf LL.func202 (by kernel_rfl) (by kernel_rfl) args w
theorem LL.func203:Tryz.L.funcs[203]? = some Tryz.f203:=LL.funcOf Tryz.func203 (by kernel_rfl)
@[go_sem] theorem LL.call203 (args:Array Value) (w:World):Sem.run Tryz.L (callFunc 203 args) w=.ok (.enter 203 args) w:=LL.callOf LL.func203 (by kernel_rfl) (by kernel_rfl) args w
theorem LL.func204:Tryz.L.funcs[204]? = some Tryz.f204:=LL.funcOf Tryz.func204 (by kernel_rfl)
@[go_sem] theorem LL.call204 (args:Array Value) (w:World):Sem.run Tryz.L (callFunc 204 args) w=.ok (.enter 204 args) w:=LL.callOf LL.func204 (by kernel_rfl) (by kernel_rfl) args w
theorem LL.func238:Tryz.L.funcs[238]? = some Tryz.f238:=LL.funcOf Tryz.func238 (by kernel_rfl)
@[go_sem] theorem LL.call238 (args:Array Value) (w:World):Sem.run Tryz.L (callFunc 238 args) w=.ok (.enter 238 args) w:=LL.callOf LL.func238 (by kernel_rfl) (by kernel_rfl) args w
theorem LL.func239:Tryz.L.funcs[239]? = some Tryz.f239:=LL.funcOf Tryz.func239 (by kernel_rfl)
@[go_sem] theorem LL.call239 (args:Array Value) (w:World):Sem.run Tryz.L (callFunc 239 args) w=.ok (.enter 239 args) w:=LL.callOf LL.func239 (by kernel_rfl) (by kernel_rfl) args w
theorem LL.func240:Tryz.L.funcs[240]? = some Tryz.f240:=LL.funcOf Tryz.func240 (by kernel_rfl)
@[go_sem] theorem LL.call240 (args:Array Value) (w:World):Sem.run Tryz.L (callFunc 240 args) w=.ok (.enter 240 args) w:=LL.callOf LL.func240 (by kernel_rfl) (by kernel_rfl) args w
theorem LL.func242:Tryz.L.funcs[242]? = some Tryz.f242:=LL.funcOf Tryz.func242 (by kernel_rfl)
@[go_sem] theorem LL.call242 (args:Array Value) (w:World):Sem.run Tryz.L (callFunc 242 args) w=.ok (.enter 242 args) w:=LL.callOf LL.func242 (by kernel_rfl) (by kernel_rfl) args w
theorem LL.func243:Tryz.L.funcs[243]? = some Tryz.f243:=LL.funcOf Tryz.func243 (by kernel_rfl)
@[go_sem] theorem LL.call243 (args:Array Value) (w:World):Sem.run Tryz.L (callFunc 243 args) w=.ok (.enter 243 args) w:=LL.callOf LL.func243 (by kernel_rfl) (by kernel_rfl) args w
theorem LL.func293:Tryz.L.funcs[293]? = some Tryz.f293:=LL.funcOf Tryz.func293 (by kernel_rfl)
theorem LL.func294:Tryz.L.funcs[294]? = some Tryz.f294:=LL.funcOf Tryz.func294 (by kernel_rfl)
@[go_sem] theorem LL.call294 (args:Array Value) (w:World):Sem.run Tryz.L (callFunc 294 args) w=.ok (.enter 294 args) w:=LL.callOf LL.func294 (by kernel_rfl) (by kernel_rfl) args w
theorem LL.func314:Tryz.L.funcs[314]? = some Tryz.f314:=LL.funcOf Tryz.func314 (by kernel_rfl)
theorem LL.func315:Tryz.L.funcs[315]? = some Tryz.f315:=LL.funcOf Tryz.func315 (by kernel_rfl)
theorem LL.func316:Tryz.L.funcs[316]? = some Tryz.f316:=LL.funcOf Tryz.func316 (by kernel_rfl)
theorem LL.func317:Tryz.L.funcs[317]? = some Tryz.f317:=LL.funcOf Tryz.func317 (by kernel_rfl)
theorem LL.func318:Tryz.L.funcs[318]? = some Tryz.f318:=LL.funcOf Tryz.func318 (by kernel_rfl)
theorem LL.func319:Tryz.L.funcs[319]? = some Tryz.f319:=LL.funcOf Tryz.func319 (by kernel_rfl)
end
end Go.Proofs
namespace Go.Tame
open Go.Conc
section
open Go.ConcN (sumTo upd sumTo_upd upd_ne upd_same)
def valOp:Op->Bool
  | .call c=>match c.callee with | .builtin b=>okBuiltin b|_=>false
  | .defer _ | .select ..=>false
  | _=>true
section
variable {P Q:Program}{v v':World}{n:Next}
theorem val_v {s:Sem Value}(h:(do pure (Next.value (← s)):Sem Next).run Q v=.ok n v'):(∃ y,n=.value y)∨n=.skip:=by
  rw [Sem.run_bind] at h
  cases hr:s.run Q v with
  | ok a w=>rw [hr] at h;cases h;exact .inl ⟨_,rfl⟩
  | halt y w=>rw [hr] at h;cases h
theorem val_u {s:Sem Unit}(h:(do s;pure Next.skip:Sem Next).run Q v=.ok n v'):(∃ y,n=.value y)∨n=.skip:=by
  rw [Sem.run_bind] at h
  cases hr:s.run Q v with
  | ok a w=>rw [hr] at h;cases h;exact .inr rfl
  | halt y w=>rw [hr] at h;cases h
theorem val_builtin {b:Builtin}(hb:okBuiltin b=true){a:Array TypeId}{t:TypeId}{c:Array Bool}{x:Array Value}(h:(builtin b a t c x).run Q v=.ok n v'):(∃ y,n=.value y)∨n=.skip:=by
  cases b <;> first|(cases hb;done)|exact val_v h
theorem val_execOp (ρ:Operand->Value){o:Oper}(hv:valOp o.op=true)(hok:okOp P o.op=true)(h:(execOp ρ o).run Q v=.ok n v'):(∃ y,n=.value y)∨n=.skip:=by
  unfold execOp at h
  obtain ⟨dst,op,ty,pos,after,guard⟩:=o
  dsimp only at hv hok h
  cases op with
  | move=>cases h;exact .inl ⟨_,rfl⟩
  | assign=>cases h;exact .inl ⟨_,rfl⟩
  | pick=>
    obtain ⟨b,v₁,_,h⟩:=run_bind_ok h
    cases h;exact .inl ⟨_,rfl⟩
  | nilCheck x=>
    dsimp only at h
    split at h
    · exact absurd h (never_runtimePanic _ _ _ _ _)
    · exact absurd h (never_runtimePanic _ _ _ _ _)
    · exact absurd h (never_runtimePanic _ _ _ _ _)
    · split at h
      · exact absurd h (never_runtimePanic _ _ _ _ _)
      · obtain ⟨p,v₁,_,h⟩:=run_bind_ok h
        obtain ⟨q,v₂,_,h⟩:=run_bind_ok h
        split at h
        · obtain ⟨_,_,h3,_⟩:=run_bind_ok h
          exact absurd h3 (never_unsupported _ _ _ _ _)
        · cases h;exact .inl ⟨_,rfl⟩
      · cases h;exact .inl ⟨_,rfl⟩
    · cases h;exact .inl ⟨_,rfl⟩
  | call c=>
    obtain ⟨d,v₁,h1,h2⟩:=run_bind_ok h
    unfold resolve at h1
    simp only [valOp] at hv
    split at h1
    · rename_i b hb
      cases h1
      rw [hb] at hv
      exact val_builtin (b:=b) hv (by unfold invoke at h2;exact h2)
    · rename_i f hb;rw [hb] at hv;cases hv
    · rename_i hb;rw [hb] at hv;cases hv
  | defer c=>cases hv
  | select cases blocking=>cases hv
  | go|send|recv|ready|waits|sliceToArrayPointer|mapEntry|entryStore=>cases hok
  | store|mapUpdate|insert=>exact val_u h
  | _=>exact val_v h
end
structure Setting (P:Program) where
  Gh:Type
  S:Gh->Prot
  F:Gh->Array Func
  C:Gh->List Frame->Macros
  top:∀ g cs,(C g cs).κ
  J:∀ g cs,(C g cs).κ->World->(Nat->Option Chair)->Prop
  Jt:Gh->World->(Nat->Option Chair)->Prop
structure Setting.Ok {P:Program} (Z:Setting P):Prop where
  hand:∀ g cs,(Z.C g cs).hand (Z.top g cs)=0
  cs:∀ g cs,(Z.C g cs).cs (Z.top g cs)=cs
  low:∀ g cs,(Z.C g cs).low (Z.top g cs) = []
  only:∀ g cs m,(Z.C g cs).low m = []->m=Z.top g cs
  jt:∀ g cs w In,Z.J g cs (Z.top g cs) w In ↔ Z.Jt g w In
  keep:∀ g cs m w w' In,Kept (Z.S g) w w'->Z.J g cs m w In->Z.J g cs m w' In
  tick:∀ g cs m w In d,Z.J g cs m w In->Z.J g cs m (w.at d) In
  runs:∀ g cs,MacroRuns P (Z.S g) (Z.C g cs) (Z.J g cs)
  funcs:∀ g,Funcs (Z.S g) P (Z.F g)
  codes:∀ g cs,Codes P (Z.F g) (Z.C g cs).Sp
  macros:∀ g cs,MacrosOk (Z.S g) P (Z.F g) (Z.C g cs)
def CW {P:Program} (Z:Setting P) (g:Z.Gh) (fr:Frame) (cs:List Frame) (v:World) (X:Z.Gh->Frame->List Frame->World->Prop):Prop:=
  ∀ w,Like (Z.S g) w v->∀ (In:Nat->Option Chair) (T:Trace) (gs:Array Goroutine) (q:Nat->Nat) (sl:Option (Nat × Nat)),House P (Z.S g) In 0 T gs w q->Z.Jt g w In->gs[0]? = some (G fr cs) ->
    ∃ (N:Nat) (gs':Array Goroutine) (g':Z.Gh) (fr':Frame) (cs':List Frame) (w' v':World) (sl':Option (Nat × Nat)) (T':Trace) (q':Nat->Nat) (In':Nat->Option Chair),
      runNT P N (crowd gs w sl) T=(.next (crowd gs' w' sl'),T')/\gs'[0]? = some (G fr' cs')/\X g' fr' cs' v'/\Like (Z.S g') w' v'/\House P (Z.S g') In' 0 T' gs' w' q'/\Z.Jt g' w' In'
section
variable {P:Program}{Z:Setting P}{g:Z.Gh}{fr fr':Frame}{cs:List Frame}{v:World}{X X':Z.Gh->Frame->List Frame->World->Prop}
theorem Setting.Ok.keepT (ok:Z.Ok){w w':World}{In:Nat->Option Chair}(hk:Kept (Z.S g) w w')(h:Z.Jt g w In):Z.Jt g w' In:=(ok.jt g [] w' In).1 (ok.keep g [] _ _ _ _ hk ((ok.jt g [] w In).2 h))
theorem Setting.Ok.atT (ok:Z.Ok){w:World}{In:Nat->Option Chair}(d:Nat)(h:Z.Jt g w In):Z.Jt g (w.at d) In:=(ok.jt g [] _ In).1 (ok.tick g [] _ _ _ _ ((ok.jt g [] w In).2 h))
theorem CW.done (h:X g fr cs v):CW Z g fr cs v X:=fun w hl In T gs q sl H hj ha=>⟨0,gs,g,fr,cs,w,v,sl,T,q,In,rfl,ha,h,hl,H,hj⟩
theorem CW.trans (h:CW Z g fr cs v X)(k:∀ g fr cs v,X g fr cs v->CW Z g fr cs v X'):CW Z g fr cs v X':=by
  intro w hl In T gs q sl H hj ha
  obtain ⟨N,gs',g',fr',cs',w',v',sl',T',q',In',h1,h2,h3,h4,h5,h6⟩:=h w hl In T gs q sl H hj ha
  obtain ⟨M,gs₂,g₂,fr₂,cs₂,w₂,v₂,sl₂,T₂,q₂,In₂,k1,k2⟩:=k _ _ _ _ h3 w' h4 In' T' gs' q' sl' h5 h6 h2
  exact ⟨N+M,gs₂,g₂,fr₂,cs₂,w₂,v₂,sl₂,T₂,q₂,In₂,by rw [runNT_add,h1];exact k1,k2⟩
theorem CW.mono (h:CW Z g fr cs v X)(k:∀ g fr cs v,X g fr cs v->X' g fr cs v):CW Z g fr cs v X':=h.trans fun _ _ _ _ hx=>.done (k _ _ _ _ hx)
theorem CW.ghost {g':Z.Gh}{v':World}(hS:(Z.S g).Le (Z.S g'))(hap:∀ a,(Z.S g').gone a->¬ (Z.S g').keep a)(h:∀ w In,Like (Z.S g) w v->Z.Jt g w In->Like (Z.S g') w v'/\Z.Jt g' w In)(k:CW Z g' fr cs v' X):CW Z g fr cs v X:=by
  intro w hl In T gs q sl H hj ha
  obtain ⟨h1,h2⟩:=h w In hl hj
  refine k w h1 In T gs q sl ⟨H.waits,H.wf,H.chans,H.keep,fun j c a e hx=>hS.keep a (H.prot j c a e hx),fun j c a e hx=>hS.gone a (H.nearGone j c a e hx),hap,H.none,?_,H.hears,H.hear,H.new,H.bound⟩ h2 ha
  exact ⟨H.tr.clean,fun i a hx hm=>(H.tr.known i a hx hm).imp id (.imp id fun ⟨⟨x,e,hg⟩,z⟩=>⟨⟨x,e,hS.gone _ hg⟩,z⟩),H.tr.wrote⟩
theorem CW.own (ok:Z.Ok)(hs:∀ w,Like (Z.S g) w v->∃ fr' cs' u v' es,stepG P true (G fr cs) w=.go (G fr' cs') u es/\Kept (Z.S g) w u/\(∀ e ∈ es,EvGood (Z.S g) e)/\Like (Z.S g) u v'/\CW Z g fr' cs' v' X):CW Z g fr cs v X:=by
  intro w hl In T gs q sl H hj ha
  obtain ⟨K,gs',a',d',u,sl',T',q',k1,k2,k3,k4,⟨fr',cs',v',rfl,k5,k6⟩,k7⟩:=one (h:=0) (a:=G fr cs) rfl (X:=fun a' u=>∃ fr' cs' v',a'=G fr' cs'/\Like (Z.S g) u v'/\CW Z g fr' cs' v' X) (w:=w)
    (fun d=>by
      obtain ⟨fr',cs',u,v',es,e1,e2,e3,e4,e5⟩:=hs (w.at d) (hl.at d)
      exact ⟨_,u,es,e1,e2,e3,fr',cs',v',rfl,e4,e5⟩) _ T gs q sl w.drawn rfl H ha
  obtain ⟨M,gs₂,g₂,fr₂,cs₂,w₂,v₂,sl₂,T₂,q₂,In₂,m1,m2⟩:=k6 u k5 In T' gs' q' sl' k7 (ok.keepT k4 (ok.atT d' hj)) k3
  exact ⟨K+M,gs₂,g₂,fr₂,cs₂,w₂,v₂,sl₂,T₂,q₂,In₂,by rw [runNT_add,show crowd gs w sl=crowd gs (w.at w.drawn) sl from rfl,k1];exact m1,m2⟩
theorem CW.ctl (ok:Z.Ok)(hs:∀ w,stepG P true (G fr cs) w=.go (G fr' cs) w #[])(h:CW Z g fr' cs v X):CW Z g fr cs v X:=
  .own ok fun w hl=>⟨fr',cs,w,v,#[],hs w,Kept.refl _ _,by simp,hl,h⟩
variable {b:Frame}{a:Act}{k:List Item}
theorem CW.skip (ok:Z.Ok)(h:CW Z g (b.at a k) cs v X):CW Z g (b.at a (.code .skip :: k)) cs v X:=.ctl ok (fun w=>by simp [stepG,stepG.exec,Frame.at,G]) h
theorem CW.inBlock (ok:Z.Ok){id:Nat}(h:CW Z g (b.at a k) cs v X):CW Z g (b.at a (.inBlock id :: k)) cs v X:=.ctl ok (fun w=>by simp [stepG,stepG.exec,Frame.at,G]) h
theorem CW.seq (ok:Z.Ok){x y:Code}(h:CW Z g (b.at a (.code x :: .code y :: k)) cs v X):CW Z g (b.at a (.code (.seq x y) :: k)) cs v X:=.ctl ok (fun w=>by simp [stepG,stepG.exec,Frame.at,G]) h
theorem CW.block (ok:Z.Ok){id:Nat}{c:Code}(h:CW Z g (b.at a (.code c :: .inBlock id :: k)) cs v X):CW Z g (b.at a (.code (.block id c) :: k)) cs v X:=.ctl ok (fun w=>by simp [stepG,stepG.exec,Frame.at,G]) h
theorem CW.loop (ok:Z.Ok){c:Code}(h:CW Z g (b.at a (.code c :: .inLoop c :: k)) cs v X):CW Z g (b.at a (.code (.loop c) :: k)) cs v X:=.ctl ok (fun w=>by simp [stepG,stepG.exec,Frame.at,G]) h
theorem CW.inLoop (ok:Z.Ok){c:Code}(h:CW Z g (b.at a (.code c :: .inLoop c :: k)) cs v X):CW Z g (b.at a (.inLoop c :: k)) cs v X:=.ctl ok (fun w=>by simp [stepG,stepG.exec,Frame.at,G]) h
theorem CW.exit (ok:Z.Ok){id:Nat}{k':List Item}(he:exitTo id k=some k')(h:CW Z g (b.at a k') cs v X):CW Z g (b.at a (.code (.exit id) :: k)) cs v X:=.ctl ok (fun w=>by simp [stepG,stepG.exec,Frame.at,G,he]) h
theorem CW.cond (ok:Z.Ok){c:Operand}{x y:Code}{t:Bool}(hc:a.eval c=.bool t)(h:CW Z g (b.at a (.code (if t then x else y) :: k)) cs v X):CW Z g (b.at a (.code (.cond c x y) :: k)) cs v X:=
  .ctl ok (fun w=>by
    have:=Frame.eval_at b a (.code (.cond c x y) :: k) c
    simp only [Frame.at] at this
    simp [stepG,stepG.exec,Frame.at,G,this,hc]) h
theorem CW.region (ok:Z.Ok){id:Nat}{ops:Array Oper}(h:CW Z g (b.at a (.inRegion ops (List.range ops.size) :: k)) cs v X):CW Z g (b.at a (.code (.region id ops false) :: k)) cs v X:=.ctl ok (fun w=>by simp [stepG,stepG.exec,Frame.at,G]) h
theorem CW.regionEnd (ok:Z.Ok){ops:Array Oper}(h:CW Z g (b.at a k) cs v X):CW Z g (b.at a (.inRegion ops [] :: k)) cs v X:=.ctl ok (fun w=>by simp [stepG,stepG.exec,Frame.at,G]) h
theorem CW.opSkip (ok:Z.Ok){ops:Array Oper}{i:Nat}{rest:List Nat}{o:Oper}(ho:ops[i]? = some o)(hw:Region.wanted o (yielded ops a.tmps)=false)(h:CW Z g (b.at (a.put o.dst undef) (.inRegion ops rest :: k)) cs v X):CW Z g (b.at a (.inRegion ops (i :: rest) :: k)) cs v X:=by
  have hf:(b.at a (.inRegion ops (i :: rest) :: k)).finish undef=b.at (a.put o.dst undef) (.inRegion ops rest :: k):=by rw [Frame.finish_at,ho];rfl
  refine .ctl ok (fun w=>?_) h
  rw [← hf]
  simp only [Frame.at,G] at *
  simp [stepG,stepG.exec,ho,hw]
theorem CW.valK (ok:Z.Ok){ops:Array Oper}{i:Nat}{rest:List Nat}{o:Oper}(ho:ops[i]? = some o)(hw:Region.wanted o (yielded ops a.tmps)=true)(hv:valOp o.op=true)(hop:okOp P o.op=true)(hk:b.kind≠.early)
    {K:Act->World->Prop} (hK:∀ a' v',(∀ t,Agree t v'.tape v'.drawn->K a' (retape v' t))->CW Z g (b.at a' (.inRegion ops rest :: k)) cs v' X)
    (h:∀ t,Agree t v.tape v.drawn->o.wp (withFuncs P (Z.F g)) a (retape v t) K (fun _ _ _=>False)):CW Z g (b.at a (.inRegion ops (i :: rest) :: k)) cs v X:=by
  refine .own ok fun w hl=>?_
  have hfin:∀ y,(b.at a (.inRegion ops (i :: rest) :: k)).finish y=b.at (a.put o.dst y) (.inRegion ops rest :: k):=fun y=>by rw [Frame.finish_at,ho];rfl
  have hst:stepG P true (G (b.at a (.inRegion ops (i :: rest) :: k)) cs) w=stepG.apply P true (b.at a (.inRegion ops (i :: rest) :: k)) cs none (execOp a.eval o) w:=stepG_op ho hw
  obtain ⟨t,r,h1,h2,h3,h4⟩:=t_execOp (L:=[]) (ok.funcs g) a.eval o hop w v hl (by simp)
  have hx:∀ t',Agree t' t (end' r).drawn->o.upon (withFuncs P (Z.F g)) a K (fun _ _ _=>False) (re t' r):=fun t' ht'=>by
    have:=h t' (ht'.trans (h1.mono (Nat.le_refl _)) h2)
    unfold Oper.wp at this
    rw [h3 t' ht'] at this
    exact this
  have hr:=h3 t (Agree.refl _ _)
  match r,hx,hr,h4 with
  | .ok n v',hx,hr,⟨w',g1,g2,g3,g4⟩=>
    rcases val_execOp (P:=P) a.eval hv hop hr with ⟨y,rfl⟩|rfl
    · obtain ⟨es,he,h5,_⟩:=apply_ok (Q:=P) (fr:=b.at a (.inRegion ops (i :: rest) :: k)) (cs:=cs) hk g1
      exact ⟨_,cs,w',retape v' t,es,by rw [hst,h5 y rfl,hfin],g3,fun e hee=>g4 e (he e hee),g2.retape t,hK _ _ fun t' ht'=>hx t' ht'⟩
    · obtain ⟨es,he,_,h5,_⟩:=apply_ok (Q:=P) (fr:=b.at a (.inRegion ops (i :: rest) :: k)) (cs:=cs) hk g1
      exact ⟨_,cs,w',retape v' t,es,by rw [hst,h5 rfl,hfin],g3,fun e hee=>g4 e (he e hee),g2.retape t,hK _ _ fun t' ht'=>hx t' ht'⟩
  | .halt (.panic y) v',hx,_,_=>exact (hx t (Agree.refl _ _)).elim
  | .halt (.stuck y) v',hx,_,_=>exact (hx t (Agree.refl _ _)).elim
  | .halt (.unsupported y) v',hx,_,_=>exact (hx t (Agree.refl _ _)).elim
  | .halt .blocked _,_,_,d | .halt .waiting _,_,_,d | .halt .goexit _,_,_,d | .halt (.exit _) _,_,_,d | .halt (.fatal _) _,_,_,d | .halt (.throw _) _,_,_,d=>exact d.elim
theorem CW.list (ok:Z.Ok){ops:Array Oper}(hk:b.kind≠.early)(hops:∀ (i:Nat) (o:Oper),ops[i]? = some o->valOp o.op=true/\okOp P o.op=true) :
    ∀ (l:List Nat) (a:Act) (v:World),(∀ t,Agree t v.tape v.drawn->wpOps (withFuncs P (Z.F g)) ops (fun e a' v'=>e=.normal/\CW Z g (b.at a' k) cs v' X) l a (retape v t))->CW Z g (b.at a (.inRegion ops l :: k)) cs v X
  | [],a,v,h=>.regionEnd ok (h v.tape (Agree.refl _ _)).2
  | i :: rest,a,v,h=>by
    cases ho:ops[i]? with
    | none=>
      have hf:(b.at a (.inRegion ops (i :: rest) :: k)).finish undef=b.at a (.inRegion ops rest :: k):=by rw [Frame.finish_at,ho];rfl
      refine .ctl ok (fr':=b.at a (.inRegion ops rest :: k)) (fun w=>?_) (CW.list ok hk hops rest a v fun t ht=>?_)
      · rw [← hf]
        simp only [Frame.at,G] at *
        simp [stepG,stepG.exec,ho]
      · have:=h t ht
        simp only [wpOps,ho] at this
        exact this
    | some o=>
      by_cases hw:Region.wanted o (yielded ops a.tmps)=true
      · refine .valK ok ho hw (hops i o ho).1 (hops i o ho).2 hk (K:=wpOps (withFuncs P (Z.F g)) ops (fun e a' v'=>e=.normal/\CW Z g (b.at a' k) cs v' X) rest) (fun a' v' hv'=>CW.list ok hk hops rest a' v' hv') fun t ht=>?_
        have:=h t ht
        simp only [wpOps,ho,hw,if_true] at this
        rcases this with this|⟨_,_,_,hz⟩
        · unfold Oper.wp at this ⊢
          revert this
          generalize (execOp a.eval o).run (withFuncs P (Z.F g)) (retape v t)=r
          intro this
          match r,this with
          | .ok (.value _) _,this=>exact this
          | .ok .skip _,this=>exact this
          | .ok (.defer _) _,this=>exact this
          | .ok (.enter f args) w,this=>
            refine Calls.mono (R:=fun | .returned v,w''=>_ | .panicked chain,w''=>_ | .outgrown,_=>_) this fun e w' he=>?_
            cases e with
            | returned y=>exact he
            | panicked ch=>exact absurd he.1 (by simp)
            | outgrown=>obtain ⟨_,_,hz⟩:=he;exact absurd hz.1 (by simp)
          | .ok (.row _ _) _,this=>exact this
          | .halt (.panic _) _,this=>exact absurd this.1 (by simp)
        · exact absurd hz.1 (by simp)
      · have hw':Region.wanted o (yielded ops a.tmps)=false:=by simpa using hw
        refine .opSkip ok ho hw' (CW.list ok hk hops rest _ v fun t ht=>?_)
        have:=h t ht
        simp only [wpOps,ho,hw',Bool.false_eq_true,if_false] at this
        exact this
theorem CW.regionDraw (ok:Z.Ok){id:Nat}{ops:Array Oper}(hk:b.kind≠.early)(hops:∀ (i:Nat) (o:Oper),ops[i]? = some o->valOp o.op=true/\okOp P o.op=true)(hm:P.follows .mixedOrders=true)
    (h:∀ t d,wpAny (withFuncs P (Z.F g)) .any ops (fun e a' v'=>e=.normal/\CW Z g (b.at a' k) cs v' X) ops.size (Array.replicate ops.size false) a { v with tape:=t,drawn:=d }):CW Z g (b.at a (.code (.region id ops true) :: k)) cs v X:=by
  refine .own ok fun w hl=>⟨b.at a (.inRegion ops (Region.schedule (P.follows .mixedOrders) ops (w.tape w.drawn (.order b.fn id))) :: k),cs,{ w with drawn:=w.drawn+1 },{ v with drawn:=0 },#[],?_,kept_draw w,by simp,hl.draw _ _,?_⟩
  · simp [stepG,stepG.exec,Frame.at,G,choose,Sem.run,Question.forced,Question.cut]
  · refine CW.list ok hk hops _ a _ fun t _=>?_
    simp only [Region.schedule,hm,Bool.true_or,if_true]
    exact wpAny_sound ops.size _ _ a _ (h t 0)
theorem CW.enter (ok:Z.Ok){ops:Array Oper}{i:Nat}{rest:List Nat}{o:Oper}{f:FuncId}{args:Array Value}(ho:ops[i]? = some o)(hw:Region.wanted o (yielded ops a.tmps)=true)(hk:b.kind≠.early)
    (hr:∀ w,(execOp a.eval o).run P w=.ok (.enter f args) w/\(execOp a.eval o).events P w #[] = #[])
    (h:CW Z g (Frame.enter P f args .normal) (b.at a (.inRegion ops (i :: rest) :: k) :: cs) v X):CW Z g (b.at a (.inRegion ops (i :: rest) :: k)) cs v X:=by
  refine .own ok fun w hl=>?_
  have hst:stepG P true (G (b.at a (.inRegion ops (i :: rest) :: k)) cs) w=stepG.apply P true (b.at a (.inRegion ops (i :: rest) :: k)) cs none (execOp a.eval o) w:=stepG_op ho hw
  obtain ⟨es,he,_,_,h5,_⟩:=apply_ok (Q:=P) (fr:=b.at a (.inRegion ops (i :: rest) :: k)) (cs:=cs) hk (hr w).1
  refine ⟨_,_,w,v,es,by rw [hst,h5 f args rfl (by intro d x y z k' e;simp [Frame.at] at e)],Kept.refl _ _,fun e hee=>?_,hl,h⟩
  have:=he e hee
  rw [(hr w).2] at this
  simp at this
theorem CW.calls (ok:Z.Ok){c:Frame}{f:FuncId}{args:Array Value}(hsp:¬ (Z.C g (c :: cs)).Sp f)(hb:((Z.F g)[f]?).any (fun fn=>!fn.body.isNone)=true)
    (hc:∀ t,Agree t v.tape v.drawn->Calls (withFuncs P (Z.F g)) f args (retape v t) fun e v'=>∃ y,e=.returned y/\CW Z g (c.finish y) cs v' X):CW Z g (Frame.enter P f args .normal) (c :: cs) v X:=by
  intro w hl In T gs q sl H hj ha
  have hm:=ok.low g (c :: cs)
  have hh:=ok.hand g (c :: cs)
  obtain ⟨N,gs',y,v',w',sl',T',q',In',h1,h2,h3,h4,h5,h6,h7⟩:=called_back (C:=Z.C g (c :: cs)) (J:=Z.J g (c :: cs)) (m:=Z.top g (c :: cs)) (b:=c) (cs:=cs) (R:=fun y v'=>CW Z g (c.finish y) cs v' X) (In:=In) (T:=T) (gs:=gs) (q:=q) (sl:=sl) hm (ok.only g _) (ok.cs g _) (ok.keep g _) (ok.tick g _) (ok.runs g _) (ok.funcs g) (ok.codes g _) (ok.macros g _) hsp hb hl hc
    (by rw [hh];exact H) ((ok.jt g _ w In).2 hj) (by rw [hh];exact ha)
  rw [hh] at h3 h6
  obtain ⟨M,gs₂,g₂,fr₂,cs₂,w₂,v₂,sl₂,T₂,q₂,In₂,m1,m2⟩:=h4 w' h5 In' T' gs' q' sl' h6 ((ok.jt g _ w' In').1 h7) h3
  exact ⟨N+M,gs₂,g₂,fr₂,cs₂,w₂,v₂,sl₂,T₂,q₂,In₂,by rw [runNT_add,h1];exact m1,m2⟩
theorem CW.ret (ok:Z.Ok){c:Frame}{fn:Func}{y:Value}(hk:b.kind=.normal)(hd:a.defers = [])(hf:P.funcs[b.fn]? = some fn)(hr:∀ w,(results fn a.tmps).run P w=.ok y w/\(results fn a.tmps).events P w #[] = #[])
    (h:CW Z g (c.finish y) cs v X):CW Z g (b.at a (.code .ret :: k)) (c :: cs) v X:=by
  refine .ctl ok (fr':={ b.at a (.code .ret :: k) with mode:=.returning }) (fun w=>by simp [stepG,stepG.exec,Frame.at,G]) ?_
  refine .own ok fun w hl=>⟨_,_,w,v,seen P b.fn #[] ++ #[],?_,Kept.refl _ _,fun e he=>?_,hl,h⟩
  · have:stepG P true (G { b.at a (.code .ret :: k) with mode:=.returning } (c :: cs)) w=GStep.after (seen P b.fn ((results fn a.tmps).events P w #[])) (match (results fn a.tmps).run P w with
          | .ok y x'=>doReturn P true { b.at a (.code .ret :: k) with mode:=.returning } (c :: cs) none y x'
          | .halt (.stuck s) x'=>.ended (.stuck s (Frame.pos P { b.at a (.code .ret :: k) with mode:=.returning })) x'
          | .halt _ x'=>.ended (.stuck "return: the result variables cannot be read" (Frame.pos P { b.at a (.code .ret :: k) with mode:=.returning })) x'):=by
      simp only [stepG,G,Frame.at]
      unfold unwind
      simp only [hd,hf,Sem.runT_eq]
      rfl
    rw [this,(hr w).1,(hr w).2]
    simp only []
    rw [doReturn_cons (fr:={ b.at a (.code .ret :: k) with mode:=.returning }) (.inl hk),if_pos (show ({ b.at a (.code .ret :: k) with mode:=.returning }:Frame).kind=.normal from hk)]
    rfl
  · have:=Go.Conc.mem_seen (by simpa using he)
    simp at this
def CWCall (Z:Setting P) (g:Z.Gh) (f:FuncId) (args:Array Value) (v:World) (R:Z.Gh->Value->World->Prop):Prop:=
  ∀ (b:Frame) (cs:List Frame),CW Z g (Frame.enter P f args .normal) (b :: cs) v fun g' fr' cs' v'=>cs'=cs/\∃ y,fr'=b.finish y/\R g' y v'
theorem CWCall.use {c:Frame}{f:FuncId}{args:Array Value}{R:Z.Gh->Value->World->Prop}(h:CWCall Z g f args v R)(k:∀ g' y v',R g' y v'->CW Z g' (c.finish y) cs v' X):CW Z g (Frame.enter P f args .normal) (c :: cs) v X:=
  (h c cs).trans fun g' fr' cs' v' ⟨hcs,y,hfr,hR⟩=>by subst hcs;subst hfr;exact k g' y v' hR
theorem CWCall.body {f:FuncId}{fn:Func}{c:Code}{args:Array Value}{R:Z.Gh->Value->World->Prop}(hf:P.funcs[f]? = some fn)(hb:fn.body=some c)
    (h:∀ (b:Frame) (cs:List Frame),CW Z g ((base f).at { tmps:=args++Array.replicate (fn.ntmps - args.size) undef,defers:=[] } [.code c]) (b :: cs) v fun g' fr' cs' v'=>cs'=cs/\∃ y,fr'=b.finish y/\R g' y v'):CWCall Z g f args v R:=by
  intro b cs
  have henter:Frame.enter P f args .normal=(base f).at { tmps:=args++Array.replicate (fn.ntmps - args.size) undef,defers:=[] } [.code c]:=by
    simp [Frame.enter,Frame.at,hf,hb,base]
  rw [henter]
  exact h b cs
end
end
section
section
variable {P:Program}{Z:Setting P}{g:Z.Gh}{fr:Frame}{cs:List Frame}{v:World}{X:Z.Gh->Frame->List Frame->World->Prop}{b:Frame}{a:Act}{k:List Item}
theorem CW.defer (ok:Z.Ok){ops:Array Oper}{i:Nat}{rest:List Nat}{o:Oper}{d:Deferred}(ho:ops[i]? = some o)(hw:Region.wanted o (yielded ops a.tmps)=true)(hk:b.kind≠.early)
    (hr:∀ w,(execOp a.eval o).run P w=.ok (.defer d) w/\(execOp a.eval o).events P w #[] = #[])
    (h:CW Z g (b.at { a.put o.dst undef with defers:=d :: a.defers } (.inRegion ops rest :: k)) cs v X):CW Z g (b.at a (.inRegion ops (i :: rest) :: k)) cs v X:=by
  refine .own ok fun w hl=>?_
  have hst:stepG P true (G (b.at a (.inRegion ops (i :: rest) :: k)) cs) w=stepG.apply P true (b.at a (.inRegion ops (i :: rest) :: k)) cs none (execOp a.eval o) w:=stepG_op ho hw
  obtain ⟨es,he,_,_,_,h5,_⟩:=apply_ok (Q:=P) (fr:=b.at a (.inRegion ops (i :: rest) :: k)) (cs:=cs) hk (hr w).1
  have hfin:(({ b.at a (.inRegion ops (i :: rest) :: k) with defers:=d :: (b.at a (.inRegion ops (i :: rest) :: k)).defers }:Frame).finish undef)=b.at { a.put o.dst undef with defers:=d :: a.defers } (.inRegion ops rest :: k):=by
    have:=Frame.finish_at b { a with defers:=d :: a.defers } ops i rest k undef
    rw [ho] at this
    have e:({ a with defers:=d :: a.defers }:Act).put o.dst undef={ a.put o.dst undef with defers:=d :: a.defers }:=by cases o.dst <;> rfl
    rw [← e]
    exact this
  refine ⟨_,_,w,v,es,by rw [hst,h5 d rfl,hfin],Kept.refl _ _,fun e hee=>?_,hl,h⟩
  have:=he e hee
  rw [(hr w).2] at this
  simp at this
theorem CW.deferred (ok:Z.Ok){f:FuncId}{fn:Func}{captured args:Array Value}{ds:List Deferred}(hm:fr.mode=.returning)(hd:fr.defers={ target:=.fn (.func f) captured,args:=args } :: ds)(hf:P.funcs[f]? = some fn)(hb:fn.body.isNone=false)(hn:(fn.name == "runtime.NumGoroutine")=false)
    (h:CW Z g (Frame.enter P f (args++captured) .deferred) ({ fr with defers:=ds } :: cs) v X):CW Z g fr cs v X:=by
  refine .own ok fun w hl=>⟨_,_,w,v,seen P fr.fn #[],?_,Kept.refl _ _,fun e he=>?_,hl,h⟩
  · have hi:(invoke (.fn (.func f) captured) args).run P w=.ok (.enter f (args++captured)) w/\(invoke (.fn (.func f) captured) args).events P w #[] = #[]:=callFunc_enter hf hb hn w
    have:stepG P true (G fr cs) w=callDeferred P { fr with defers:=ds } cs none { target:=.fn (.func f) captured,args:=args } w:=by
      simp only [stepG,G,hm]
      unfold unwind
      simp only [hd,hm]
    rw [this]
    unfold callDeferred
    simp only [Bool.false_and,Bool.false_eq_true,if_false,Sem.runT_eq,hi.1,hi.2]
    simp [G,GStep.after]
  · have:=Go.Conc.mem_seen he
    simp at this
theorem CW.leave (ok:Z.Ok){c:Frame}{fn:Func}{y:Value}(hm:fr.mode=.returning)(hd:fr.defers = [])(hk:fr.kind=.normal∨fr.kind=.deferred)(hf:P.funcs[fr.fn]? = some fn)(hr:∀ w,Like (Z.S g) w v->(results fn fr.tmps).run P w=.ok y w/\∀ e ∈ (results fn fr.tmps).events P w #[],EvGood (Z.S g) e)
    (h:CW Z g (Tame.ret fr.kind c y) cs v X):CW Z g fr (c :: cs) v X:=by
  refine .own ok fun w hl=>⟨_,_,w,v,seen P fr.fn ((results fn fr.tmps).events P w #[]) ++ #[],?_,Kept.refl _ _,fun e he=>?_,hl,h⟩
  · have:stepG P true (G fr (c :: cs)) w=GStep.after (seen P fr.fn ((results fn fr.tmps).events P w #[])) (match (results fn fr.tmps).run P w with
          | .ok y x'=>doReturn P true fr (c :: cs) none y x'
          | .halt (.stuck s) x'=>.ended (.stuck s (Frame.pos P fr)) x'
          | .halt _ x'=>.ended (.stuck "return: the result variables cannot be read" (Frame.pos P fr)) x'):=by
      simp only [stepG,G,hm]
      unfold unwind
      simp only [hd,hm,hf,Sem.runT_eq]
      rfl
    rw [this,(hr w hl).1]
    simp only []
    rw [doReturn_cons hk]
    rfl
  · exact (hr w hl).2 e (Go.Conc.mem_seen (by simpa using he))
end
end
end Go.Tame
