/- The document's answer: begin, alone. -/
import Derived.Test.YtblcigmggdiccaaGreatDoorPart18
set_option linter.unusedSectionVars false
set_option linter.unusedSimpArgs false
set_option linter.unusedVariables false
set_option maxRecDepth 100000
namespace Go.Proofs.Shardlog
open Go Go.Conc Go.Tame Go.Proofs Go.RowKit
section
structure RefW (w:World) (m N nb nt:Nat) (sh bag txs:Value) (stop:Bool) (rs rb rt:List Value):Prop where
  cell:w.heap[m]? = some (.cells #[sh,bag,txs,.bool stop] 51 (0,0))
  shards:w.ownsRow (m+1) 52 1 sh N rs
  bag:w.ownsRow (m+1) 122 7 bag nb rb
  txs:w.ownsRow (m+1) 69 3 txs nt rt
section
variable {w w':World}{m N nb nt:Nat}{sh bag txs:Value}{stop:Bool}{rs rb rt:List Value}
theorem own_len {base:Nat}{e:TypeId}{size n:Nat}{v:Value}{xs:List Value}(h:w.ownsRow base e size v n xs):∃ o c,v=.slice o n c:=by
  rcases h.2 with ⟨rfl,rfl⟩|⟨g,cap,cur,rfl,_⟩
  · exact ⟨_,_,rfl⟩
  · exact ⟨_,_,rfl⟩
theorem call_step {ops:Array Oper}{o:Oper}{a:Act}{K:Act->World->Prop}{Q:Exit->Act->World->Prop}{f:FuncId}{xs:Array Operand}{ts:Array TypeId}{args:Array Value}{fn:Func}{R:Value->World->Prop}(hop:o.op=.call { callee:=.value (.func f),args:=xs,argTypes:=ts })(hg:o.guard=none)(ha:xs.map a.eval=args)
    (hf:Tryz.L.funcs[f]? = some fn) (hb:fn.body.isNone=false) (hn:(fn.name == "runtime.NumGoroutine")=false) (hc:Calls Tryz.L f args w fun e w'=>∃ y,e=.returned y/\R y w') (hK:∀ y w',R y w'->K (a.put o.dst y) w') :
    (if Region.wanted o (yielded ops a.tmps)=true then Oper.wp Tryz.L o a w K Q else K (a.put o.dst undef) w):=by
  have hw:Region.wanted o (yielded ops a.tmps)=true:=by simp [Region.wanted,hg]
  rw [if_pos hw]
  have hr:=(call_enters (Q:=Tryz.L) (ρ:=a.eval) (x:=.func f) (f:=f) (first:=#[]) (captured:=#[]) (args:=args) hop rfl rfl (by simp [ha]) hf hb hn w).1
  unfold Oper.wp
  rw [hr]
  refine hc.mono fun e w' he=>?_
  obtain ⟨y,rfl,hR⟩:=he
  exact hK y w' hR
theorem f54_body:Tryz.f54.body.isNone=false:=by kernel_rfl
theorem f54_name:(Tryz.f54.name == "runtime.NumGoroutine")=false:=by kernel_rfl
theorem lone_at (k:Int)(n:Nat)(hn:1<=n)(hn4:n<=4)(hk:0<=k/\k<=255):Calls Tryz.L 54 #[.int .i64 k,.int .i64 n] w fun e w'=>∃ y,e=.returned y/\(y=.int .i64 ((k - 97).tmod n)/\Same w w'):=by
  go_enter LL.func54,Tryz.ntmps54
  go_wp2
  go_ret
  exact ⟨_,rfl,rfl,Same.refl w⟩
def refBegin (to t:Int) (opv:Value):List Value:=[.int .i64 1,.int .i64 (-1),.int .i64 to,.int .i64 t,.bool false,opv,.slice none 0 0]
structure BagMore (w w':World) (m:Nat) (bag:Value):Prop where
  old:∀ x,x<w.heap.size->x≠m->bag.ownBlock≠some x->w'.heap[x]? = w.heap[x]?
  size:w.heap.size<=w'.heap.size
  os:w'.os=w.os
theorem undrew (h:Same w.drew w'):Same w w':=⟨h.heap,h.os⟩
end
end
end Go.Proofs.Shardlog
