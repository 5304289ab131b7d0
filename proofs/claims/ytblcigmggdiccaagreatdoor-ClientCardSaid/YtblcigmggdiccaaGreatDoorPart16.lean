/- Several texts in one: LoneM, LoneN, LoneO. -/
import Derived.Test.YtblcigmggdiccaaGreatDoorPart15
set_option linter.unusedSectionVars false
set_option linter.unusedSimpArgs false
set_option linter.unusedVariables false
set_option maxRecDepth 100000
namespace Go.Proofs.Shardlog
open Go Go.Conc Go.Tame Go.Proofs Go.RowKit Go.Mem Go.Stop Go.Extern.Stop
section
section
variable {w:World}
def rvl (t:Nat) (a:Addr) (f:Int):Value:=.agg #[.pointer (some ⟨10,t,none⟩),.pointer (some a),.int .u64 f]
def rty (t:Nat):Value:=.iface 199 (.agg #[.pointer (some ⟨10,t,none⟩)])
theorem LL.rtypeOf113 (v:Value)(w:World):(Extern.ReflectliteType.typeOf #[.iface 113 v]).run Tryz.L w=.ok (rty 113) w:=by kernel_rfl
theorem LL.valueOf115 (a:Option Addr)(w:World):(Extern.ReflectliteValue.unpack (.iface 115 (.pointer a))).run Tryz.L w=.ok (rvl 115 ⟨w.heap.size,0,none⟩ 150) (w.alloc (.cells #[.pointer a] 115)):=by kernel_rfl
theorem LL.valueOf113 (a:Option Addr)(w:World):(Extern.ReflectliteValue.unpack (.iface 113 (.pointer a))).run Tryz.L w=.ok (rvl 113 ⟨w.heap.size,0,none⟩ 150) (w.alloc (.cells #[.pointer a] 113)):=by kernel_rfl
theorem LL.parts115 (a:Addr)(w:World):(Extern.ReflectliteValue.parts (rvl 115 a 150)).run Tryz.L w=.ok (some (115,a,150)) w:=by kernel_rfl
theorem LL.parts113 (a:Addr)(w:World):(Extern.ReflectliteValue.parts (rvl 113 a 150)).run Tryz.L w=.ok (some (113,a,150)) w:=by kernel_rfl
theorem LL.parts113' (a:Addr)(w:World):(Extern.ReflectliteValue.parts (rvl 113 a 406)).run Tryz.L w=.ok (some (113,a,406)) w:=by kernel_rfl
theorem LL.typeOf115 (a:Addr)(w:World):((Extern.ReflectliteValue.methodAny (Extern.ReflectliteValue.valueError "reflectlite.Value.Type" 0) fun t _ _ _=>Extern.ReflectliteType.toType t) #[rvl 115 a 150]).run Tryz.L w=.ok (rty 115) w:=by kernel_rfl
theorem LL.kindM (t:Nat)(w:World):(Go.method (Tryz.L.types.size+100) 199 (.agg #[.pointer (some ⟨10,t,none⟩)]) "Kind").run Tryz.L w=.ok (288,.pointer (some ⟨10,t,none⟩)) w:=by kernel_rfl
theorem LL.elemM (v:Value)(w:World):(Go.method (Tryz.L.types.size+100) 199 v "Elem").run Tryz.L w=.ok (305,v) w:=by kernel_rfl
theorem LL.implM (v:Value)(w:World):(Go.method (Tryz.L.types.size+100) 199 v "Implements").run Tryz.L w=.ok (306,v) w:=by kernel_rfl
theorem LL.assignM (v:Value)(w:World):(Go.method (Tryz.L.types.size+100) 199 v "AssignableTo").run Tryz.L w=.ok (303,v) w:=by kernel_rfl
theorem LL.kind115 (w:World):((Extern.ReflectliteType.abiMethod fun t=>Functor.map (fun a:Nat=>Value.int IntKind.u8 (a:Int)) (Extern.Rtype.kind t)) #[.pointer (some ⟨10,115,none⟩)]).run Tryz.L w=.ok (.int .u8 22) w:=by kernel_rfl
theorem LL.kind113 (w:World):((Extern.ReflectliteType.abiMethod fun t=>Functor.map (fun a:Nat=>Value.int IntKind.u8 (a:Int)) (Extern.Rtype.kind t)) #[.pointer (some ⟨10,113,none⟩)]).run Tryz.L w=.ok (.int .u8 22) w:=by kernel_rfl
theorem LL.elem115 (w:World):((Extern.ReflectliteType.method Extern.ReflectliteType.elem) #[.agg #[.pointer (some ⟨10,115,none⟩)]]).run Tryz.L w=.ok (rty 113) w:=by kernel_rfl
theorem LL.impl113 (w:World):((Extern.ReflectliteType.relation "Implements" Extern.ReflectliteType.implements_) #[.agg #[.pointer (some ⟨10,113,none⟩)],rty 44]).run Tryz.L w=.ok (.bool true) w:=by kernel_rfl
theorem LL.assign113 (w:World):((Extern.ReflectliteType.relation "AssignableTo" Extern.ReflectliteType.assignableTo) #[.agg #[.pointer (some ⟨10,113,none⟩)],rty 113]).run Tryz.L w=.ok (.bool true) w:=by kernel_rfl
theorem LL.directly113 (w:World):(Extern.Rtype.directlyAssignable 113 113).run Tryz.L w=.ok true w:=by kernel_rfl
theorem rvMethod (z:Sem Value)(f:TypeId->Addr->Nat->Nat->Sem Value)(v:Value) :
    Extern.ReflectliteValue.method z f #[v] = (do match ← Extern.ReflectliteValue.parts v with|none=>z|some (t,a,fl)=>f t a fl (fl % 32)):=rfl
theorem LL.isNil115 (a p:Addr)(W:World)(ha:W.cell? a=some (.pointer (some p))) :
    (Extern.ReflectliteValue.method (Extern.ReflectliteValue.valueError "reflectlite.Value.IsNil" 0) Extern.ReflectliteValue.isNil #[rvl 115 a 150]).run Tryz.L W=.ok (.bool false) W:=by
  rw [rvMethod]
  simp only [Sem.run_bind,LL.parts115,Result.andThen]
  simp [Extern.ReflectliteValue.isNil,loadVar,isAgg,underlying,LL.underlying,Tryz.underlying115,ha,Result.andThen]
theorem LL.elemOf115 (w:World):(Extern.Rtype.elem? 115).run Tryz.L w=.ok (some 113) w:=by kernel_rfl
theorem LL.mk113 (p:Addr)(w:World):(Extern.ReflectliteValue.mk 113 p Extern.ReflectliteValue.flagAddr).run Tryz.L w=.ok (rvl 113 p 406) w:=by kernel_rfl
theorem LL.elemV115 (a p:Addr)(W:World)(ha:W.cell? a=some (.pointer (some p))) :
    (Extern.ReflectliteValue.method (Extern.ReflectliteValue.valueError "reflectlite.Value.Elem" 0) Extern.ReflectliteValue.elem #[rvl 115 a 150]).run Tryz.L W=.ok (rvl 113 p 406) W:=by
  rw [rvMethod]
  simp only [Sem.run_bind,LL.parts115,Result.andThen]
  simp [Extern.ReflectliteValue.elem,loadVar,isAgg,underlying,LL.underlying,Tryz.underlying115,ha,Result.andThen,LL.elemOf115,LL.mk113]
theorem rvSet (v x:Value):Extern.ReflectliteValue.set #[v,x] = (do
    let (some (dst,a,fl),some (src,b,_)):=(← Extern.ReflectliteValue.parts v,← Extern.ReflectliteValue.parts x)
      | unsupported (.noEntry "extern/(internal/reflectlite.Value).Set.zeroValue")
    if fl / Extern.ReflectliteValue.flagAddr % 2 == 0 then unsupported (.noEntry "extern/(internal/reflectlite.Value).Set.unaddressable")
    let val ← loadVar src b
    if ← Extern.Rtype.directlyAssignable dst src then storeVar dst a val
    else if ← Extern.Rtype.implements dst src then
      if (← Extern.Rtype.kind src) == 20 then
        match val with
        | .nilIface=>unsupported (.noEntry "extern/reflectlite: a nil value of one interface type handed on as a value of another")
        | _=>storeVar dst a val
      else storeVar dst a (.iface src val)
    else panicString ("reflectlite.Set: value of type " ++ (← Extern.Rtype.spelt src) ++ " is not assignable to type " ++ (← Extern.Rtype.spelt dst))
    pure (.tuple #[])):=rfl
theorem LL.size113 (w:World):(sizeOf 113).run Tryz.L w=.ok 1 w:=by kernel_rfl
theorem LL.set113 (ta b e:Addr)(old:Value)(W:World)(hb:W.cell? b=some (.pointer (some e)))(ht:W.cell? ta=some old)(hf:W.frozen? ta=false) :
    (Extern.ReflectliteValue.set #[rvl 113 ta 406,rvl 113 b 150]).run Tryz.L W=.ok (.tuple #[]) (W.setCell ta (.pointer (some e))):=by
  rw [rvSet]
  simp only [Sem.run_bind,LL.parts113',LL.parts113,Result.andThen]
  simp [Extern.ReflectliteValue.flagAddr,loadVar,isAgg,underlying,LL.underlying,Tryz.underlying113,hb,Result.andThen,LL.directly113,storeVar,Value.cells,storeCells,Addr.add,LL.size113]
  rw [run_store Tryz.L W ta _ _ (by rfl)]
  simp [ht,hf]
end
end
end Go.Proofs.Shardlog
namespace Go.Proofs.Shardlog
open Go Go.Conc Go.Tame Go.Proofs Go.RowKit Go.Mem Go.Stop
section
section
variable {w:World}
theorem lone_as2 (e t:Addr)(a:Addr)(old:Value)(hl:a.block<w.heap.size)(ha:w.cell? a=some (.pointer (some t)))(ht0:w.cell? t=some old)(hf0:w.frozen? t=false) :
    Calls Tryz.L 87 #[.iface 113 (.pointer (some e)),.iface 115 (.pointer (some t)),rvl 115 a 150,rty 113] w fun ev w'=>ev=.returned (.bool true) /\
      w'=((w.alloc (.cells #[.pointer (some ⟨10,115,none⟩),.pointer (some a),.int .u64 150] 173)).alloc (.cells #[.pointer (some e)] 113)).setCell t (.pointer (some e)):=by
  have h84:=@run_callFunc_extern Tryz.L 84 _ (fun args=>Extern.ReflectliteValue.unpack (args.getD 0 (.tuple #[]))) LL.func84 (by kernel_rfl) (by kernel_rfl) (by kernel_rfl) (by kernel_rfl)
  have h88:=@run_callFunc_extern Tryz.L 88 _ Extern.ReflectliteType.typeOf LL.func88 (by kernel_rfl) (by kernel_rfl) (by kernel_rfl) (by kernel_rfl)
  have h303:=@run_callFunc_extern Tryz.L 303 _ (Extern.ReflectliteType.relation "AssignableTo" Extern.ReflectliteType.assignableTo) LL.func303 (by kernel_rfl) (by kernel_rfl) (by kernel_rfl) (by kernel_rfl)
  have h118:=@run_callFunc_extern Tryz.L 118 _ (Extern.ReflectliteValue.method (Extern.ReflectliteValue.valueError "reflectlite.Value.Elem" 0) Extern.ReflectliteValue.elem) LL.func118 (by kernel_rfl) (by kernel_rfl) (by kernel_rfl) (by kernel_rfl)
  have h119:=@run_callFunc_extern Tryz.L 119 _ Extern.ReflectliteValue.set LL.func119 (by kernel_rfl) (by kernel_rfl) (by kernel_rfl) (by kernel_rfl)
  have tO:=LL.rtypeOf113
  have mA:=LL.assignM
  have a1:=LL.assign113
  have v1:=LL.valueOf113
  have htl:t.block<w.heap.size:=by
    rcases Nat.lt_or_ge t.block w.heap.size with h|h
    · exact h
    · simp [World.cell?,Array.getElem?_eq_none h] at ht0
  have el:=LL.elemV115 a t (w.alloc (.cells #[.pointer (some ⟨10,115,none⟩),.pointer (some a),.int .u64 150] 173)) (by rw [World.cell?_alloc_lt _ _ a hl];exact ha)
  have st:=LL.set113 t ⟨w.heap.size+1,0,none⟩ e old ((w.alloc (.cells #[.pointer (some ⟨10,115,none⟩),.pointer (some a),.int .u64 150] 173)).alloc (.cells #[.pointer (some e)] 113))
    (by rw [World.cell?_alloc_at _ _ _ _ (by simp)];rfl)
    (by rw [World.cell?_alloc_lt _ _ t (by simp;omega),World.cell?_alloc_lt _ _ t htl];exact ht0)
    (by rw [World.frozen?_alloc_old _ _ t (by simp;omega),World.frozen?_alloc_old _ _ t (Nat.ne_of_lt htl)];exact hf0)
  unfold rvl rty at *
  go_enter LL.func87,Tryz.ntmps87
  go_wp2
  refine wp_loop_rounds 1 ?_
  rw [rounds_succ]
  go_wp2
  go_ret
  exact ⟨rfl,rfl⟩
end
end
section
section
variable {w:World}{Λ:Lab}{ρ:Role}
set_option maxHeartbeats 4000000 in
theorem lone_as (e t:Addr)(old:Value)(hg:w.cell? ⟨4,0,none⟩=some (.iface 199 (.agg #[.pointer (some ⟨10,44,none⟩)])))(ht0:w.cell? t=some old)(hf0:w.frozen? t=false) :
    Calls Tryz.L 50 #[.iface 113 (.pointer (some e)),.iface 115 (.pointer (some t))] w fun ev w'=>ev=.returned (.bool true) /\
      w'=((((w.alloc (.cells #[.pointer (some t)] 115)).alloc (.cells #[.pointer (some ⟨10,115,none⟩),.pointer (some ⟨w.heap.size,0,none⟩),.int .u64 150] 173)).alloc (.cells #[.pointer (some ⟨10,115,none⟩),.pointer (some ⟨w.heap.size,0,none⟩),.int .u64 150] 173)).alloc (.cells #[.pointer (some e)] 113)).setCell t (.pointer (some e)):=by
  have h84:=@run_callFunc_extern Tryz.L 84 _ (fun args=>Extern.ReflectliteValue.unpack (args.getD 0 (.tuple #[]))) LL.func84 (by kernel_rfl) (by kernel_rfl) (by kernel_rfl) (by kernel_rfl)
  have h85:=@run_callFunc_extern Tryz.L 85 _ (Extern.ReflectliteValue.methodAny (Extern.ReflectliteValue.valueError "reflectlite.Value.Type" 0) (fun t _ _ _=>Extern.ReflectliteType.toType t)) LL.func85 (by kernel_rfl) (by kernel_rfl) (by kernel_rfl) (by kernel_rfl)
  have h86:=@run_callFunc_extern Tryz.L 86 _ (Extern.ReflectliteValue.method (Extern.ReflectliteValue.valueError "reflectlite.Value.IsNil" 0) Extern.ReflectliteValue.isNil) LL.func86 (by kernel_rfl) (by kernel_rfl) (by kernel_rfl) (by kernel_rfl)
  have h288:=@run_callFunc_extern Tryz.L 288 _ (Extern.ReflectliteType.abiMethod fun t=>do pure (.int .u8 (← Extern.Rtype.kind t))) LL.func288 (by kernel_rfl) (by kernel_rfl) (by kernel_rfl) (by kernel_rfl)
  have h305:=@run_callFunc_extern Tryz.L 305 _ (Extern.ReflectliteType.method Extern.ReflectliteType.elem) LL.func305 (by kernel_rfl) (by kernel_rfl) (by kernel_rfl) (by kernel_rfl)
  have h306:=@run_callFunc_extern Tryz.L 306 _ (Extern.ReflectliteType.relation "Implements" Extern.ReflectliteType.implements_) LL.func306 (by kernel_rfl) (by kernel_rfl) (by kernel_rfl) (by kernel_rfl)
  have f1:=LL.valueOf115
  have f2:=LL.typeOf115
  have mK:=LL.kindM
  have mE:=LL.elemM
  have mI:=LL.implM
  have k1:=LL.kind115
  have k2:=LL.kind113
  have e1:=LL.elem115
  have i1:=LL.impl113
  have n8:=LL.isNil115 ⟨w.heap.size,0,none⟩ t ((w.alloc (.cells #[.pointer (some t)] 115)).alloc (.cells #[.pointer (some ⟨10,115,none⟩),.pointer (some ⟨w.heap.size,0,none⟩),.int .u64 150] 173)) (by simp)
  have hlt:4<w.heap.size:=by
    rcases Nat.lt_or_ge 4 w.heap.size with h|h
    · exact h
    · simp [World.cell?,Array.getElem?_eq_none h] at hg
  have hg2:((w.alloc (.cells #[.pointer (some t)] 115)).alloc (.cells #[.pointer (some ⟨10,115,none⟩),.pointer (some ⟨w.heap.size,0,none⟩),.int .u64 150] 173)).cell? ⟨4,0,none⟩=some (.iface 199 (.agg #[.pointer (some ⟨10,44,none⟩)])):=by
    rw [World.cell?_alloc_lt _ _ ⟨4,0,none⟩ (by simp;omega),World.cell?_alloc_lt _ _ ⟨4,0,none⟩ hlt];exact hg
  have htl:t.block<w.heap.size:=by
    rcases Nat.lt_or_ge t.block w.heap.size with h|h
    · exact h
    · simp [World.cell?,Array.getElem?_eq_none h] at ht0
  have hI:=hid' (lone_as2 e t ⟨w.heap.size,0,none⟩ old (w:=(w.alloc (.cells #[.pointer (some t)] 115)).alloc (.cells #[.pointer (some ⟨10,115,none⟩),.pointer (some ⟨w.heap.size,0,none⟩),.int .u64 150] 173)) (by simp;omega) (by simp)
    (by rw [World.cell?_alloc_lt _ _ t (by simp;omega),World.cell?_alloc_lt _ _ t htl];exact ht0)
    (by rw [World.frozen?_alloc_old _ _ t (by simp;omega),World.frozen?_alloc_old _ _ t (Nat.ne_of_lt htl)];exact hf0))
  unfold rvl rty at *
  go_enter LL.func50,Tryz.ntmps50
  go_wp2_with fail
  refine hI.out.mono ?_
  rintro ev w' ⟨rfl,rfl⟩
  clear hI
  go_wp2
  go_ret
  exact ⟨rfl,rfl⟩
theorem lone_as_hit {tb:Nat}{E:Nat->Addr}{old:Value}(e:Addr)(hE:Errs w Λ E)(ht:At w Λ ρ tb (.cells #[old] 113 (0,0))) :
    Calls Tryz.L 50 #[.iface 113 (.pointer (some e)),.iface 115 (.pointer (some ⟨tb,0,none⟩))] w fun ev w'=>ev=.returned (.bool true)/\Fr Λ Λ (· = ρ) w w'/\At w' Λ ρ tb (.cells #[.pointer (some e)] 113 (0,0)):=by
  refine (lone_as e ⟨tb,0,none⟩ old hE.typ (ht.cell rfl) (ht.thaw (by simp))).mono ?_
  rintro ev w' ⟨rfl,rfl⟩
  have f:Fr Λ Λ (fun _=>False) w ((((w.alloc (.cells #[.pointer (some ⟨tb,0,none⟩)] 115)).alloc (.cells #[.pointer (some ⟨10,115,none⟩),.pointer (some ⟨w.heap.size,0,none⟩),.int .u64 150] 173)).alloc (.cells #[.pointer (some ⟨10,115,none⟩),.pointer (some ⟨w.heap.size,0,none⟩),.int .u64 150] 173)).alloc (.cells #[.pointer (some e)] 113)):=
    ((((Fr.refl Λ _ w).alloc _).alloc _).alloc _).alloc _
  exact ⟨rfl,(f.mono fun _ z=>z.elim).trans (Fr.set' ht.lab),(ht.fr f fun z=>z).set 0 _⟩
end
end
end Go.Proofs.Shardlog
