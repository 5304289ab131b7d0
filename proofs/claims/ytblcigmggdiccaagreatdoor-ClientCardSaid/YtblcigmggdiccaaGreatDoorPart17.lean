/- Several texts in one: LoneL, LoneP, LoneQ, TameBad, LoneS, DocS, DocT. -/
import Derived.Test.YtblcigmggdiccaaGreatDoorPart15
import Derived.Test.YtblcigmggdiccaaGreatDoorPart16
import Derived.Deep.RegionHeld3
import Derived.BigQuiet
import Derived.Test.YtblcigmggdiccaaGreatDoorPart11
set_option linter.unusedSectionVars false
set_option linter.unusedSimpArgs false
set_option linter.unusedVariables false
set_option maxRecDepth 100000
namespace Go.Proofs.Shardlog
open Go Go.Conc Go.Tame Go.Proofs Go.RowKit Go.Mem Go.Stop
section
section
variable {w:World}{E:Nat->Addr}{Λ:Lab}{p:Nat}
theorem lone_unwrap {b:Addr}(h1:w.cell? ⟨p,2,none⟩=some (errV b)):Calls Tryz.L 51 #[.pointer (some ⟨p,0,none⟩)] w fun e w'=>e=.returned (errV b)/\w'=w:=by
  unfold errV at *
  go_enter LL.func51,Tryz.ntmps51
  go_wp2
  go_ret
  exact ⟨rfl,rfl⟩
set_option maxHeartbeats 1000000 in
theorem lone_is2_same (b:Addr)(h1:w.cell? ⟨p,2,none⟩=some (errV b)) :
    Calls Tryz.L 89 #[.iface 113 (.pointer (some ⟨p,0,none⟩)),errV b,.bool true] w fun e w'=>e=.returned (.bool true)/\w'=w:=by
  obtain ⟨i,hi,hcmp⟩:=Option.map_eq_some_iff.1 LL.comp384
  obtain ⟨j,hj,hjs⟩:=Option.map_eq_some_iff.1 LL.size406
  have heq:=run_eql_iface_ptr_same (P:=Tryz.L) w b ((LL.underlying 44).trans Tryz.underlying44) ((LL.underlying 384).trans Tryz.underlying384) hi hcmp hj
  have hty:=run_eql_iface_types (P:=Tryz.L) 113 384 (.pointer (some ⟨p,0,none⟩)) (.pointer (some b)) ((LL.underlying 44).trans Tryz.underlying44) (by decide) w
  have nE:=LL.noIsE
  have uE:=LL.noUnwrapE
  have vE:=LL.noUnwrapsE
  have nW:=LL.noIsW
  have uW:=LL.hasUnwrapW
  have mU:=LL.methodUnwrap
  unfold errV at *
  go_enter LL.func89,Tryz.ntmps89
  go_wp2
  refine wp_loop_rounds 2 ?_
  rw [rounds_succ]
  go_wp2_with fail
  refine (lone_unwrap h1).mono ?_
  rintro e w' ⟨rfl,rfl⟩
  unfold errV
  go_wp2
  rw [rounds_succ]
  go_wp2
  go_ret
  exact ⟨rfl,rfl⟩
set_option maxHeartbeats 1000000 in
theorem lone_is2_other (a b:Addr){ca cb:Array Value}{ta tb:TypeId}(h1:w.cell? ⟨p,2,none⟩=some (errV a))(hne:a≠b)(ha:w.heap[a.block]? = some (.cells ca ta (0,0)))(hb:w.heap[b.block]? = some (.cells cb tb (0,0))) :
    Calls Tryz.L 89 #[.iface 113 (.pointer (some ⟨p,0,none⟩)),errV b,.bool true] w fun e w'=>e=.returned (.bool false)/\w'=w:=by
  obtain ⟨i,hi,hcmp⟩:=Option.map_eq_some_iff.1 LL.comp384
  obtain ⟨j,hj,hjs⟩:=Option.map_eq_some_iff.1 LL.size406
  have heq:=run_eql_iface_ptr_other (P:=Tryz.L) w ((LL.underlying 44).trans Tryz.underlying44) ((LL.underlying 384).trans Tryz.underlying384) hi hcmp hj (by rw [hjs];decide) hne ha hb
  have hty:=run_eql_iface_types (P:=Tryz.L) 113 384 (.pointer (some ⟨p,0,none⟩)) (.pointer (some b)) ((LL.underlying 44).trans Tryz.underlying44) (by decide) w
  have nE:=LL.noIsE
  have uE:=LL.noUnwrapE
  have vE:=LL.noUnwrapsE
  have nW:=LL.noIsW
  have uW:=LL.hasUnwrapW
  have mU:=LL.methodUnwrap
  unfold errV at *
  go_enter LL.func89,Tryz.ntmps89
  go_wp2
  refine wp_loop_rounds 2 ?_
  rw [rounds_succ]
  go_wp2_with fail
  refine (lone_unwrap h1).mono ?_
  rintro e w' ⟨rfl,rfl⟩
  unfold errV
  go_wp2
  rw [rounds_succ]
  go_wp2
  go_ret
  exact ⟨rfl,rfl⟩
set_option maxHeartbeats 1000000 in
theorem lone_is_same (b:Addr)(h1:w.cell? ⟨p,2,none⟩=some (errV b)) :
    Calls Tryz.L 53 #[.iface 113 (.pointer (some ⟨p,0,none⟩)),errV b] w fun e w'=>e=.returned (.bool true)/\w'=w:=by
  obtain ⟨i,hi,hcmp⟩:=Option.map_eq_some_iff.1 LL.comp384
  obtain ⟨j,hj,hjs⟩:=Option.map_eq_some_iff.1 LL.size406
  have h8:=@run_callFunc_extern Tryz.L 88 _ Extern.ReflectliteType.typeOf LL.func88 (by kernel_rfl) (by kernel_rfl) (by kernel_rfl) (by kernel_rfl)
  have h32:=@run_callFunc_extern Tryz.L 304 _ (Extern.ReflectliteType.method fun t=>do Extern.Rtype.noPackHeld "Comparable" t;pure (.bool (← typeInfo t).comparable)) LL.func304 (by kernel_rfl) (by kernel_rfl) (by kernel_rfl) (by kernel_rfl)
  have tT:=LL.rtypeOf
  have cT:=LL.comparable384
  have mR:=LL.methodComparable
  have hI:=hid' (lone_is2_same b h1)
  unfold errV at *
  go_enter LL.func53,Tryz.ntmps53
  go_wp2
  refine hI.out.mono ?_
  rintro e w' ⟨rfl,rfl⟩
  go_wp2
  go_ret
  exact ⟨rfl,rfl⟩
set_option maxHeartbeats 1000000 in
theorem lone_is_other (a b:Addr){ca cb:Array Value}{ta tb:TypeId}(h1:w.cell? ⟨p,2,none⟩=some (errV a))(hne:a≠b)(ha:w.heap[a.block]? = some (.cells ca ta (0,0)))(hb:w.heap[b.block]? = some (.cells cb tb (0,0))) :
    Calls Tryz.L 53 #[.iface 113 (.pointer (some ⟨p,0,none⟩)),errV b] w fun e w'=>e=.returned (.bool false)/\w'=w:=by
  obtain ⟨i,hi,hcmp⟩:=Option.map_eq_some_iff.1 LL.comp384
  obtain ⟨j,hj,hjs⟩:=Option.map_eq_some_iff.1 LL.size406
  have h8:=@run_callFunc_extern Tryz.L 88 _ Extern.ReflectliteType.typeOf LL.func88 (by kernel_rfl) (by kernel_rfl) (by kernel_rfl) (by kernel_rfl)
  have h32:=@run_callFunc_extern Tryz.L 304 _ (Extern.ReflectliteType.method fun t=>do Extern.Rtype.noPackHeld "Comparable" t;pure (.bool (← typeInfo t).comparable)) LL.func304 (by kernel_rfl) (by kernel_rfl) (by kernel_rfl) (by kernel_rfl)
  have tT:=LL.rtypeOf
  have cT:=LL.comparable384
  have mR:=LL.methodComparable
  have hI:=hid' (lone_is2_other a b h1 hne ha hb)
  unfold errV at *
  go_enter LL.func53,Tryz.ntmps53
  go_wp2
  refine hI.out.mono ?_
  rintro e w' ⟨rfl,rfl⟩
  go_wp2
  go_ret
  exact ⟨rfl,rfl⟩
end
end
section
section
variable {w:World}{Λ:Lab}{E:Nat->Addr}
def allErr (E:Nat->Addr):Array Value:=#[errV (E 0),errV (E 1),errV (E 2),errV (E 5),errV (E 6),errV (E 7),errV (E 8),errV (E 9),errV (E 3)]
set_option maxHeartbeats 1000000 in
theorem lone_all (hE:Errs w Λ E):Calls Tryz.L 52 #[] w fun e w'=>e=.returned (.slice (some ⟨w.heap.size,0,none⟩) 9 9)/\w'=w.alloc (.cells (allErr E) 44):=by
  have g0:=hE.glob 0 (by omega) (by omega)
  have g1:=hE.glob 1 (by omega) (by omega)
  have g2:=hE.glob 2 (by omega) (by omega)
  have g5:=hE.glob 5 (by omega) (by omega)
  have g6:=hE.glob 6 (by omega) (by omega)
  have g7:=hE.glob 7 (by omega) (by omega)
  have g8:=hE.glob 8 (by omega) (by omega)
  have g9:=hE.glob 9 (by omega) (by omega)
  have g3:=hE.glob 3 (by omega) (by omega)
  clear hE
  unfold allErr errV at *
  go_enter LL.func52,Tryz.ntmps52
  go_wp2
  go_ret
  exact ⟨rfl,rfl⟩
theorem lone_number_nil {a b:Value}:Calls Tryz.L 28 #[.nilIface,a,b] w fun e w'=>e=.returned (.int .i64 0)/\w'=w:=by
  go_enter LL.func28,Tryz.ntmps28
  go_wp2
  go_ret
  exact ⟨rfl,rfl⟩
theorem LL.comp113:(Tryz.L.info? 113).map (·.comparable)=some true:=by kernel_rfl
theorem LL.size117:(Tryz.L.info? 117).map (·.size)=some 3:=by kernel_rfl
theorem LL.neq113 (a:Addr)(u:World):(binOp .neq 44 (.iface 113 (.pointer (some a))) (.iface 113 (.pointer (some a)))).run Tryz.L u=.ok (.bool false) u:=by
  obtain ⟨i,hi,hcmp⟩:=Option.map_eq_some_iff.1 LL.comp113
  obtain ⟨j,hj,hjs⟩:=Option.map_eq_some_iff.1 LL.size117
  simp only [binOp]
  simp [Op.equal,Op.maxDepth,run_equalIn_iface_ptr_same (P:=Tryz.L) u 9998 a ((LL.underlying 44).trans Tryz.underlying44) ((LL.underlying 113).trans Tryz.underlying113) hi hcmp hj]
theorem LL.neq384 (a:Addr)(u:World):(binOp .neq 44 (.iface 384 (.pointer (some a))) (.iface 384 (.pointer (some a)))).run Tryz.L u=.ok (.bool false) u:=by
  obtain ⟨i,hi,hcmp⟩:=Option.map_eq_some_iff.1 LL.comp384
  obtain ⟨j,hj,hjs⟩:=Option.map_eq_some_iff.1 LL.size406
  simp only [binOp]
  simp [Op.equal,Op.maxDepth,run_equalIn_iface_ptr_same (P:=Tryz.L) u 9998 a ((LL.underlying 44).trans Tryz.underlying44) ((LL.underlying 384).trans Tryz.underlying384) hi hcmp hj]
end
end
end Go.Proofs.Shardlog
namespace Go.Proofs.Shardlog
open Go Go.Conc Go.Tame Go.Proofs Go.RowKit Go.Mem Go.Stop Go.BigFrame
section
theorem any_quiet {P:Program}{l:List Oper}{k:Nat}{listed:Array Bool}{Q:_root_.Go.Exit->Act->World->Prop}{a:Act}{w:World}(hs:Region.noSelect l.toArray=true)(hB:Region.lexFrom .any l.toArray (l.drop k).length k listed=true)
    (h:wpQuiet P l.toArray (fun w'=>∃ n,w'=w.drewN n) (fun a'=>∀ w',(∃ n,w'=w.drewN n)->Q .normal a' w') (l.drop k) a):wpAny P .any l.toArray Q (l.drop k).length listed a w:=
  wpAny_of_quiet (Q:=fun a'=>∀ w',(∃ n,w'=w.drewN n)->Q .normal a' w') (fun _ w' hw' h=>h w' hw') _ _ _ _ ⟨0,rfl⟩ (wpAnyQ_lex hs (l.drop k) k listed a (by simp [List.getElem?_drop]) hB h)
theorem any_call {ops:Array Oper}{i:Nat}{o:Oper}{a:Act}{w:World}{K:Act->World->Prop}{Q:_root_.Go.Exit->Act->World->Prop}{f:FuncId}{xs:Array Operand}{ts:Array TypeId}{args:Array Value}{fn:Func}{R:Value->World->Prop}(ho:ops[i]? = some o)(hop:o.op=.call { callee:=.value (.func f),args:=xs,argTypes:=ts })(hg:o.guard=none)(ha:xs.map a.eval=args)
    (hf:Tryz.L.funcs[f]? = some fn) (hb:fn.body.isNone=false) (hn:(fn.name == "runtime.NumGoroutine")=false) (hc:Calls Tryz.L f args w fun e w'=>∃ y,e=.returned y/\R y w') (hK:∀ y w',R y w'->K (a.put o.dst y) w'):wpOp Tryz.L ops Q i K a w:=by
  have:=call_draw (ops:=ops) (Q:=Q) hop hg ha hf hb hn hc hK
  unfold wpOp
  simp only [ho]
  split
  · rename_i hw
    rw [if_pos hw] at this
    exact .inl this
  · rename_i hw
    rw [if_neg hw] at this
    exact this
def ordE:Nat->Nat
  | 0=>0|1=>1|2=>2|3=>5|4=>6|5=>7|6=>8|7=>9|_=>3
theorem ordE_lt (k:Nat):ordE k<10/\ordE k≠4:=by
  unfold ordE
  split <;> decide
theorem ordE_inj {k m:Nat}(hk:k<9)(hm:m<9)(h:ordE k=ordE m):k=m:=by
  rcases k with _|_|_|_|_|_|_|_|_|k <;> rcases m with _|_|_|_|_|_|_|_|_|m <;> simp_all [ordE] <;> omega
theorem allErr_get (E:Nat->Addr)(k:Nat)(hk:k<9):(allErr E)[k]? = some (errV (E (ordE k))):=by
  rcases k with _|_|_|_|_|_|_|_|_|k <;> first|rfl|omega
section
variable {w:World}{Λ:Lab}{E:Nat->Addr}
theorem f50_body:Tryz.f50.body.isNone=false:=by kernel_rfl
theorem f50_name:(Tryz.f50.name == "runtime.NumGoroutine")=false:=by kernel_rfl
theorem LL.mixed:Tryz.L.follows .mixedOrders=true:=Tryz.mixed
set_option maxHeartbeats 1000000 in
theorem lone_number {e:Nat}{nm:ByteArray}{at':Int}{i:Nat}(hi:i<9)(hE:Errs w Λ E)(he:At w Λ still e (.cells #[.string nm,.int .i64 at',errV (E (ordE i))] 117 (0,0))) :
    Calls Tryz.L 28 #[.iface 113 (.pointer (some ⟨e,0,none⟩)),.string nm,.int .i64 at'] w fun ev w'=>ev=.returned (.int .i64 ((i:Int)+1))/\∃ Λ',Fr Λ Λ' (· = slip) w w':=by
  let Λ1:Lab:=fun x=>if x=w.heap.size then slip else Λ x
  have f1:Fr Λ Λ1 (fun _=>False) w (w.alloc (.cells #[.pointer none] 113)):=((Fr.refl Λ _ w).alloc _).relab fun x hx=>if_neg (by omega)
  have hb:At (w.alloc (.cells #[.pointer none] 113)) Λ1 slip w.heap.size (.cells #[.pointer none] 113):=At.new w Λ _
  have hE1:=hE.fr f1 fun z=>z
  have he1:=he.fr f1 fun z=>z
  have hst:¬ (still=slip):=by decide
  have hA:=hid' (fun (u:World) (h1:u.heap=(w.alloc (.cells #[.pointer none] 113)).heap) (h2:u.os=(w.alloc (.cells #[.pointer none] 113)).os)=>
    (lone_as_hit ⟨e,0,none⟩ (w:=u) (hE1.fr (Fr.same h1 h2:Fr Λ1 Λ1 (fun _=>False) _ u) fun z=>z) (hb.fr (Fr.same h1 h2:Fr Λ1 Λ1 (fun _=>False) _ u) fun z=>z)).mono (R':=fun ev w'=>∃ y,ev=.returned y/\(y=.bool true/\Fr Λ1 Λ1 (· = slip) (w.alloc (.cells #[.pointer none] 113)) w'/\At w' Λ1 slip w.heap.size (.cells #[.pointer (some ⟨e,0,none⟩)] 113)))
      (fun ev w' h=>⟨_,h.1,rfl,(Fr.same h1 h2:Fr Λ1 Λ1 (· = slip) _ u).trans h.2.1,h.2.2⟩))
  have hF:=hid' (fun (u:World) (h:Fr Λ1 Λ1 (· = slip) (w.alloc (.cells #[.pointer none] 113)) u)=>(⟨hE1.fr h hst,he1.fr h hst,(f1.mono fun _ z=>z.elim).trans h⟩:Errs u Λ1 E/\At u Λ1 still e (.cells #[.string nm,.int .i64 at',errV (E (ordE i))] 117 (0,0))/\Fr Λ Λ1 (· = slip) w u))
  have q1:=LL.neq113
  have q2:=LL.neq384
  clear hE he he1 hE1 hb f1
  unfold errV at *
  go_enter LL.func28,Tryz.ntmps28
  go_wp2_with fail
  refine wp_region_any LL.mixed ?_
  refine wpAny_take (i:=0) (oi:={ dst:=some 12,op:=Op.move (Operand.tmp 0),type:=44,pos:= "plain.go:36",after:=#[],guard:=none }) (v:=?v0) rfl (by kernel_rfl) (by kernel_rfl) (by kernel_rfl) (fun _ _ _ h=>h) (Or.inl ⟨by rfl,?h0⟩) ?_
  case h0=>intro u;go_simp;with_reducible rfl
  simp only [Act.put,List.setIfInBounds_toArray,List.set_cons_zero,List.set_cons_succ]
  refine wpAny_take (i:=1) (oi:={ dst:=some 13,op:=Op.makeInterface 115 (Operand.tmp 7),type:=20,pos:= "plain.go:36",after:=#[],guard:=none }) (v:=?v1) rfl (by kernel_rfl) (by kernel_rfl) (by kernel_rfl) (fun _ _ _ h=>h) (Or.inl ⟨by rfl,?h1⟩) ?_
  case h1=>intro u;go_simp;with_reducible rfl
  simp only [Act.put,List.setIfInBounds_toArray,List.set_cons_zero,List.set_cons_succ]
  refine wpAny_all (rs:=[2]) (by kernel_rfl) (by simp) ?_
  intro j hj
  obtain rfl:j=2:=by simpa using hj
  clear hj
  refine any_call (o:={ dst:=some 14,op:=Op.call { callee:=Callee.value (Operand.func 50),args:=#[Operand.tmp 12,Operand.tmp 13],argTypes:=#[44,20] },type:=4,pos:= "plain.go:36",after:=#[{ on:=0,ground:=Ground.data },{ on:=1,ground:=Ground.data }],guard:=none })
    rfl rfl rfl (by simp [Act.eval]) (LL.funcOf Tryz.func50 rfl) f50_body f50_name (hA.out _ rfl rfl) ?_
  rintro y w5 ⟨rfl,hF5,hB5⟩
  clear hA
  simp only [Act.put,List.setIfInBounds_toArray,List.set_cons_zero,List.set_cons_succ]
  obtain ⟨hE5,he5,hF⟩:=hF.out w5 hF5
  have b5:w5.cell? ⟨w.heap.size,0,none⟩=some (.pointer (some ⟨e,0,none⟩)):=hB5.cell (i:=0) rfl
  have c0:w5.cell? ⟨e,0,none⟩=some (.string nm):=he5.cell (i:=0) rfl
  have c1:w5.cell? ⟨e,1,none⟩=some (.int .i64 at'):=he5.cell (i:=1) rfl
  have c2:w5.cell? ⟨e,2,none⟩=some (.iface 384 (.pointer (some (E (ordE i))))):=he5.cell (i:=2) rfl
  have hX:=hid' (And.intro hE5 (And.intro he5 hF))
  clear hF5 hB5 hE5 he5 hF hst
  refine any_quiet (k:=3) (by kernel_rfl) (by kernel_rfl) ?_
  simp only [List.drop_succ_cons,List.drop_zero]
  repeat (go_big_quiet_step ((go_at_call 51;exact Calls.quiet_of_same (v:=.iface 384 (.pointer (some (E (ordE i))))) (lone_unwrap (b:=E (ordE i)) c2))))
  refine wpQuiet_nil ?_
  rintro w6 ⟨nq,hw6⟩
  obtain ⟨hE5,he5,hF⟩:=hX.out
  have f6:Fr Λ1 Λ1 (fun _=>False) w5 w6:=Fr.same (by rw [hw6];rfl) (by rw [hw6];rfl)
  have hE6:=hE5.fr f6 fun z=>z
  have he6:=he5.fr f6 fun z=>z
  have hF6:=hF.trans (f6.mono fun _ z=>z.elim)
  clear f6 hw6 b5 c0 c1 c2 hX hE5 he5 hF
  have hf7:Fr Λ1 Λ1 (fun _=>False) w6 (w6.alloc (.cells (allErr E) 44)):=Fr.alloc' _ _
  have hE7:=hid' (hE6.fr hf7 fun z=>z)
  have c2:(w6.alloc (.cells (allErr E) 44)).cell? ⟨e,2,none⟩=some (.iface 384 (.pointer (some (E (ordE i))))):=(he6.fr hf7 fun z=>z).cell (i:=2) rfl
  have hX:=hid' (hF6.trans (hf7.mono fun _ z=>z.elim))
  have hC:∀ k,k<9->(w6.alloc (.cells (allErr E) 44)).cell? ⟨w6.heap.size,k,none⟩=some (errV (E (ordE k))):=fun k hk=>by
    unfold World.cell?
    rw [Mem.alloc_get,if_pos rfl]
    simpa using allErr_get E k hk
  have hE6':=hid' hE6
  clear hE6 he6 hF6 hf7
  go_wp2_with (go_at_call 52;refine (lone_all hE6'.out).mono ?_;rintro ev w7 ⟨rfl,rfl⟩)
  generalize w6.alloc (Obj.cells (allErr E) 44)=w7 at *
  generalize w6.heap.size=B at *
  clear hF q1 q2 hE6'
  go_loopw [49] (fun j wr=>∃ k:Nat,k<=9/\j=.int .i64 k/\(∀ m,m<k->m≠i)/\wr=w7) (fun j _=>9 - (intOf j).toNat)
  case atStart=>exact ⟨0,by omega,rfl,fun m hm=>by omega,rfl⟩
  case round=>
    obtain ⟨k,hk,rfl,hne,rfl⟩:=hrel
    by_cases hlt:k<9
    · have ck:=hC k hlt
      have hEb:=hE7.out
      by_cases he:k=i
      · subst he
        unfold errV at ck
        have hI:=hid' (lone_is_same (w:=wr) (p:=e) (E (ordE k)) c2)
        unfold errV at hI
        go_wp2_with (go_at_call 53;refine hI.out.mono ?_;rintro e w8 ⟨rfl,rfl⟩)
        go_ret
        exact ⟨rfl,_,hX.out⟩
      · unfold errV at ck
        obtain ⟨ca,ta,ha⟩:=hEb.cells (ordE i) (ordE_lt i).1 (ordE_lt i).2
        obtain ⟨cb,tb,hb⟩:=hEb.cells (ordE k) (ordE_lt k).1 (ordE_lt k).2
        have hI:=hid' (lone_is_other (w:=wr) (p:=e) (E (ordE i)) (E (ordE k)) c2 (hEb.apart _ _ (ordE_lt i).1 (ordE_lt k).1 (ordE_lt i).2 (ordE_lt k).2 fun h=>he (ordE_inj hlt hi h.symm)) ha hb)
        unfold errV at hI
        clear ha hb hEb
        go_wp2_with (go_at_call 53;refine hI.out.mono ?_;rintro e w8 ⟨rfl,rfl⟩)
        go_roundw
        case rel=>exact ⟨k+1,by omega,by go_num,fun m hm=>by
          by_cases h:m=k
          · rw [h];exact he
          · exact hne m (by omega),trivial⟩
        case measure=>simp [intOf];omega
    · exact absurd rfl (hne i (by omega))
end
end
end Go.Proofs.Shardlog
namespace Go.Proofs.Shardlog
open Go Go.Conc Go.Tame Go.Proofs Go.RowKit Go.BigFrame Go.Stop
section
variable {Ω:World}
section
variable {g:List Rec}{v:World}{N:Int}{cap s rr B c D:Nat}{E:Nat->Addr}
set_option maxHeartbeats 4000000 in
theorem zz_new_bad (hE:v.cell? ⟨0,0,none⟩=some (errV (E 0)))(hN:N<1∨4<N) :
    CWCall (ZZ Ω) g 25 #[.int .i64 N] v fun g' y v'=>g'=g/\y=.tuple #[.pointer none,errV (E 0)]/\v'.heap=v.heap/\v'.os=v.os:=by
  refine ZZ.body (tmps:=#[.int .i64 N,undef,undef,undef,undef,undef,undef,undef,undef,undef,undef,undef,undef,undef,undef,undef,undef,undef,undef,undef,undef,undef,undef,undef,undef,undef,undef,undef,undef,undef,undef,undef,undef,undef,undef,undef,undef,undef,undef,undef,undef]) Tryz.func25 (by rfl) (by kernel_rfl) ?_
  intro b cs
  refine CW.seq ZZ.ok (ZZ.plain (by kernel_rfl) (by simp [base]) fun Q u0 hu0 ho0 hQ=>?_)
  go_wp2
  refine CW.seq ZZ.ok (CW.seq ZZ.ok (ZZ.plain (by kernel_rfl) (by simp [base]) fun Q u1 hu1 ho1 hQ=>?_))
  have e1:u1.heap=v.heap:=by rw [hu1,hu0]
  have o1:u1.os=v.os:=by rw [ho1,ho0]
  rw [← cell_heap e1] at hE
  by_cases h1:N<1
  · go_wp2
    refine CW.cond (t:=true) ZZ.ok (by rfl) ?_
    simp only [if_true]
    refine CW.seq ZZ.ok (CW.regionDraw ZZ.ok (by simp [base]) (ops_all (by kernel_rfl)) Tryz.mixed fun t d=>?_)
    have hE':({ u1 with tape:=t,drawn:=d }:World).cell? ⟨0,0,none⟩=some (errV (E 0)):=hE
    have eh:({ u1 with tape:=t,drawn:=d }:World).heap=v.heap:=e1
    have eo:({ u1 with tape:=t,drawn:=d }:World).os=v.os:=o1
    generalize ({ u1 with tape:=t,drawn:=d }:World)=w0 at hE' eh eo ⊢
    unfold errV at hE'
    refine any_quiet (P:=Tryz.L) (k:=0) (by kernel_rfl) (by kernel_rfl) ?_
    simp only [List.drop_zero]
    repeat (go_big_quiet_step (fail))
    refine wpQuiet_nil ?_
    rintro w6 ⟨nq,hw6⟩
    refine ⟨trivial,CW.ret ZZ.ok rfl rfl Tryz.func25 (y:=.tuple #[.pointer none,errV (E 0)]) (fun w=>results_two (fn:=Tryz.f25) (x:=2) (y:=3) rfl _ _ w) (.done ⟨rfl,_,rfl,rfl,rfl,?_,?_⟩)⟩
    · rw [hw6];exact eh
    · rw [hw6];exact eo
  · have h4:4<N:=by omega
    go_wp2
    refine CW.cond (t:=true) ZZ.ok (by rfl) ?_
    simp only [if_true]
    refine CW.seq ZZ.ok (CW.regionDraw ZZ.ok (by simp [base]) (ops_all (by kernel_rfl)) Tryz.mixed fun t d=>?_)
    have hE':({ u1 with tape:=t,drawn:=d }:World).cell? ⟨0,0,none⟩=some (errV (E 0)):=hE
    have eh:({ u1 with tape:=t,drawn:=d }:World).heap=v.heap:=e1
    have eo:({ u1 with tape:=t,drawn:=d }:World).os=v.os:=o1
    generalize ({ u1 with tape:=t,drawn:=d }:World)=w0 at hE' eh eo ⊢
    unfold errV at hE'
    refine any_quiet (P:=Tryz.L) (k:=0) (by kernel_rfl) (by kernel_rfl) ?_
    simp only [List.drop_zero]
    repeat (go_big_quiet_step (fail))
    refine wpQuiet_nil ?_
    rintro w6 ⟨nq,hw6⟩
    refine ⟨trivial,CW.ret ZZ.ok rfl rfl Tryz.func25 (y:=.tuple #[.pointer none,errV (E 0)]) (fun w=>results_two (fn:=Tryz.f25) (x:=2) (y:=3) rfl _ _ w) (.done ⟨rfl,_,rfl,rfl,rfl,?_,?_⟩)⟩
    · rw [hw6];exact eh
    · rw [hw6];exact eo
set_option maxHeartbeats 1000000 in
theorem zz_pnew_bad (hE:v.cell? ⟨0,0,none⟩=some (errV (E 0)))(hN:N<1∨4<N) :
    CWCall (ZZ Ω) g 14 #[.int .i64 N] v fun g' y v'=>g'=g/\y=.tuple #[.pointer none,.int .i64 1]/\v'.heap=v.heap/\v'.os=v.os:=by
  obtain ⟨i,hi,hcmp⟩:=Option.map_eq_some_iff.1 LL.comp384
  obtain ⟨j,hj,hjs⟩:=Option.map_eq_some_iff.1 LL.size406
  have heq:=fun w:World=>run_eql_iface_ptr_same (P:=Tryz.L) w (E 0) ((LL.underlying 44).trans Tryz.underlying44) ((LL.underlying 384).trans Tryz.underlying384) hi hcmp hj
  refine ZZ.body (tmps:=#[.int .i64 N,undef,undef,undef,undef,undef,undef,undef,undef,undef,undef,undef,undef,undef,undef,undef,undef,undef,undef,undef,undef]) Tryz.func14 (by rfl) (by kernel_rfl) ?_
  intro b cs
  refine CW.seq ZZ.ok (ZZ.plain (by kernel_rfl) (by simp [base]) fun Q u0 hu0 ho0 hQ=>?_)
  go_wp2
  refine CW.seq ZZ.ok (ZZ.pre [_] [_,_,_,_,_,_] (by kernel_rfl) (by simp [base]) fun Q u1 hu1 ho1 hQ=>?_)
  go_wp2
  have e1:u1.heap=v.heap:=by rw [hu1,hu0]
  have o1:u1.os=v.os:=by rw [ho1,ho0]
  have hN':=zz_new_bad (Ω:=Ω) (g:=g) (v:=u1) (N:=N) (E:=E) (by rw [cell_heap e1];exact hE) hN
  refine CW.callAt ZZ.ok (i:=1) (f:=25) (first:=#[]) (captured:=#[]) (args:=#[.int .i64 N]) rfl rfl (by simp [base]) rfl rfl (by rfl) (by simp [Act.eval]) Tryz.func25 (by kernel_rfl) (by kernel_rfl) hN' fun g' y v' hR=>?_
  obtain ⟨rfl,rfl,hv',ho'⟩:=hR
  refine ZZ.rest rfl (by kernel_rfl) (by simp [base]) fun Q u2 hu2 ho2 hQ=>?_
  have e2:u2.heap=v.heap:=by rw [hu2,hv',e1]
  have o2:u2.os=v.os:=by rw [ho2,ho',o1]
  clear hN' hu2 ho2 hv' ho'
  unfold errV at heq ⊢
  go_wp2
  refine CW.seq ZZ.ok (CW.block ZZ.ok (CW.seq ZZ.ok (ZZ.plain (by kernel_rfl) (by simp [base]) fun Q u3 hu3 ho3 hQ=>?_)))
  have e3:u3.heap=v.heap:=by rw [hu3,e2]
  have o3:u3.os=v.os:=by rw [ho3,o2]
  go_wp2
  refine CW.cond (t:=false) ZZ.ok (by rfl) ?_
  simp only [if_false,Bool.false_eq_true]
  refine CW.seq ZZ.ok (ZZ.plain (by kernel_rfl) (by simp [base]) fun Q u4 hu4 ho4 hQ=>?_)
  have e4:u4.heap=v.heap:=by rw [hu4,e3]
  have o4:u4.os=v.os:=by rw [ho4,o3]
  rw [← cell_heap e4] at hE
  unfold errV at hE
  go_wp2
  refine CW.cond (t:=true) ZZ.ok (by rfl) ?_
  simp only [if_true]
  refine CW.seq ZZ.ok (ZZ.plain (by kernel_rfl) (by simp [base]) fun Q u5 hu5 ho5 hQ=>?_)
  have e5:u5.heap=v.heap:=by rw [hu5,e4]
  have o5:u5.os=v.os:=by rw [ho5,o4]
  go_wp2
  exact CW.ret ZZ.ok rfl rfl Tryz.func14 (y:=.tuple #[.pointer none,.int .i64 1]) (fun w=>results_two (fn:=Tryz.f14) (x:=2) (y:=3) rfl _ _ w) (.done ⟨rfl,_,rfl,rfl,rfl,e5,o5⟩)
theorem zz_dead {fr:Frame}{cs:List Frame}{X:List Rec->Frame->List Frame->World->Prop}{b:Frame}(hc:v.cell? ⟨c,5,none⟩=some (.chan (some D)))(hd:v.heap[D]? = some (.chan cap #[] true s rr false))(h:∀ u:World,u.heap=v.heap->u.os=v.os->CW (ZZ Ω) g (b.finish (.bool true)) cs u X) :
    CW (ZZ Ω) g (Frame.enter Tryz.prog 33 #[.pointer (some ⟨c,0,none⟩)] .normal) (b :: cs) v X:=by
  refine .calls ZZ.ok (fun h=>?_) (by kernel_rfl) fun t _=>?_
  · rcases h with h|h|h
    · cases h
    · cases h
    · revert h;decide
  · refine Calls.mono (lone_shut (v:=retape v t) hc hd) ?_
    rintro e v' ⟨rfl,rfl⟩
    exact ⟨_,rfl,h _ rfl rfl⟩
theorem zz_shut_off (hB:v.cell? ⟨B,0,none⟩=some (.pointer (some ⟨c,0,none⟩)))(hc:v.cell? ⟨c,5,none⟩=some (.chan (some D)))(hd:v.heap[D]? = some (.chan cap #[] true s rr false)) :
    CWCall (ZZ Ω) g 32 #[.pointer (some ⟨B,0,none⟩)] v fun g' _ v'=>g'=g/\v'.heap=v.heap/\v'.os=v.os:=by
  refine ZZ.body (tmps:=#[.pointer (some ⟨B,0,none⟩),undef,undef,undef,undef,undef,undef,undef,undef,undef,undef]) Tryz.func32 (by rfl) (by rfl) ?_
  intro b cs
  refine CW.seq ZZ.ok (CW.seq ZZ.ok (ZZ.pre [_] [_] (by kernel_rfl) (by simp [base]) fun Q u hu ho hQ=>?_))
  rw [← cell_heap hu] at hc hB
  rw [← hu] at hd
  go_wp2
  refine .enter ZZ.ok (i:=1) rfl (by simp [Region.wanted]) (by simp [base]) (fun w=>call_enters (f:=33) (first:=#[]) (captured:=#[]) (args:=#[.pointer (some ⟨c,0,none⟩)]) rfl rfl rfl (by simp [Act.eval]) Tryz.func33 (by kernel_rfl) (by kernel_rfl) w) (zz_dead (fr:=b) hc hd fun u1 hu1 ho1=>?_)
  rw [Frame.finish_at]
  refine .regionEnd ZZ.ok (CW.cond (t:=true) ZZ.ok (by rfl) ?_)
  simp only [if_true]
  exact CW.ret ZZ.ok rfl rfl Tryz.func32 (y:=.tuple #[]) (fun w=>⟨results_none rfl _ _ _,by simp [results]⟩) (.done ⟨rfl,_,rfl,rfl,by rw [hu1,hu],by rw [ho1,ho]⟩)
theorem zz_stop_off (hm:v.cell? ⟨c,0,none⟩=some (.int .i32 0))(hz:v.frozen? ⟨c,0,none⟩=false)(hc:v.cell? ⟨c,5,none⟩=some (.chan (some D)))(hd:v.heap[D]? = some (.chan cap #[] true s rr false)) :
    CWCall (ZZ Ω) g 21 #[.pointer (some ⟨c,0,none⟩)] v fun g' y v'=>g'=g/\y=.tuple #[]/\Grown v v':=by
  have hlt:c<v.heap.size:=by
    unfold World.cell? at hc
    rcases Nat.lt_or_ge c v.heap.size with h|h
    · exact h
    · rw [Array.getElem?_eq_none_iff.2 h] at hc
      simp at hc
  have hDlt:D<v.heap.size:=(Array.getElem?_eq_some_iff.1 hd).1
  have hDc:D≠c:=fun e=>by
    subst e
    unfold World.cell? at hc
    rw [hd] at hc
    cases hc
  refine ZZ.body (tmps:=#[.pointer (some ⟨c,0,none⟩),undef,undef,undef,undef]) Tryz.func21 (by rfl) (by rfl) ?_
  intro b cs
  refine CW.seq ZZ.ok (ZZ.plain (by kernel_rfl) (by simp [base]) fun Q u hu ho hQ=>?_)
  go_wp2
  refine ZZ.pre [_,_] [_] (by kernel_rfl) (by simp [base]) fun Q u1 hu1 ho1 hQ=>?_
  have gr:Grown v u1:=(Grown.same hu ho).trans ((Grown.alloc u _).trans (Grown.same hu1 ho1))
  have hB:u1.cell? ⟨u.heap.size,0,none⟩=some (.pointer (some ⟨c,0,none⟩)):=by
    rw [cell_heap hu1]
    exact box_cell u _ 23
  have huv:u.heap.size=v.heap.size:=by rw [hu]
  rw [huv] at hB
  have hm1:=gr.cell hm
  have hc1:=gr.cell hc
  have hz1:u1.frozen? ⟨c,0,none⟩=false:=by
    rw [← hz]
    unfold World.frozen?
    rw [gr.heap c hlt]
  have hd1:u1.heap[D]? = some (.chan cap #[] true s rr false):=by rw [gr.heap D hDlt,hd]
  go_wp2
  refine CW.callAt (R:=fun g' y v'=>g'=g/\y=.tuple #[]/\Grown v v') ZZ.ok (i:=2) (rest:=[]) (f:=31) (first:=#[]) (captured:=#[]) (args:=#[.pointer (some ⟨c,0,none⟩),.func (.func 32) #[] #[.pointer (some ⟨v.heap.size,0,none⟩)]]) rfl rfl (by simp [base]) rfl rfl (by rfl) (by simp [Act.eval]) Tryz.func31 (by kernel_rfl) (by kernel_rfl)
    (zz_alone (K:=fun g' u'=>g'=g/\u'.heap=(u1.setCell ⟨c,0,none⟩ (.int .i32 1)).heap/\u'.os=u1.os) Tryz.func32 (by kernel_rfl) (by kernel_rfl) hm1 hz1 (fun u2 hu2 ho2=>?_) (fun g' u' hK=>?_)) fun g' y v' hR=>?_
  · intro b' cs'
    refine (zz_shut_off (cap:=cap) (s:=s) (rr:=rr) (B:=v.heap.size) (c:=c) (D:=D) ?_ ?_ ?_ b' cs').mono fun g' fr' cs' v' h=>?_
    · rw [cell_heap hu2,World.cell?_setCell_other _ _ _ _ (by simp <;> omega)]
      exact hB
    · rw [cell_heap hu2,World.cell?_setCell_other _ _ _ _ (by simp)]
      exact hc1
    · rw [hu2,setCell_ne hDc]
      exact hd1
    · obtain ⟨h1,y,h2,h3,h4,h5⟩:=h
      exact ⟨h1,y,h2,h3,h4.trans hu2,h5.trans ho2⟩
  · obtain ⟨rfl,k1,k2⟩:=hK
    refine ⟨?_,?_,fun u'' h1 h2=>⟨rfl,rfl,?_,fun x hx=>?_,?_⟩⟩
    · rw [cell_heap k1]
      exact setCell_same_cell hm1
    · rw [frozen_heap k1,setCell_frozen]
      exact hz1
    · rw [setCell_size,h1,k1,setCell_size]
      exact gr.size
    · rw [← gr.heap x hx]
      by_cases hxc:x=c
      · subst hxc
        refine setCell_back (a:=⟨x,0,none⟩) (y:=.int .i32 1) hm1 ?_
        show u''.heap[x]? = _
        rw [h1,k1]
      · rw [setCell_ne hxc,h1,k1,setCell_ne hxc]
    · rw [setCell_os,h2,k2]
      exact gr.os
  · exact .regionEnd ZZ.ok (.atEnd ZZ.ok (.leave ZZ.ok (fn:=Tryz.f21) (y:=.tuple #[]) rfl rfl (.inl rfl) Tryz.func21 (fun w _=>⟨results_none rfl _ _ _,fun e he=>by simp [results] at he⟩) (.done ⟨rfl,_,rfl,hR.1,rfl,hR.2.2⟩)))
end
end
end Go.Proofs.Shardlog
namespace Go.Proofs.Shardlog
open Go Go.Conc Go.Tame Go.Proofs Go.RowKit Go.Mem
section
section
variable {w:World}{Λ:Lab}{E:Nat->Addr}
theorem lone_txsHas (o:Option Addr)(n c:Nat)(t:Int):Calls Tryz.L 125 #[.slice o n c,.int .i64 t] w fun e w'=>e=.returned (.bool (decide (0<=t/\t<n)))/\w'=w:=by
  by_cases h:0<=t
  · go_enter LL.func125,Tryz.ntmps125
    go_wp2
    go_ret
    simp [h]
  · go_enter LL.func125,Tryz.ntmps125
    go_wp2
    go_ret
    simp [h]
    omega
theorem lone_bagHas (o:Option Addr)(n c:Nat)(t:Int):Calls Tryz.L 127 #[.slice o n c,.int .i64 t] w fun e w'=>e=.returned (.bool (decide (0<=t/\t<n)))/\w'=w:=by
  by_cases h:0<=t
  · go_enter LL.func127,Tryz.ntmps127
    go_wp2
    go_ret
    simp [h]
  · go_enter LL.func127,Tryz.ntmps127
    go_wp2
    go_ret
    simp [h]
    omega
variable {k c N nt nb bc bi D:Nat}{mu t:Int}{sh tx bg:Value}{ss ts bs:List Value}
set_option maxHeartbeats 2000000 in
theorem lone_again1_tx (hE:Errs w Λ E)(hC:Clu w Λ k c N nt nb mu sh tx bg D ss ts bs)(hbc:w.cell? ⟨bc,0,none⟩=some (.pointer (some ⟨c,0,none⟩)))(hbi:w.cell? ⟨bi,0,none⟩=some (.int .i64 t))(ht:¬ (0<=t/\t<nt)) :
    Calls Tryz.L 124 #[.pointer (some ⟨bc,0,none⟩),.pointer (some ⟨bi,0,none⟩)] w fun e w'=>e=.returned (errV (E 5))/\Fr Λ Λ (fun _=>False) w w':=by
  obtain ⟨otx,ctx,rfl⟩:=hC.txs.slice
  have g5:=hE.glob 5 (by omega) (by omega)
  have c3:w.cell? ⟨c,3,none⟩=some (.slice otx nt ctx):=hC.blk.cell rfl
  have hh:∀ u:World,Calls Tryz.L 125 #[.slice otx nt ctx,.int .i64 t] u fun e w'=>e=.returned (.bool false)/\w'=u:=fun u=>by
    have:=lone_txsHas (w:=u) otx nt ctx t
    rwa [decide_eq_false ht] at this
  have hh':=hid' hh
  clear hE hC hh ht
  unfold errV at *
  go_enter LL.func124,Tryz.ntmps124
  go_wp2_with fail
  go_quiet ((go_at_call 125;exact Calls.quiet_of_same (hh'.out _)))
  go_wp2
  go_ret
  exact ⟨rfl,Fr.same rfl rfl⟩
set_option maxHeartbeats 2000000 in
theorem lone_again1_many (hE:Errs w Λ E)(hC:Clu w Λ k c N nt nb mu sh tx bg D ss ts bs)(hbc:w.cell? ⟨bc,0,none⟩=some (.pointer (some ⟨c,0,none⟩)))(hbi:w.cell? ⟨bi,0,none⟩=some (.int .i64 t))(ht:0<=t/\t<nt)(hnb:400<=nb) :
    Calls Tryz.L 124 #[.pointer (some ⟨bc,0,none⟩),.pointer (some ⟨bi,0,none⟩)] w fun e w'=>e=.returned (errV (E 2))/\Fr Λ Λ (fun _=>False) w w':=by
  obtain ⟨otx,ctx,rfl⟩:=hC.txs.slice
  obtain ⟨obg,cbg,rfl⟩:=hC.bag.slice
  have g2:=hE.glob 2 (by omega) (by omega)
  have c3:w.cell? ⟨c,3,none⟩=some (.slice otx nt ctx):=hC.blk.cell rfl
  have c4:w.cell? ⟨c,4,none⟩=some (.slice obg nb cbg):=hC.blk.cell rfl
  have e400:decide (400<=nb)=true:=by simpa using hnb
  have hh:∀ u:World,Calls Tryz.L 125 #[.slice otx nt ctx,.int .i64 t] u fun e w'=>e=.returned (.bool true)/\w'=u:=fun u=>by
    have:=lone_txsHas (w:=u) otx nt ctx t
    rwa [decide_eq_true ht] at this
  have hh':=hid' hh
  clear hE hC hh ht
  unfold errV at *
  go_enter LL.func124,Tryz.ntmps124
  go_wp2_with fail
  go_quiet ((go_at_call 125;exact Calls.quiet_of_same (hh'.out _)))
  go_wp2_with (go_at_call 46;refine (lone_bagFull _ _ _).mono ?_;rintro e w2 ⟨rfl,rfl⟩)
  go_ret
  exact ⟨rfl,Fr.same rfl rfl⟩
theorem lone_put1 {w0:World}{Λ0:Lab}{ρ:Role}{x:Array Value}{f:Nat × Nat}{i:Nat}{msg:Value}(hk:0<k)(hF:Fr Λ0 Λ (own k) w0 w)(hC:Clu w Λ k c N nt nb mu sh tx bg D ss ts bs)(h1:msg.oneCell'=true)(hnb:nb<=1048575) :
    Calls Tryz.L 48 #[.pointer (some ⟨c,4,none⟩),.slice (some ⟨w.heap.size,0,none⟩) 1 1] (w.alloc (.cells #[msg] 217)) fun e w'=>∃ y,e=.returned y/\(y=.tuple #[]/\∃ Λ₂ bg',Fr Λ0 Λ₂ (own k) w0 w'/\Clu w' Λ₂ k c N nt (nb+1) mu sh tx bg' D ss ts (bs ++ [msg])/\Fr Λ Λ₂ (fun r=>r.1=k) w w'):=by
  have fa:Fr Λ Λ (fun _=>False) w (w.alloc (.cells #[msg] 217)):=Fr.alloc' w _
  have hm:=hC.fr fa fun _ _ z=>z
  refine (lone_put (w:=w.alloc (.cells #[msg] 217)) (Λ:=Λ) (ρ:=(k,3,0)) (ρc:=(k,0,0)) (c:=c) (nb:=nb) (m:=1) (cap:=1) (news:=[msg]) (p:=⟨w.heap.size,0,none⟩) (i:=4) (by simp) hm.blk rfl (by simp) hm.bag rfl (alloc_cells w [msg] 217) (by simpa using h1) (by omega)).mono ?_
  rintro e w' ⟨y,rfl,rfl,bg',Λ₂,hW⟩
  have fk:Fr Λ Λ₂ (fun r=>r.1=k) w w':=(fa.mono fun _ z=>z.elim).trans (hW.fr.mono fun r h=>by rcases h with h|h <;> rw [h])
  exact ⟨_,rfl,rfl,Λ₂,bg',hF.trans (fk.mono fun r h=>.inl h),⟨hW.blk,hm.shards.fr hW.fr (by simp),hm.txs.fr hW.fr (by simp),hW.row⟩,fk⟩
set_option maxHeartbeats 4000000 in
theorem lone_again1_yes {g n cp i:Nat}{l:List OpD}{o:OpD}(hk:0<k)(hC:Clu w Λ k c N nt nb mu sh tx bg D ss ts bs)(hN:1<=N)(hN4:N<=4)(hbc:At w Λ still bc (.cells #[.pointer (some ⟨c,0,none⟩)] 23 (0,0)))(hbi:At w Λ still bi (.cells #[.int .i64 i] 3 (0,0)))(ht:i<nt)(hnb:nb<400)(hnt:nt<=60)
    (hop:ts[i*3]? = some (.slice (some ⟨g,0,none⟩) n cp)) (ho:Row w Λ still 65 3 (.slice (some ⟨g,0,none⟩) n cp) n (clL l)) (h0:l[0]? = some o) (hkey:97<=o.key/\o.key<=122) (hn:n<=6) :
    Calls Tryz.L 124 #[.pointer (some ⟨bc,0,none⟩),.pointer (some ⟨bi,0,none⟩)] w fun e w'=>e=.returned .nilIface/\∃ Λ' bg',Fr Λ Λ' (fun r=>r.1=k) w w'/\Clu w' Λ' k c N nt (nb+1) mu sh tx bg' D ss ts (bs ++ [.iface 110 (clBegin (plc o.key N:Nat) i (.slice (some ⟨g,0,none⟩) n cp))]):=by
  obtain ⟨gt,ctx,rfl,_⟩:=hC.txs.some (by omega)
  obtain ⟨obg,cbg,rfl⟩:=hC.bag.slice
  obtain ⟨osh,csh,rfl⟩:=hC.shards.slice
  have c1:w.cell? ⟨bc,0,none⟩=some (.pointer (some ⟨c,0,none⟩)):=hbc.cell rfl
  have c2:w.cell? ⟨bi,0,none⟩=some (.int .i64 i):=hbi.cell rfl
  have c3:w.cell? ⟨c,3,none⟩=some (.slice (some ⟨gt,0,none⟩) nt ctx):=hC.blk.cell rfl
  have c4:w.cell? ⟨c,4,none⟩=some (.slice obg nb cbg):=hC.blk.cell rfl
  have c5:w.cell? ⟨c,2,none⟩=some (.slice osh N csh):=hC.blk.cell rfl
  have e400:decide (400<=nb)=false:=by simp;omega
  have hh:∀ u:World,Calls Tryz.L 125 #[.slice (some ⟨gt,0,none⟩) nt ctx,.int .i64 i] u fun e w'=>e=.returned (.bool true)/\w'=u:=fun u=>by
    have:=lone_txsHas (w:=u) (some ⟨gt,0,none⟩) nt ctx i
    rwa [decide_eq_true (by omega)] at this
  have hh':=hid' hh
  have hB:=hid' (fun (u:World) (hu:u.heap=w.heap) (hos:u.os=w.os)=>lone_beginOf (w:=u) (hC.txs.fr (Fr.same (M:=fun _=>False) hu hos) (fun z=>z)) ht hop (ho.fr (Fr.same (M:=fun _=>False) hu hos) (fun z=>z)) h0 hkey hN hN4 (by omega) (by omega))
  have hP:=hid' (fun (u:World) (f:Fr Λ Λ (fun _=>False) w u)=>lone_put1 (msg:=.iface 110 (clBegin (plc o.key N:Nat) i (.slice (some ⟨g,0,none⟩) n cp))) (ρ:=still) (x:=#[]) (f:=(0,0)) (i:=0) hk (w0:=w) (Λ0:=Λ) (f.mono fun _ z=>z.elim) (hC.fr f fun _ _ z=>z) rfl (by omega))
  have hX:=hid' (And.intro hbc (And.intro hbi hC))
  clear hh hC hbc hbi ho hop
  go_enter LL.func124,Tryz.ntmps124
  go_wp2_with fail
  go_quiet ((go_at_call 125;exact Calls.quiet_of_same (hh'.out _)))
  go_wp2_with (go_at_call 46;refine (lone_bagFull _ _ _).mono ?_;rintro e w2 ⟨rfl,rfl⟩)
  have f1:Fr Λ Λ (fun _=>False) w (w.drewN nq):=Fr.same rfl rfl
  have hB':=hid' (hB.out (w.drewN nq).drew rfl rfl)
  generalize w.drewN nq=w1 at *
  obtain ⟨hbc,hbi,hC⟩:=hX.out
  clear c1 c2 c3 c4 c5 hB hh'
  have c1:w1.cell? ⟨bc,0,none⟩=some (.pointer (some ⟨c,0,none⟩)):=(hbc.fr f1 fun z=>z).cell rfl
  have c2:w1.cell? ⟨bi,0,none⟩=some (.int .i64 i):=(hbi.fr f1 fun z=>z).cell rfl
  have c3:w1.cell? ⟨c,3,none⟩=some (.slice (some ⟨gt,0,none⟩) nt ctx):=(hC.blk.fr f1 fun z=>z).cell rfl
  have c5:w1.cell? ⟨c,2,none⟩=some (.slice osh N csh):=(hC.blk.fr f1 fun z=>z).cell rfl
  have hG:=hid' (fun (u:World) (f:Fr Λ Λ (fun _=>False) w1.drew u)=>(⟨((hbc.fr f1 fun z=>z).fr ((Fr.same rfl rfl:Fr Λ Λ (fun _=>False) w1 w1.drew).trans f) fun z=>z).cell rfl,((hbi.fr f1 fun z=>z).fr ((Fr.same rfl rfl:Fr Λ Λ (fun _=>False) w1 w1.drew).trans f) fun z=>z).cell rfl,((hC.blk.fr f1 fun z=>z).fr ((Fr.same rfl rfl:Fr Λ Λ (fun _=>False) w1 w1.drew).trans f) fun z=>z).cell rfl,((hC.blk.fr f1 fun z=>z).fr ((Fr.same rfl rfl:Fr Λ Λ (fun _=>False) w1 w1.drew).trans f) fun z=>z).cell rfl,f1.trans ((Fr.same rfl rfl:Fr Λ Λ (fun _=>False) w1 w1.drew).trans f)⟩:u.cell? ⟨bc,0,none⟩=some (.pointer (some ⟨c,0,none⟩))/\u.cell? ⟨bi,0,none⟩=some (.int .i64 i)/\u.cell? ⟨c,3,none⟩=some (.slice (some ⟨gt,0,none⟩) nt ctx)/\u.cell? ⟨c,2,none⟩=some (.slice osh N csh)/\Fr Λ Λ (fun _=>False) w u))
  have nk:¬ (still.1=k):=by simp [still];omega
  have hG2:=hid' (fun (u u':World) (Λ':Lab) (f:Fr Λ Λ (fun _=>False) w u) (f':Fr Λ Λ' (fun r=>r.1=k) u u')=>(⟨((hbc.fr f fun z=>z).fr f' nk).cell rfl,((hbi.fr f fun z=>z).fr f' nk).cell rfl⟩:u'.cell? ⟨bc,0,none⟩=some (.pointer (some ⟨c,0,none⟩))/\u'.cell? ⟨bi,0,none⟩=some (.int .i64 i)))
  clear hbc hbi hC f1 hX
  have n1:=World.new_ne w1 _ c1
  go_region_held3 (fun u=>u.cell? ⟨bc,0,none⟩=some (.pointer (some ⟨c,0,none⟩))/\u.cell? ⟨bi,0,none⟩=some (.int .i64 i)/\u.cell? ⟨c,3,none⟩=some (.slice (some ⟨gt,0,none⟩) nt ctx)/\u.cell? ⟨c,2,none⟩=some (.slice osh N csh)) (go_keep)
    (first
      | (go_at_call 49;refine hB'.out.mono ?_;rintro e w5 ⟨y,rfl,rfl,hF5⟩;obtain ⟨q1,q2,q3,q4,q5⟩:=hG.out _ hF5;have hF5':=hid' q5;clear hF5 q5;have n5:=World.new_ne w5 _ q1;have n6:=World.new_ne w5 _ q2;have n7:=World.new_ne w5 _ q3;have n8:=World.new_ne w5 _ q4)
      | (go_at_call 48;refine (hP.out _ hF5'.out).mono ?_;rintro e w6 ⟨y,rfl,rfl,Λ6,bg',h6,h7,h8⟩;obtain ⟨r1,r2⟩:=hG2.out _ _ _ hF5'.out h8;have r3:w6.cell? ⟨c,3,none⟩=some (.slice (some ⟨gt,0,none⟩) nt ctx):=h7.blk.cell rfl;have r4:w6.cell? ⟨c,2,none⟩=some (.slice osh N csh):=h7.blk.cell rfl;have hM6:=hid' (And.intro h6 (And.intro h7 h8));clear h6 h7 h8))
  all_goals
    have hM7:=hM6
    have hF7:=hF5'
    go_wp2
    go_ret
    exact ⟨rfl,Λ6,bg',(hF7.out.mono fun _ z=>z.elim).trans hM7.out.2.2,hM7.out.2.1⟩
end
end
section
section
variable {w:World}{Λ:Lab}{ρ:Role}{n:Nat}{frm to tx kd:Int}{v:Value}{l:List OpD}
def toldV (kd frm to tx:Int) (yes:Bool) (ops reads:Value):Value:=.agg #[.int .i64 kd,.int .i64 frm,.int .i64 to,.int .i64 tx,.bool yes,ops,reads]
theorem lone_asMsg:Calls Tryz.L 294 #[.agg #[.int .i64 frm,.int .i64 to,.int .i64 tx],.int .i64 kd] w fun e w'=>e=.returned (toldV kd frm to tx false (.slice none 0 0) (.slice none 0 0))/\w'=(w.alloc (.cells #[.int .i64 frm,.int .i64 to,.int .i64 tx] 108)).alloc (.cells #[.int .i64 kd,.int .i64 frm,.int .i64 to,.int .i64 tx,.bool false,.slice none 0 0,.slice none 0 0] 238):=by
  go_enter LL.func294,Tryz.ntmps294
  go_wp2
  refine bodyPost_ret (v:=toldV kd frm to tx false (.slice none 0 0) (.slice none 0 0)) ?_ rfl ⟨rfl,rfl⟩
  simp [results,Tryz.results294,go_sem,toldV]
theorem lone_told_ack:Calls Tryz.L 318 #[.agg #[.int .i64 frm,.int .i64 to,.int .i64 tx]] w fun e w'=>e=.returned (toldV 5 frm to tx false (.slice none 0 0) (.slice none 0 0))/\Fr Λ Λ (fun _=>False) w w':=by
  go_enter LL.func318,Tryz.ntmps318
  go_wp2_with (go_at_call 294;refine lone_asMsg.mono ?_;rintro e w1 ⟨rfl,rfl⟩;unfold toldV)
  refine bodyPost_ret (v:=toldV 5 frm to tx false (.slice none 0 0) (.slice none 0 0)) ?_ rfl ⟨rfl,((((Fr.refl Λ _ w).alloc _).alloc _).alloc _).alloc _⟩
  simp [results,Tryz.results318,go_sem,toldV]
theorem lone_told_ask:Calls Tryz.L 319 #[.agg #[.int .i64 frm,.int .i64 to,.int .i64 tx]] w fun e w'=>e=.returned (toldV 6 frm to tx false (.slice none 0 0) (.slice none 0 0))/\Fr Λ Λ (fun _=>False) w w':=by
  go_enter LL.func319,Tryz.ntmps319
  go_wp2_with (go_at_call 294;refine lone_asMsg.mono ?_;rintro e w1 ⟨rfl,rfl⟩;unfold toldV)
  refine bodyPost_ret (v:=toldV 6 frm to tx false (.slice none 0 0) (.slice none 0 0)) ?_ rfl ⟨rfl,((((Fr.refl Λ _ w).alloc _).alloc _).alloc _).alloc _⟩
  simp [results,Tryz.results319,go_sem,toldV]
theorem lone_told_decide {yes:Bool}:Calls Tryz.L 317 #[.agg #[.int .i64 frm,.int .i64 to,.int .i64 tx,.bool yes]] w fun e w'=>e=.returned (toldV 4 frm to tx yes (.slice none 0 0) (.slice none 0 0))/\Fr Λ Λ (fun _=>False) w w':=by
  go_enter LL.func317,Tryz.ntmps317
  go_wp2_with (go_at_call 294;refine lone_asMsg.mono ?_;rintro e w1 ⟨rfl,rfl⟩;unfold toldV)
  refine bodyPost_ret (v:=toldV 4 frm to tx yes (.slice none 0 0) (.slice none 0 0)) ?_ rfl ⟨rfl,(((((Fr.refl Λ _ w).alloc _).alloc _).alloc _).alloc _).alloc _⟩
  simp [results,Tryz.results317,go_sem,toldV]
end
end
section
section
variable {w:World}{Λ:Lab}{ρ:Role}{n g cap:Nat}{frm to tx kd:Int}{v:Value}{l:List OpD}
set_option maxHeartbeats 1000000 in
theorem lone_freshAt (hr:Row w Λ ρ 65 3 (.slice (some ⟨g,0,none⟩) n cap) n (clL l))(h0:0<n)(hn:n<=5864062014805) :
    Calls Tryz.L 82 #[.slice (some ⟨g,0,none⟩) n cap] w fun e w'=>e=.returned (.slice (some ⟨w.heap.size,0,none⟩) n n)/\w'=w.alloc (.cells (clL l).toArray 65):=by
  obtain ⟨i,s1,s2,s3,s4⟩:=zeroOp
  have s0:=slotOp.und
  have hi:(Tryz.L.info? 65).map (·.size)=some 3:=by rw [s1];simp [s3]
  have hb0:((n:Int) == 0)=false:=by simp;omega
  have hb1:i.bytes*n<=281474976710656:=by rw [s4];omega
  have hb2:n<=maxLen:=by unfold maxLen;omega
  have hlen:=hr.len
  have hms:(madeCells #[.bool false,.int .u8 0,.int .i32 0] (n*3)).size=n*3:=size_madeCells _ _
  have hold:∀ j v,(clL l)[j]? = some v->(w.alloc (.cells (madeCells #[.bool false,.int .u8 0,.int .i32 0] (n*3)) 65)).cell? ((⟨g,0,none⟩:Addr).add j)=some v:=fun j v hv=>by
    have h1:=hr.own.cells rfl j v hv
    have hg:g<w.heap.size:=own_lt hr.own rfl
    have e:((⟨g,0,none⟩:Addr).add j).block=g:=by unfold Addr.add;split <;> rfl
    rw [← h1]
    unfold World.cell?
    rw [Mem.alloc_get,e,if_neg (by omega)]
  have hcp:=run_copy_rows (P:=Tryz.L) (w:=w) (dT:=36) (sT:=36) (ty:=3) (c:=n) (c':=cap) s0 hi hlen hms hold (one_clL l)
  clear hr hold
  go_enter LL.func82,Tryz.ntmps82
  go_wp2_with (first
    | (at_make;refine wpList_make_rows rfl _ _ 36 rfl 65 i _ 3 n s0 s1 s2 s3 .i64 .i64 (by simp [Act.eval,Act.put]) (by simp [Act.eval,Act.put]) hb1 hb2 ?_))
  go_ret
  exact ⟨rfl,rfl⟩
theorem row_new_at {W:World}{N e size:Nat}{xs:List Value}(hs:W.heap.size=N)(hl:xs.length=n*size)(h63:n<=maxLen):Row (W.alloc (.cells xs.toArray e)) (fun x=>if x=N then ρ else Λ x) ρ e size (.slice (some ⟨N,0,none⟩) n n) n xs:=by
  subst hs
  exact row_new hl h63
set_option maxHeartbeats 2000000 in
theorem lone_told_begin (ρ':Role)(hr:Row w Λ ρ 65 3 (.slice (some ⟨g,0,none⟩) n cap) n (clL l))(h0:0<n)(hn:n<=5864062014805) :
    Calls Tryz.L 293 #[.agg #[.int .i64 frm,.int .i64 to,.int .i64 tx,.slice (some ⟨g,0,none⟩) n cap]] w fun e w'=>∃ y Λ',e=.returned (toldV 1 frm to tx false y (.slice none 0 0))/\Fr Λ Λ' (fun _=>False) w w'/\Row w' Λ' ρ' 65 3 y n (clL l):=by
  have hlen:=hr.len
  have hF:=hid' (fun (u:World) (f:Fr Λ Λ (fun _=>False) w u)=>lone_freshAt (hr.fr f fun z=>z) h0 hn)
  have hb2:n<=maxLen:=by unfold maxLen;omega
  clear hr
  go_enter LL.func293,Tryz.ntmps293
  go_wp2_with (first
    | (go_at_call 294;refine lone_asMsg.mono ?_;rintro e w1 ⟨rfl,rfl⟩;unfold toldV)
    | (go_at_call 82;refine (hF.out _ ((((((Fr.refl Λ _ w).alloc _).alloc _).alloc _).alloc _).alloc _)).mono ?_;rintro e w1 ⟨rfl,rfl⟩))
  refine bodyPost_ret (v:=toldV 1 frm to tx false (.slice (some ⟨w.heap.size+1+1+1+1+1,0,none⟩) n n) (.slice none 0 0)) ?_ rfl ⟨_,fun x=>if x=w.heap.size+1+1+1+1+1 then ρ' else Λ x,rfl,Fr.relab (((((((Fr.refl Λ _ w).alloc _).alloc _).alloc _).alloc _).alloc _).alloc _) (fun x hx=>if_neg (by omega)),row_new_at (by simp only [alloc_size]) hlen hb2⟩
  simp [results,Tryz.results293,go_sem,toldV]
set_option maxHeartbeats 2000000 in
theorem lone_told_prepare (ρ':Role)(hr:Row w Λ ρ 65 3 (.slice (some ⟨g,0,none⟩) n cap) n (clL l))(h0:0<n)(hn:n<=5864062014805) :
    Calls Tryz.L 315 #[.agg #[.int .i64 frm,.int .i64 to,.int .i64 tx,.slice (some ⟨g,0,none⟩) n cap]] w fun e w'=>∃ y Λ',e=.returned (toldV 2 frm to tx false y (.slice none 0 0))/\Fr Λ Λ' (fun _=>False) w w'/\Row w' Λ' ρ' 65 3 y n (clL l):=by
  have hlen:=hr.len
  have hF:=hid' (fun (u:World) (f:Fr Λ Λ (fun _=>False) w u)=>lone_freshAt (hr.fr f fun z=>z) h0 hn)
  have hb2:n<=maxLen:=by unfold maxLen;omega
  clear hr
  go_enter LL.func315,Tryz.ntmps315
  go_wp2_with (first
    | (go_at_call 294;refine lone_asMsg.mono ?_;rintro e w1 ⟨rfl,rfl⟩;unfold toldV)
    | (go_at_call 82;refine (hF.out _ ((((((Fr.refl Λ _ w).alloc _).alloc _).alloc _).alloc _).alloc _)).mono ?_;rintro e w1 ⟨rfl,rfl⟩))
  refine bodyPost_ret (v:=toldV 2 frm to tx false (.slice (some ⟨w.heap.size+1+1+1+1+1,0,none⟩) n n) (.slice none 0 0)) ?_ rfl ⟨_,fun x=>if x=w.heap.size+1+1+1+1+1 then ρ' else Λ x,rfl,Fr.relab (((((((Fr.refl Λ _ w).alloc _).alloc _).alloc _).alloc _).alloc _).alloc _) (fun x hx=>if_neg (by omega)),row_new_at (by simp only [alloc_size]) hlen hb2⟩
  simp [results,Tryz.results315,go_sem,toldV]
end
end
end Go.Proofs.Shardlog
