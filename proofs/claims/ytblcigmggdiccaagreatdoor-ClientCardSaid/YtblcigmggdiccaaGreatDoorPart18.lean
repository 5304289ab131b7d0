/- Several texts in one: DocI, DocU, DocV, LoneT, LoneU, DocJ, DocM, DocK, DocL, DocN, LoneR, LoneForget, LoneRefNew. -/
import Derived.Test.YtblcigmggdiccaaGreatDoorPart17
import Derived.Deep.RegionLaw
import Derived.Lib.SliceRun
import Derived.Laws.IdiomCopy
import Derived.Deep.RegionHeld3
import Derived.Test.YtblcigmggdiccaaGreatDoorPart15
import Derived.Test.YtblcigmggdiccaaGreatDoorPart14
import Derived.Test.YtblcigmggdiccaaGreatDoorPart11
set_option linter.unusedSectionVars false
set_option linter.unusedSimpArgs false
set_option linter.unusedVariables false
set_option maxRecDepth 100000
namespace Go.Proofs.Shardlog
open Go Go.Conc Go.Tame Go.Proofs Go.RowKit Go.Mem
section
theorem slot32:Slot 166 21 1 4:=⟨by kernel_rfl,by kernel_rfl,by decide⟩
theorem zero32:∃ i,Tryz.L.info? 21=some i/\i.zero=some (.int .i32 0)/\i.size=1/\i.bytes=4:=by
  obtain ⟨i,z,h1,h2,h3,h4,h5⟩:=slot32.get
  have h:(Tryz.L.info? 21).bind (·.zero)=some (.int .i32 0):=by kernel_rfl
  rw [h1] at h
  exact ⟨i,h1,h,h3,h4⟩
def rdL (l:List Int):List Value:=l.map fun x=>.int .i32 x
theorem len_rdL (l:List Int):(rdL l).length=l.length:=by simp [rdL]
theorem one_rdL (l:List Int):∀ u ∈ rdL l,u.oneCell'=true:=by
  intro u hu
  obtain ⟨x,_,rfl⟩:=List.mem_map.1 hu
  rfl
section
variable {w:World}{Λ:Lab}{ρ:Role}{n:Nat}{v:Value}{l:List Int}
theorem lone_fresh_nil (a:Option Addr)(c:Nat):Calls Tryz.L 201 #[.slice a 0 c] w fun e w'=>e=.returned (.slice none 0 0)/\w'=w:=by
  go_enter LL.func201,Tryz.ntmps201
  go_wp2
  go_ret
  exact ⟨rfl,rfl⟩
set_option maxHeartbeats 1000000 in
theorem lone_fresh_some {g cap:Nat}(ρ':Role)(hr:Row w Λ ρ 21 1 (.slice (some ⟨g,0,none⟩) n cap) n (rdL l))(h0:0<n)(hn:n<=1048576) :
    Calls Tryz.L 201 #[.slice (some ⟨g,0,none⟩) n cap] w fun e w'=>∃ y,e=.returned y/\∃ Λ',Fr Λ Λ' (fun _=>False) w w'/\Row w' Λ' ρ' 21 1 y n (rdL l):=by
  obtain ⟨i,s1,s2,s3,s4⟩:=zero32
  have s0:=slot32.und
  have hi:(Tryz.L.info? 21).map (·.size)=some 1:=by rw [s1];simp [s3]
  have hb0:((n:Int) == 0)=false:=by simp;omega
  have hb1:i.bytes*n<=281474976710656:=by rw [s4];omega
  have hb2:n<=maxLen:=by unfold maxLen;omega
  have hlen:=hr.len
  have hms:(madeCells #[.int .i32 0] n).size=n*1:=by rw [size_madeCells,Nat.mul_one]
  have hold:∀ j v,(rdL l)[j]? = some v->(w.alloc (.cells (madeCells #[.int .i32 0] n) 21)).cell? ((⟨g,0,none⟩:Addr).add j)=some v:=fun j v hv=>by
    have h1:=hr.own.cells rfl j v hv
    have hg:g<w.heap.size:=own_lt hr.own rfl
    have e:((⟨g,0,none⟩:Addr).add j).block=g:=by unfold Addr.add;split <;> rfl
    rw [← h1]
    unfold World.cell?
    rw [Mem.alloc_get,e,if_neg (by omega)]
  have hfin:Row (w.alloc (.cells (rdL l).toArray 21)) (fun x=>if x=w.heap.size then ρ' else Λ x) ρ' 21 1 (.slice (some ⟨w.heap.size,0,none⟩) n n) n (rdL l):=row_new hlen hb2
  have hfr:Fr Λ (fun x=>if x=w.heap.size then ρ' else Λ x) (fun _=>False) w (w.alloc (.cells (rdL l).toArray 21)):=(Fr.alloc' _ _).relab fun x hx=>by rw [if_neg (by omega)]
  have H:=hid' hfin
  have H2:=hid' hfr
  have hcp:=run_copy_rows (P:=Tryz.L) (w:=w) (dT:=166) (sT:=166) (ty:=3) (c:=n) (c':=cap) s0 hi hlen hms hold (one_rdL l)
  clear hr hfin hfr hold
  go_enter LL.func201,Tryz.ntmps201
  go_wp2_with (first
    | (at_make;refine wpList_make_rows rfl _ _ 166 rfl 21 i _ 1 n s0 s1 s2 s3 .i64 .i64 (by simp [Act.eval,Act.put]) (by simp [Act.eval,Act.put]) hb1 hb2 ?_;rw [Nat.mul_one]))
  go_ret
  exact ⟨_,rfl,_,H2.out,H.out⟩
end
end
section
section
variable {w:World}{Λ:Lab}{ρ:Role}{n g cap:Nat}{frm to tx kd:Int}{v:Value}{l:List Int}{yes:Bool}
set_option maxHeartbeats 1000000 in
theorem lone_fresh32At (hr:Row w Λ ρ 21 1 (.slice (some ⟨g,0,none⟩) n cap) n (rdL l))(h0:0<n)(hn:n<=1048576) :
    Calls Tryz.L 201 #[.slice (some ⟨g,0,none⟩) n cap] w fun e w'=>e=.returned (.slice (some ⟨w.heap.size,0,none⟩) n n)/\w'=w.alloc (.cells (rdL l).toArray 21):=by
  obtain ⟨i,s1,s2,s3,s4⟩:=zero32
  have s0:=slot32.und
  have hi:(Tryz.L.info? 21).map (·.size)=some 1:=by rw [s1];simp [s3]
  have hb0:((n:Int) == 0)=false:=by simp;omega
  have hb1:i.bytes*n<=281474976710656:=by rw [s4];omega
  have hb2:n<=maxLen:=by unfold maxLen;omega
  have hlen:=hr.len
  have hms:(madeCells #[.int .i32 0] n).size=n*1:=by rw [size_madeCells,Nat.mul_one]
  have hold:∀ j v,(rdL l)[j]? = some v->(w.alloc (.cells (madeCells #[.int .i32 0] n) 21)).cell? ((⟨g,0,none⟩:Addr).add j)=some v:=fun j v hv=>by
    have h1:=hr.own.cells rfl j v hv
    have hg:g<w.heap.size:=own_lt hr.own rfl
    have e:((⟨g,0,none⟩:Addr).add j).block=g:=by unfold Addr.add;split <;> rfl
    rw [← h1]
    unfold World.cell?
    rw [Mem.alloc_get,e,if_neg (by omega)]
  have hcp:=run_copy_rows (P:=Tryz.L) (w:=w) (dT:=166) (sT:=166) (ty:=3) (c:=n) (c':=cap) s0 hi hlen hms hold (one_rdL l)
  clear hr hold
  go_enter LL.func201,Tryz.ntmps201
  go_wp2_with (first
    | (at_make;refine wpList_make_rows rfl _ _ 166 rfl 21 i _ 1 n s0 s1 s2 s3 .i64 .i64 (by simp [Act.eval,Act.put]) (by simp [Act.eval,Act.put]) hb1 hb2 ?_;rw [Nat.mul_one]))
  go_ret
  exact ⟨rfl,rfl⟩
theorem row_new_drew {W:World}{N e size:Nat}{xs:List Value}(hs:W.heap.size=N)(hl:xs.length=n*size)(h63:n<=maxLen):Row (W.alloc (.cells xs.toArray e)).drew (fun x=>if x=N then ρ else Λ x) ρ e size (.slice (some ⟨N,0,none⟩) n n) n xs:=
  (row_new_at hs hl h63).fr (Fr.same (M:=fun _=>False) rfl rfl) fun z=>z
set_option maxHeartbeats 2000000 in
theorem lone_told_vote (ρ':Role)(hr:Row w Λ ρ 21 1 (.slice (some ⟨g,0,none⟩) n cap) n (rdL l))(h0:0<n)(hn:n<=1048576) :
    Calls Tryz.L 316 #[.agg #[.int .i64 frm,.int .i64 to,.int .i64 tx,.bool yes,.slice (some ⟨g,0,none⟩) n cap]] w fun e w'=>∃ y Λ',e=.returned (toldV 3 frm to tx yes (.slice none 0 0) y)/\Fr Λ Λ' (fun _=>False) w w'/\Row w' Λ' ρ' 21 1 y n (rdL l):=by
  have hlen:=hr.len
  have hF:=hid' (fun (u:World) (f:Fr Λ Λ (fun _=>False) w u)=>(lone_fresh32At (hr.fr f fun z=>z) h0 hn).mono (R':=fun e w'=>∃ y,e=.returned y/\(y=.slice (some ⟨u.heap.size,0,none⟩) n n/\w'=u.alloc (.cells (rdL l).toArray 21))) fun e w' h=>⟨_,h.1,rfl,h.2⟩)
  have hb2:n<=maxLen:=by unfold maxLen;omega
  clear hr
  go_enter LL.func316,Tryz.ntmps316
  go_wp2_with (go_at_call 294;refine lone_asMsg.mono ?_;rintro e w1 ⟨rfl,rfl⟩;unfold toldV)
  go_region_law (refine call_draw (f:=201) (args:=#[.slice (some ⟨g,0,none⟩) n cap]) rfl rfl (by simp [Act.eval,Act.put]) LL.func201 (by kernel_rfl) (by kernel_rfl) (hF.out _ ((((((Fr.refl Λ _ w).alloc _).alloc _).alloc _).alloc _).alloc _).drew) ?_;intro y w6 hy;obtain ⟨rfl,rfl⟩:=hy)
  all_goals go_wp2
  all_goals
    refine bodyPost_ret (v:=toldV 3 frm to tx yes (.slice none 0 0) (.slice (some ⟨w.heap.size+1+1+1+1+1,0,none⟩) n n)) ?_ rfl ⟨_,fun x=>if x=w.heap.size+1+1+1+1+1 then ρ' else Λ x,rfl,Fr.relab (((((((Fr.refl Λ _ w).alloc _).alloc _).alloc _).alloc _).alloc _).alloc _).drew (fun x hx=>if_neg (by omega)),row_new_drew (by simp only [alloc_size]) hlen hb2⟩
    simp [results,Tryz.results316,go_sem,toldV]
set_option maxHeartbeats 2000000 in
theorem lone_told_reply (ρ':Role)(hr:Row w Λ ρ 21 1 (.slice (some ⟨g,0,none⟩) n cap) n (rdL l))(h0:0<n)(hn:n<=1048576) :
    Calls Tryz.L 314 #[.agg #[.int .i64 frm,.int .i64 to,.int .i64 tx,.bool yes,.slice (some ⟨g,0,none⟩) n cap]] w fun e w'=>∃ y Λ',e=.returned (toldV 7 frm to tx yes (.slice none 0 0) y)/\Fr Λ Λ' (fun _=>False) w w'/\Row w' Λ' ρ' 21 1 y n (rdL l):=by
  have hlen:=hr.len
  have hF:=hid' (fun (u:World) (f:Fr Λ Λ (fun _=>False) w u)=>(lone_fresh32At (hr.fr f fun z=>z) h0 hn).mono (R':=fun e w'=>∃ y,e=.returned y/\(y=.slice (some ⟨u.heap.size,0,none⟩) n n/\w'=u.alloc (.cells (rdL l).toArray 21))) fun e w' h=>⟨_,h.1,rfl,h.2⟩)
  have hb2:n<=maxLen:=by unfold maxLen;omega
  clear hr
  go_enter LL.func314,Tryz.ntmps314
  go_wp2_with (go_at_call 294;refine lone_asMsg.mono ?_;rintro e w1 ⟨rfl,rfl⟩;unfold toldV)
  go_region_law (refine call_draw (f:=201) (args:=#[.slice (some ⟨g,0,none⟩) n cap]) rfl rfl (by simp [Act.eval,Act.put]) LL.func201 (by kernel_rfl) (by kernel_rfl) (hF.out _ ((((((Fr.refl Λ _ w).alloc _).alloc _).alloc _).alloc _).alloc _).drew) ?_;intro y w6 hy;obtain ⟨rfl,rfl⟩:=hy)
  all_goals go_wp2
  all_goals
    refine bodyPost_ret (v:=toldV 7 frm to tx yes (.slice none 0 0) (.slice (some ⟨w.heap.size+1+1+1+1+1,0,none⟩) n n)) ?_ rfl ⟨_,fun x=>if x=w.heap.size+1+1+1+1+1 then ρ' else Λ x,rfl,Fr.relab (((((((Fr.refl Λ _ w).alloc _).alloc _).alloc _).alloc _).alloc _).alloc _).drew (fun x hx=>if_neg (by omega)),row_new_drew (by simp only [alloc_size]) hlen hb2⟩
    simp [results,Tryz.results314,go_sem,toldV]
set_option maxHeartbeats 2000000 in
theorem lone_told_vote_nil {a:Option Addr}{c:Nat} :
    Calls Tryz.L 316 #[.agg #[.int .i64 frm,.int .i64 to,.int .i64 tx,.bool yes,.slice a 0 c]] w fun e w'=>e=.returned (toldV 3 frm to tx yes (.slice none 0 0) (.slice none 0 0))/\Fr Λ Λ (fun _=>False) w w':=by
  have hF:=hid' (fun (u:World)=>(lone_fresh_nil (w:=u) a c).mono (R':=fun e w'=>∃ y,e=.returned y/\(y=.slice none 0 0/\w'=u)) fun e w' h=>⟨_,h.1,rfl,h.2⟩)
  go_enter LL.func316,Tryz.ntmps316
  go_wp2_with (go_at_call 294;refine lone_asMsg.mono ?_;rintro e w1 ⟨rfl,rfl⟩;unfold toldV)
  go_region_law (refine call_draw (f:=201) (args:=#[.slice a 0 c]) rfl rfl (by simp [Act.eval,Act.put]) LL.func201 (by kernel_rfl) (by kernel_rfl) (hF.out _) ?_;intro y w6 hy;obtain ⟨rfl,rfl⟩:=hy)
  all_goals go_wp2
  all_goals
    refine bodyPost_ret (v:=toldV 3 frm to tx yes (.slice none 0 0) (.slice none 0 0)) ?_ rfl ⟨rfl,((((((Fr.refl Λ _ w).alloc _).alloc _).alloc _).alloc _).alloc _).drew⟩
    simp [results,Tryz.results316,go_sem,toldV]
set_option maxHeartbeats 2000000 in
theorem lone_told_reply_nil {a:Option Addr}{c:Nat} :
    Calls Tryz.L 314 #[.agg #[.int .i64 frm,.int .i64 to,.int .i64 tx,.bool yes,.slice a 0 c]] w fun e w'=>e=.returned (toldV 7 frm to tx yes (.slice none 0 0) (.slice none 0 0))/\Fr Λ Λ (fun _=>False) w w':=by
  have hF:=hid' (fun (u:World)=>(lone_fresh_nil (w:=u) a c).mono (R':=fun e w'=>∃ y,e=.returned y/\(y=.slice none 0 0/\w'=u)) fun e w' h=>⟨_,h.1,rfl,h.2⟩)
  go_enter LL.func314,Tryz.ntmps314
  go_wp2_with (go_at_call 294;refine lone_asMsg.mono ?_;rintro e w1 ⟨rfl,rfl⟩;unfold toldV)
  go_region_law (refine call_draw (f:=201) (args:=#[.slice a 0 c]) rfl rfl (by simp [Act.eval,Act.put]) LL.func201 (by kernel_rfl) (by kernel_rfl) (hF.out _) ?_;intro y w6 hy;obtain ⟨rfl,rfl⟩:=hy)
  all_goals go_wp2
  all_goals
    refine bodyPost_ret (v:=toldV 7 frm to tx yes (.slice none 0 0) (.slice none 0 0)) ?_ rfl ⟨rfl,((((((Fr.refl Λ _ w).alloc _).alloc _).alloc _).alloc _).alloc _).drew⟩
    simp [results,Tryz.results314,go_sem,toldV]
end
end
section
theorem LL.told110 (v:Value)(w:World):(Go.method (Tryz.L.types.size+100) 110 v "shardlog/cluster.told").run Tryz.L w=.ok (293,v) w:=by kernel_rfl
theorem LL.told263 (v:Value)(w:World):(Go.method (Tryz.L.types.size+100) 263 v "shardlog/cluster.told").run Tryz.L w=.ok (315,v) w:=by kernel_rfl
theorem LL.told265 (v:Value)(w:World):(Go.method (Tryz.L.types.size+100) 265 v "shardlog/cluster.told").run Tryz.L w=.ok (316,v) w:=by kernel_rfl
theorem LL.told268 (v:Value)(w:World):(Go.method (Tryz.L.types.size+100) 268 v "shardlog/cluster.told").run Tryz.L w=.ok (317,v) w:=by kernel_rfl
theorem LL.told271 (v:Value)(w:World):(Go.method (Tryz.L.types.size+100) 271 v "shardlog/cluster.told").run Tryz.L w=.ok (318,v) w:=by kernel_rfl
theorem LL.told273 (v:Value)(w:World):(Go.method (Tryz.L.types.size+100) 273 v "shardlog/cluster.told").run Tryz.L w=.ok (319,v) w:=by kernel_rfl
theorem LL.told259 (v:Value)(w:World):(Go.method (Tryz.L.types.size+100) 259 v "shardlog/cluster.told").run Tryz.L w=.ok (314,v) w:=by kernel_rfl
section
variable {w:World}{ops:Array Oper}{rest:List Oper}{o:Oper}{a:Act}{Q:Exit->Act->World->Prop}
theorem exec_invoke {x:Operand}{nm:String}{t:TypeId}{p p':Value}{f:Nat}{fn:Func}(hop:o.op=.call { callee:=.invoke x nm,args:=#[],argTypes:=#[] })(hx:a.eval x=.iface t p)(hm:∀ u:World,(Go.method (Tryz.L.types.size+100) t p nm).run Tryz.L u=.ok (f,p') u)
    (hf:Tryz.L.funcs[f]? = some fn) (hb:fn.body.isNone=false) (hn:(fn.name == "runtime.NumGoroutine")=false) (u:World):(execOp a.eval o).run Tryz.L u=.ok (.enter f #[p']) u:=by
  have hp:∀ v:World,Go.program.run Tryz.L v=.ok Tryz.L v:=fun _=>rfl
  have e:execOp a.eval o=callMethod (.iface t p) nm #[]:=by
    unfold execOp
    rw [hop]
    show (do let d ← resolve a.eval _ _;invoke d.target d.args:Sem Next)=_
    unfold resolve
    simp [invoke,hx]
  rw [e]
  unfold callMethod
  simp only [Sem.run_bind,hp,Result.andThen_ok]
  have hm':=hm u
  rw [show Tryz.L.types.size+100=Tryz.L.types.size+Made.depth from rfl] at hm'
  rw [hm']
  simp only [Result.andThen_ok]
  exact (callFunc_enter (args:=#[p'] ++ #[]) hf hb hn u).1
theorem wpList_invoke {x:Operand}{nm:String}{t:TypeId}{p p':Value}{f:Nat}{fn:Func}{R:Value->World->Prop}(hg:o.guard=none)(hop:o.op=.call { callee:=.invoke x nm,args:=#[],argTypes:=#[] })(hx:a.eval x=.iface t p)(hm:∀ u:World,(Go.method (Tryz.L.types.size+100) t p nm).run Tryz.L u=.ok (f,p') u)
    (hf:Tryz.L.funcs[f]? = some fn) (hb:fn.body.isNone=false) (hn:(fn.name == "runtime.NumGoroutine")=false) (hc:Calls Tryz.L f #[p'] w fun e w'=>∃ y,e=.returned y/\R y w')
    (hK:∀ y w',R y w'->wpList Tryz.L ops Q rest (a.put o.dst y) w'):wpList Tryz.L ops Q (o :: rest) a w:=by
  refine wpList_plain hg fun K hK'=>?_
  unfold Oper.wp
  rw [exec_invoke hop hx hm hf hb hn w]
  exact hc.mono fun e w' ⟨y,he,hR⟩=>by subst he;exact hK' _ _ (hK y w' hR)
end
def OpsIn (w:World) (Λ:Lab) (v:Value) (l:List OpD):Prop:=Row w Λ still 65 3 v l.length (clL l)/\0<l.length/\l.length<=6
def RdsIn (w:World) (Λ:Lab) (v:Value) (l:List Int):Prop:=Row w Λ still 21 1 v l.length (rdL l)/\l.length<=6
def MsgC (w:World) (Λ:Lab) (x:Msg) (v:Value):Prop:=
  (x.kind=1/\x.yes=false/\x.reads = []/\∃ o,v=.iface 110 (.agg #[Value.int .i64 x.frm,.int .i64 x.to,.int .i64 x.tx,o])/\OpsIn w Λ o x.ops) ∨
  (x.kind=2/\x.yes=false/\x.reads = []/\∃ o,v=.iface 263 (.agg #[Value.int .i64 x.frm,.int .i64 x.to,.int .i64 x.tx,o])/\OpsIn w Λ o x.ops) ∨
  (x.kind=3/\x.ops = []/\∃ r,v=.iface 265 (.agg #[Value.int .i64 x.frm,.int .i64 x.to,.int .i64 x.tx,.bool x.yes,r])/\RdsIn w Λ r x.reads) ∨
  (x.kind=4/\x.ops = []/\x.reads = []/\v=.iface 268 (.agg #[Value.int .i64 x.frm,.int .i64 x.to,.int .i64 x.tx,.bool x.yes])) ∨
  (x.kind=5/\x.yes=false/\x.ops = []/\x.reads = []/\v=.iface 271 (.agg #[Value.int .i64 x.frm,.int .i64 x.to,.int .i64 x.tx])) ∨
  (x.kind=6/\x.yes=false/\x.ops = []/\x.reads = []/\v=.iface 273 (.agg #[Value.int .i64 x.frm,.int .i64 x.to,.int .i64 x.tx])) ∨
  (x.kind=7/\x.ops = []/\∃ r,v=.iface 259 (.agg #[Value.int .i64 x.frm,.int .i64 x.to,.int .i64 x.tx,.bool x.yes,r])/\RdsIn w Λ r x.reads)
section
variable {w w':World}{Λ Λ':Lab}{M:Role->Prop}{v:Value}{x:Msg}
theorem OpsIn.fr {l:List OpD}(h:OpsIn w Λ v l)(f:Fr Λ Λ' M w w')(hm:¬ M still):OpsIn w' Λ' v l:=⟨h.1.fr f hm,h.2⟩
theorem RdsIn.fr {l:List Int}(h:RdsIn w Λ v l)(f:Fr Λ Λ' M w w')(hm:¬ M still):RdsIn w' Λ' v l:=⟨h.1.fr f hm,h.2⟩
theorem MsgC.fr (h:MsgC w Λ x v)(f:Fr Λ Λ' M w w')(hm:¬ M still):MsgC w' Λ' x v:=by
  rcases h with ⟨h1,h2,h3,o,h4,h5⟩|⟨h1,h2,h3,o,h4,h5⟩|⟨h1,h2,o,h4,h5⟩|h|h|h|⟨h1,h2,o,h4,h5⟩
  · exact .inl ⟨h1,h2,h3,o,h4,h5.fr f hm⟩
  · exact .inr (.inl ⟨h1,h2,h3,o,h4,h5.fr f hm⟩)
  · exact .inr (.inr (.inl ⟨h1,h2,o,h4,h5.fr f hm⟩))
  · exact .inr (.inr (.inr (.inl h)))
  · exact .inr (.inr (.inr (.inr (.inl h))))
  · exact .inr (.inr (.inr (.inr (.inr (.inl h)))))
  · exact .inr (.inr (.inr (.inr (.inr (.inr ⟨h1,h2,o,h4,h5.fr f hm⟩)))))
def TellsC (w:World) (Λ:Lab) (ρ1 ρ2:Role) (x:Msg) (e:Ending) (w':World):Prop:=
  ∃ Λ' o r,e=.returned (toldV x.kind x.frm x.to x.tx x.yes o r)/\Fr Λ Λ' (fun _=>False) w w'/\Row w' Λ' ρ1 65 3 o x.ops.length (clL x.ops)/\Row w' Λ' ρ2 21 1 r x.reads.length (rdL x.reads)
theorem row_nil_ops {ρ:Role}{l:List OpD}(h:l = []):Row w Λ ρ 65 3 (.slice none 0 0) l.length (clL l):=by subst h;exact Row.nil _ _ _ _ _
theorem row_nil_rds {ρ:Role}{l:List Int}(h:l = []):Row w Λ ρ 21 1 (.slice none 0 0) l.length (rdL l):=by subst h;exact Row.nil _ _ _ _ _
set_option maxHeartbeats 1000000 in
theorem lone_tells (ρ1 ρ2:Role)(h:MsgC w Λ x v):∃ t p f fn,v=.iface t p/\(∀ u:World,(Go.method (Tryz.L.types.size+100) t p "shardlog/cluster.told").run Tryz.L u=.ok (f,p) u)/\Tryz.L.funcs[f]? = some fn/\fn.body.isNone=false/\(fn.name == "runtime.NumGoroutine")=false /\
    Calls Tryz.L f #[p] w (TellsC w Λ ρ1 ρ2 x):=by
  obtain ⟨kd,frm,to,tx,yes,ops,reads⟩:=x
  rcases h with ⟨h1,h2,h3,o,rfl,h5⟩|⟨h1,h2,h3,o,rfl,h5⟩|⟨h1,h2,o,rfl,h5⟩|⟨h1,h2,h3,rfl⟩|⟨h1,h2,h3,h4,rfl⟩|⟨h1,h2,h3,h4,rfl⟩|⟨h1,h2,o,rfl,h5⟩ <;> dsimp only at h1 h2 <;> subst h1
  · subst h2
    obtain ⟨g,c,rfl,_⟩:=h5.1.some h5.2.1
    refine ⟨_,_,_,_,rfl,LL.told110 _,LL.func293,by kernel_rfl,by kernel_rfl,(lone_told_begin ρ1 h5.1 h5.2.1 (Nat.le_trans h5.2.2 (by decide))).mono ?_⟩
    rintro e w' ⟨y,Λ',rfl,k1,k2⟩
    exact ⟨Λ',y,_,rfl,k1,k2,row_nil_rds h3⟩
  · subst h2
    obtain ⟨g,c,rfl,_⟩:=h5.1.some h5.2.1
    refine ⟨_,_,_,_,rfl,LL.told263 _,LL.func315,by kernel_rfl,by kernel_rfl,(lone_told_prepare ρ1 h5.1 h5.2.1 (Nat.le_trans h5.2.2 (by decide))).mono ?_⟩
    rintro e w' ⟨y,Λ',rfl,k1,k2⟩
    exact ⟨Λ',y,_,rfl,k1,k2,row_nil_rds h3⟩
  · subst h2
    rcases Nat.eq_zero_or_pos reads.length with h0|h0
    · obtain rfl:reads = []:=List.eq_nil_of_length_eq_zero h0
      obtain ⟨a,c,rfl⟩:=h5.1.slice
      refine ⟨_,_,_,_,rfl,LL.told265 _,LL.func316,by kernel_rfl,by kernel_rfl,(lone_told_vote_nil (Λ:=Λ)).mono ?_⟩
      rintro e w' ⟨rfl,k1⟩
      exact ⟨Λ,_,_,rfl,k1,row_nil_ops rfl,row_nil_rds rfl⟩
    · obtain ⟨g,c,rfl,_⟩:=h5.1.some h0
      refine ⟨_,_,_,_,rfl,LL.told265 _,LL.func316,by kernel_rfl,by kernel_rfl,(lone_told_vote ρ2 h5.1 h0 (Nat.le_trans h5.2 (by decide))).mono ?_⟩
      rintro e w' ⟨y,Λ',rfl,k1,k2⟩
      exact ⟨Λ',_,y,rfl,k1,row_nil_ops rfl,k2⟩
  · dsimp only at h3
    subst h2 h3
    refine ⟨_,_,_,_,rfl,LL.told268 _,LL.func317,by kernel_rfl,by kernel_rfl,(lone_told_decide (Λ:=Λ)).mono ?_⟩
    rintro e w' ⟨rfl,k1⟩
    exact ⟨Λ,_,_,rfl,k1,row_nil_ops rfl,row_nil_rds rfl⟩
  · dsimp only at h3 h4
    subst h2 h3 h4
    refine ⟨_,_,_,_,rfl,LL.told271 _,LL.func318,by kernel_rfl,by kernel_rfl,(lone_told_ack (Λ:=Λ)).mono ?_⟩
    rintro e w' ⟨rfl,k1⟩
    exact ⟨Λ,_,_,rfl,k1,row_nil_ops rfl,row_nil_rds rfl⟩
  · dsimp only at h3 h4
    subst h2 h3 h4
    refine ⟨_,_,_,_,rfl,LL.told273 _,LL.func319,by kernel_rfl,by kernel_rfl,(lone_told_ask (Λ:=Λ)).mono ?_⟩
    rintro e w' ⟨rfl,k1⟩
    exact ⟨Λ,_,_,rfl,k1,row_nil_ops rfl,row_nil_rds rfl⟩
  · subst h2
    rcases Nat.eq_zero_or_pos reads.length with h0|h0
    · obtain rfl:reads = []:=List.eq_nil_of_length_eq_zero h0
      obtain ⟨a,c,rfl⟩:=h5.1.slice
      refine ⟨_,_,_,_,rfl,LL.told259 _,LL.func314,by kernel_rfl,by kernel_rfl,(lone_told_reply_nil (Λ:=Λ)).mono ?_⟩
      rintro e w' ⟨rfl,k1⟩
      exact ⟨Λ,_,_,rfl,k1,row_nil_ops rfl,row_nil_rds rfl⟩
    · obtain ⟨g,c,rfl,_⟩:=h5.1.some h0
      refine ⟨_,_,_,_,rfl,LL.told259 _,LL.func314,by kernel_rfl,by kernel_rfl,(lone_told_reply ρ2 h5.1 h0 (Nat.le_trans h5.2 (by decide))).mono ?_⟩
      rintro e w' ⟨y,Λ',rfl,k1,k2⟩
      exact ⟨Λ',_,y,rfl,k1,row_nil_ops rfl,k2⟩
end
end
end Go.Proofs.Shardlog
namespace Go.Mem
open Go
section
def ly (cur:Array Value):Nat->List Value->Array Value
  | _,[]=>cur
  | o,v :: r=>ly (cur.setIfInBounds o v) (o+1) r
theorem ly_size (vs:List Value):∀ (cur:Array Value) (o:Nat),(ly cur o vs).size=cur.size:=by
  induction vs with
  | nil=>intro cur o;rfl
  | cons v r ih=>intro cur o;rw [ly,ih];simp
theorem ly_get (vs:List Value):∀ (cur:Array Value) (o j:Nat),o+vs.length<=cur.size->(ly cur o vs)[j]? = if o<=j/\j<o+vs.length then vs[j - o]? else cur[j]?:=by
  induction vs with
  | nil=>intro cur o j _;rw [ly,if_neg (by simp <;> omega)]
  | cons v r ih=>
    intro cur o j h
    have h:o+(r.length+1)<=cur.size:=h
    rw [ly,ih _ _ _ (by simp;omega)]
    show _=if o<=j/\j<o+(r.length+1) then _ else _
    by_cases h1:j=o
    · subst h1
      rw [if_neg (by omega),if_pos (by omega)]
      simp [show j<cur.size by omega]
    · by_cases h2:o<=j/\j<o+(r.length+1)
      · rw [if_pos (by omega),if_pos h2,show j - o=(j - (o+1))+1 by omega]
        simp
      · rw [if_neg (by omega),if_neg h2,Array.getElem?_setIfInBounds_ne (by omega)]
theorem setCells_at (vs:List Value):∀ (w:World) (b o:Nat) (cur:Array Value) (e:TypeId) (f:Nat × Nat),w.heap[b]? = some (.cells cur e f)->(w.setCells b o vs).heap[b]? = some (.cells (ly cur o vs) e f):=by
  induction vs with
  | nil=>intro w b o cur e f h;exact h
  | cons v r ih=>
    intro w b o cur e f h
    rw [World.setCells,ly]
    exact ih _ _ _ _ _ _ ((At.mk h rfl:At w (fun _=>still) still b _).set o v).obj
theorem setCells_size (vs:List Value):∀ (w:World) (b o:Nat),(w.setCells b o vs).heap.size=w.heap.size:=by
  induction vs with
  | nil=>intro w b o;rfl
  | cons v r ih=>intro w b o;rw [World.setCells,ih,setCell_size]
theorem setCells_ne (vs:List Value):∀ (w:World) (b o x:Nat),x≠b->(w.setCells b o vs).heap[x]? = w.heap[x]?:=by
  induction vs with
  | nil=>intro w b o x _;rfl
  | cons v r ih=>intro w b o x h;rw [World.setCells,ih _ _ _ _ h,setCell_ne h]
theorem setCells_os (vs:List Value):∀ (w:World) (b o:Nat),(w.setCells b o vs).os=w.os:=by
  induction vs with
  | nil=>intro w b o;rfl
  | cons v r ih=>intro w b o;rw [World.setCells,ih,setCell_os]
theorem Fr.setCells' {Λ:Lab}{M:Role->Prop}{w:World}{b o:Nat}{vs:List Value}(hm:M (Λ b)):Fr Λ Λ M w (w.setCells b o vs):=
  ⟨by rw [setCells_size];exact Nat.le_refl _,fun x _ hn=>setCells_ne _ _ _ _ _ fun e=>hn (e ▸ hm),fun _ _=>rfl,setCells_os _ _ _ _⟩
end
end Go.Mem
namespace Go.Proofs.Shardlog
open Go Go.Conc Go.Tame Go.Proofs Go.RowKit Go.Mem
section
section
variable {w:World}{Λ:Lab}{ρ:Role}{g n cap i:Nat}{bs:List Value}
set_option maxHeartbeats 4000000 in
theorem lone_del (hr:Row w Λ ρ 217 1 (.slice (some ⟨g,0,none⟩) n cap) n bs)(h1:∀ u ∈ bs,u.oneCell'=true)(hi:i<n)(hn:n<=1048576) :
    Calls Tryz.L 167 #[.slice (some ⟨g,0,none⟩) n cap,.int .i64 i,.int .i64 ((i:Int)+1)] w fun e w'=>∃ y,e=.returned y/\y=.slice (some ⟨g,0,none⟩) (n - 1) cap/\Fr Λ Λ (· = ρ) w w'/\Row w' Λ ρ 217 1 y (n - 1) (bs.eraseIdx i):=by
  have hl:=hr.len
  have hlab:=hr.lab g rfl
  obtain ⟨cur,hat,hcap,h63,hsz,htk⟩:∃ cur,w.heap[g]? = some (.cells cur 217 (0,0))/\n<=cap/\cap<=maxLen/\cur.size=cap*1/\cur.toList.take (n*1)=bs:=by
    rcases hr.own.2 with ⟨h,_⟩|⟨g',cap',cur,h,_,h4,h5,h6,h7,h8⟩
    · cases h
    · cases h;exact ⟨cur,h4,h5,h6,h7,h8⟩
  rw [Nat.mul_one] at hl hsz htk
  have hcur:∀ j,j<n->cur[j]? = bs[j]?:=fun j hj=>by rw [← htk,List.getElem?_take_of_lt hj];simp
  have AT:At w Λ ρ g (.cells cur 217 (0,0)):=⟨hat,hlab⟩
  obtain ⟨news,hnews⟩:∃ news,news=bs.drop (i+1):=⟨_,rfl⟩
  have hlen:news.length=n - (i+1):=by rw [hnews];simp [hl]
  obtain ⟨A,hA,hsrc⟩:∃ A:Addr,(if cap=i+1 then some (⟨g,0,none⟩:Addr) else some ⟨g,i+1,none⟩)=some A/\Hid (∀ t u,news[t]? = some u->w.drew.cell? (A.add t)=some u):=by
    by_cases h:cap=i+1
    · refine ⟨⟨g,0,none⟩,by simp [h],fun t u hu=>?_⟩
      have h0:news.length=0:=by rw [hlen];omega
      rw [List.length_eq_zero_iff.1 h0] at hu
      simp at hu
    · refine ⟨⟨g,i+1,none⟩,by simp [h],fun t u hu=>?_⟩
      have ht:t<n - (i+1):=by
        have:=(List.getElem?_eq_some_iff.1 hu).1
        rwa [hlen] at this
      rw [hnews,List.getElem?_drop] at hu
      have hadd:(⟨g,i+1,none⟩:Addr).add t=⟨g,i+1+t,none⟩:=by unfold Addr.add;split <;> simp_all
      rw [hadd]
      exact (AT.fr (Fr.same (M:=fun _=>False) (w':=w.drew) rfl rfl) (fun z=>z)).cell (by rw [hcur _ (by omega)];exact hu)
  have s1:Hid (news.length=(n - (i+1))*1):=by rw [Nat.mul_one];exact hlen
  have s2:Hid (∀ u ∈ news,u.oneCell'=true):=by
    intro u hu
    rw [hnews] at hu
    exact h1 u (List.mem_of_mem_drop hu)
  have s3:Hid (∀ t,t<news.length->(w.drew.cell? ⟨g,0+i*1+t,none⟩).isSome=true/\w.drew.frozen? ⟨g,0+i*1+t,none⟩=false):=by
    intro t ht
    rw [hlen] at ht
    have AT':=AT.fr (Fr.same (M:=fun _=>False) (w':=w.drew) rfl rfl) (fun z=>z)
    refine ⟨?_,AT'.thaw (by simp)⟩
    rw [AT'.cell (Array.getElem?_eq_getElem (show 0+i*1+t<cur.size by omega))]
    rfl
  obtain ⟨W1,hW1⟩:∃ W1,W1=w.drew.setCells g (0+i*1) news:=⟨_,rfl⟩
  have f1:Fr Λ Λ (· = ρ) w W1:=by
    rw [hW1]
    exact (Fr.same rfl rfl:Fr Λ Λ (· = ρ) w w.drew).trans (Fr.setCells' hlab)
  have AT1:At W1 Λ ρ g (.cells (ly cur (0+i*1) news) 217 (0,0)):=by
    rw [hW1]
    exact ⟨setCells_at _ _ _ _ _ _ _ hat,hlab⟩
  have hcl:∀ ty,(Builtin.clear_ #[84] ty #[.slice (some ⟨g,i+(n - (i+1)),none⟩) (n - (i+(n - (i+1)))) (cap - (i+(n - (i+1))))]).run Tryz.L W1=.ok (.tuple #[]) (W1.setCells g (i+(n - (i+1))) (List.replicate (n - (i+(n - (i+1)))) .nilIface)):=
    fun ty=>Lib.run_clear_slice W1 84 217 ty .nilIface (by kernel_rfl) (by intro w;rfl) rfl rfl g (i+(n - (i+1))) _ _ (by omega) (fun t ht=>by
      rw [AT1.cell (Array.getElem?_eq_getElem (show i+(n - (i+1))+t<(ly cur (0+i*1) news).size by rw [ly_size];omega))];rfl) (fun t ht=>AT1.thaw (by simp))
  have hW:Hid (W1=w.drew.setCells g (0+i*1) news):=hW1
  have X:=hid' (And.intro f1 (And.intro AT1 (And.intro hcur (And.intro hnews (And.intro hsz (And.intro hl hlab))))))
  have hic:i<=cap:=by omega
  have hjc:i+1<=cap:=by omega
  have hij:¬ (i:Int)=(i:Int)+1:=by omega
  have hb1:0<=(i:Int)+1/\(i:Int)+1<=n:=by omega
  have t84:Tryz.L.underlying 84=some (.slice 217):=by kernel_rfl
  unfold maxLen at h63
  clear hW1 f1 AT1 AT hcur hnews hsz hl hlab hlen hr h1 hat htk
  go_enter LL.func167,Tryz.ntmps167
  go_wp2_with fail
  obtain ⟨i0,z0,hi0,hz0,hz1,hz2,hz3⟩:=slotMsg.get
  go_region_law (refine step_append_room rfl (.tmp 22) (.tmp 25) 84 rfl 217 i0 1 t84 hi0 hz1 g 0 i cap (by simp [Act.eval,Act.put]) A (n - (i+1)) (cap - (i+1)) news (by simp [Act.eval,Act.put];try omega) s1.out hsrc.out s2.out (by omega) s3.out ?_;rw [← hW.out])
  go_wp2
  go_ret
  obtain ⟨f1,AT1,hcur,hnews,hsz,hl,hlab⟩:=X.out
  have e1:i+(n - (i+1))=n - 1:=by omega
  have e2:n - (i+(n - (i+1)))=1:=by omega
  have hlen:(bs.drop (i+1)).length=n - (i+1):=by simp [hl]
  refine ⟨.slice (some ⟨g,0,none⟩) (i+(n - (i+1))) cap,rfl,by rw [e1],f1.trans (Fr.setCells' hlab),⟨⟨?_,.inr ⟨g,cap,_,by rw [e1],Nat.zero_le _,setCells_at _ _ _ _ _ _ _ AT1.obj,?_,?_,?_,?_⟩⟩,fun b hb=>?_⟩⟩
  · rw [List.length_eraseIdx]
    split <;> omega
  · omega
  · unfold maxLen
    omega
  · rw [ly_size,ly_size]
    omega
  · apply List.ext_getElem?
    intro j
    rw [Nat.mul_one]
    by_cases hj:j<n - 1
    · rw [List.getElem?_take_of_lt hj,Array.getElem?_toList,ly_get _ _ _ _ (by rw [ly_size];simp;omega),if_neg (by omega),ly_get _ _ _ _ (by rw [hnews,hlen];omega),List.getElem?_eraseIdx]
      by_cases hji:j<i
      · rw [if_neg (by omega),if_pos hji,hcur j (by omega)]
      · rw [if_pos (by rw [hnews,hlen];omega),if_neg hji,hnews,List.getElem?_drop]
        congr 1
        omega
    · rw [List.getElem?_eq_none (by simp;omega),List.getElem?_eq_none (by rw [List.length_eraseIdx];split <;> omega)]
  · cases hb
    exact hlab
variable {k c N nt nb bc bi D:Nat}{E:Nat->Addr}{mu t:Int}{sh tx bg:Value}{ss ts:List Value}
theorem lone_take (hC:Clu w Λ k c N nt nb mu sh tx bg D ss ts bs)(h1:∀ u ∈ bs,u.oneCell'=true)(hi:i<nb)(hnb:nb<=1048576) :
    Calls Tryz.L 128 #[.pointer (some ⟨c,4,none⟩),.int .i64 i] w fun e w'=>∃ y,e=.returned y/\∃ bg',Fr Λ Λ (fun r=>r.1=k) w w'/\Clu w' Λ k c N nt (nb - 1) mu sh tx bg' D ss ts (bs.eraseIdx i):=by
  obtain ⟨g,cap,rfl,hcap,_⟩:=hC.bag.some (by omega)
  have hl:=hC.bag.len
  have c4:w.cell? ⟨c,4,none⟩=some (.slice (some ⟨g,0,none⟩) nb cap):=hC.blk.cell rfl
  obtain ⟨msg,hm⟩:∃ msg,bs[i]? = some msg:=⟨_,List.getElem?_eq_getElem (by omega)⟩
  have cg:w.cell? ⟨g,i,none⟩=some msg:=hC.bag.cell rfl hm
  have hd:=hid' (lone_del hC.bag h1 hi hnb)
  have hX:=hid' hC
  clear hC h1 hl hm
  go_enter LL.func128,Tryz.ntmps128
  go_wp2_with fail
  refine hd.out.mono ?_
  rintro e w1 ⟨y,rfl,rfl,hF,hR⟩
  have hC1:At w1 Λ (k,0,0) c _:=hX.out.blk.fr hF (by simp)
  have c4':w1.cell? ⟨c,4,none⟩=some (.slice (some ⟨g,0,none⟩) nb cap):=hC1.cell rfl
  have c4f:w1.frozen? ⟨c,4,none⟩=false:=hC1.thaw (by simp)
  have hY:=hid' (And.intro hF (And.intro hR hC1))
  clear hF hR hC1 hd
  go_wp2
  go_ret
  obtain ⟨hF,hR,hC1⟩:=hY.out
  have f2:Fr Λ Λ (· = (k,0,0)) w1 (w1.setCell ⟨c,4,none⟩ (.slice (some ⟨g,0,none⟩) (nb - 1) cap)):=Fr.set' hC1.lab
  refine ⟨_,rfl,.slice (some ⟨g,0,none⟩) (nb - 1) cap,(hF.mono fun r h=>by rw [h]).trans (f2.mono fun r h=>by rw [h]),hC1.set 4 _,(hX.out.shards.fr hF (by simp)).fr f2 (by simp),(hX.out.txs.fr hF (by simp)).fr f2 (by simp),hR.fr f2 (by simp)⟩
set_option maxHeartbeats 2000000 in
theorem lone_drop1_no (hE:Errs w Λ E)(hC:Clu w Λ k c N nt nb mu sh tx bg D ss ts bs)(hbc:w.cell? ⟨bc,0,none⟩=some (.pointer (some ⟨c,0,none⟩)))(hbi:w.cell? ⟨bi,0,none⟩=some (.int .i64 t))(ht:¬ (0<=t/\t<nb)) :
    Calls Tryz.L 133 #[.pointer (some ⟨bc,0,none⟩),.pointer (some ⟨bi,0,none⟩)] w fun e w'=>e=.returned (errV (E 6))/\Fr Λ Λ (fun _=>False) w w':=by
  obtain ⟨obg,cbg,rfl⟩:=hC.bag.slice
  have g6:=hE.glob 6 (by omega) (by omega)
  have c4:w.cell? ⟨c,4,none⟩=some (.slice obg nb cbg):=hC.blk.cell rfl
  have hh:∀ u:World,Calls Tryz.L 127 #[.slice obg nb cbg,.int .i64 t] u fun e w'=>e=.returned (.bool false)/\w'=u:=fun u=>by
    have:=lone_bagHas (w:=u) obg nb cbg t
    rwa [decide_eq_false ht] at this
  have hh':=hid' hh
  clear hE hC hh ht
  unfold errV at *
  go_enter LL.func133,Tryz.ntmps133
  go_wp2_with fail
  go_quiet ((go_at_call 127;exact Calls.quiet_of_same (hh'.out _)))
  go_wp2
  go_ret
  exact ⟨rfl,Fr.same rfl rfl⟩
set_option maxHeartbeats 2000000 in
theorem lone_drop1_yes (hk:0<k)(hC:Clu w Λ k c N nt nb mu sh tx bg D ss ts bs)(h1:∀ u ∈ bs,u.oneCell'=true)(hbc:At w Λ still bc (.cells #[.pointer (some ⟨c,0,none⟩)] 23 (0,0)))(hbi:At w Λ still bi (.cells #[.int .i64 i] 3 (0,0)))(hi:i<nb)(hnb:nb<=1048576) :
    Calls Tryz.L 133 #[.pointer (some ⟨bc,0,none⟩),.pointer (some ⟨bi,0,none⟩)] w fun e w'=>e=.returned .nilIface/\∃ bg',Fr Λ Λ (fun r=>r.1=k) w w'/\Clu w' Λ k c N nt (nb - 1) mu sh tx bg' D ss ts (bs.eraseIdx i):=by
  obtain ⟨obg,cbg,hbg⟩:=hC.bag.slice
  have c4:w.cell? ⟨c,4,none⟩=some (.slice obg nb cbg):=by rw [← hbg];exact hC.blk.cell rfl
  have c1:w.cell? ⟨bc,0,none⟩=some (.pointer (some ⟨c,0,none⟩)):=hbc.cell rfl
  have c2:w.cell? ⟨bi,0,none⟩=some (.int .i64 i):=hbi.cell rfl
  have nk:¬ (still.1=k):=by simp [still];omega
  have hG:=hid' (fun (u u':World) (hu:u.heap=w.heap) (ho:u.os=w.os) (f:Fr Λ Λ (fun r=>r.1=k) u u')=>(⟨((hbc.fr (Fr.same (M:=fun _=>False) hu ho) fun z=>z).fr f nk).cell rfl,((hbi.fr (Fr.same (M:=fun _=>False) hu ho) fun z=>z).fr f nk).cell rfl⟩:u'.cell? ⟨bc,0,none⟩=some (.pointer (some ⟨c,0,none⟩))/\u'.cell? ⟨bi,0,none⟩=some (.int .i64 i)))
  have hh:∀ u:World,Calls Tryz.L 127 #[.slice obg nb cbg,.int .i64 i] u fun e w'=>e=.returned (.bool true)/\w'=u:=fun u=>by
    have:=lone_bagHas (w:=u) obg nb cbg i
    rwa [decide_eq_true (by omega)] at this
  have hh':=hid' hh
  have hT:=hid' (fun (u:World) (hu:u.heap=w.heap) (ho:u.os=w.os)=>lone_take (w:=u) (i:=i) (hC.fr (Fr.same (M:=fun _=>False) hu ho) fun _ _ z=>z) h1 hi hnb)
  clear hC hh hbg h1 hbc hbi
  go_enter LL.func133,Tryz.ntmps133
  go_wp2_with fail
  go_quiet ((go_at_call 127;exact Calls.quiet_of_same (hh'.out _)))
  go_wp2_with fail
  go_region_held3 (fun u=>u.cell? ⟨bc,0,none⟩=some (.pointer (some ⟨c,0,none⟩))/\u.cell? ⟨bi,0,none⟩=some (.int .i64 i)) (go_keep)
    (first
      | (go_at_call 128;refine (hT.out (w.drewN (nq+1)) rfl rfl).mono ?_;rintro e w5 ⟨y,rfl,bg',h5,h6⟩;obtain ⟨q1,q2⟩:=hG.out (w.drewN (nq+1)) w5 rfl rfl h5;have hM:=hid' (And.intro ((Fr.same rfl rfl:Fr Λ Λ (fun r=>r.1=k) w (w.drewN (nq+1))).trans h5) h6);clear h5 h6))
  all_goals
    have hM2:=hM
    go_wp2
    go_ret
    exact ⟨rfl,bg',hM2.out⟩
end
end
section
def againName:ByteArray:={ data:=#[65,103,97,105,110] }
def dropName:ByteArray:={ data:=#[68,114,111,112] }
def copyName:ByteArray:={ data:=#[67,111,112,121] }
section
variable {w w':World}{Λ Λ':Lab}{E:Nat->Addr}{k c N nt nb D cp s r f:Nat}{t:Int}{sh tx bg v:Value}{ss ts bs:List Value}
noncomputable def metW (w:World) (c:Nat) (t:Int):World:=(w.alloc (.cells #[.pointer (some ⟨c,0,none⟩)] 23)).alloc (.cells #[.int .i64 t] 3)
noncomputable def metΛ (w:World) (Λ:Lab):Lab:=fun x=>if x=w.heap.size∨x=w.heap.size+1 then still else Λ x
theorem metFr:Fr Λ (metΛ w Λ) (fun _=>False) w (metW w c t):=by
  refine (((Fr.refl Λ _ w).alloc _).alloc _).relab fun x hx=>?_
  show (if _ then _ else _)=_
  rw [if_neg (by omega)]
theorem met_bc:At (metW w c t) (metΛ w Λ) still w.heap.size (.cells #[.pointer (some ⟨c,0,none⟩)] 23):=by
  refine ⟨?_,?_⟩
  · unfold metW
    rw [alloc_get,if_neg (by simp only [alloc_size];omega),alloc_get,if_pos rfl]
  · show (if _ then _ else _)=_
    rw [if_pos (by omega)]
theorem met_bi:At (metW w c t) (metΛ w Λ) still (w.heap.size+1) (.cells #[.int .i64 t] 3):=by
  refine ⟨?_,?_⟩
  · unfold metW
    rw [alloc_get,if_pos (by simp only [alloc_size])]
  · show (if _ then _ else _)=_
    rw [if_pos (by omega)]
def MetOut (w:World) (Λ:Lab) (k c:Nat) (nm:ByteArray) (t:Int) (R:Option Addr->World->Lab->Prop) (e:Ending) (w':World):Prop:=
  ∃ y w2 Λ2 u Λ',e=.returned u/\R y w2 Λ2/\Fr Λ Λ2 (own k) w w2/\Fr Λ2 Λ' (· = slip) (w2.setCell ⟨c,0,none⟩ (.int .i32 0)) w'/\CallE (.string nm) t y u w' Λ'
def MetWorks (w:World) (Λ:Lab) (k c N nt nb:Nat) (t:Int) (sh tx bg:Value) (D:Nat) (ss ts bs:List Value) (f:Nat) (R:Option Addr->World->Lab->Prop):Prop:=
  Works (metW w c t) (metΛ w Λ) k c N nt nb sh tx bg D ss ts bs f #[.pointer (some ⟨w.heap.size,0,none⟩),.pointer (some ⟨w.heap.size+1,0,none⟩)] R
theorem metOut_of {R:Option Addr->World->Lab->Prop}{nm:ByteArray}{e:Ending}(h:∃ y w2 Λ2 v Λ',e=.returned v/\R y w2 Λ2/\Fr (metΛ w Λ) Λ2 (own k) (metW w c t) w2/\Fr Λ2 Λ' (· = slip) (w2.setCell ⟨c,0,none⟩ (.int .i32 0)) w'/\CallE (.string nm) t y v w' Λ'):MetOut w Λ k c nm t R e w':=by
  obtain ⟨y,w2,Λ2,v,Λ',h1,h2,h3,h4,h5⟩:=h
  exact ⟨y,w2,Λ2,v,Λ',h1,h2,(metFr.mono fun _ z=>z.elim).trans h3,h4,h5⟩
theorem lone_again_of {δ:Role}{R:Option Addr->World->Lab->Prop}(hk:0<k)(hE:Errs w Λ E)(hC:Clu w Λ k c N nt nb 0 sh tx bg D ss ts bs)(hD:At w Λ δ D (.chan cp #[] false s r false))(hW:MetWorks w Λ k c N nt nb t sh tx bg D ss ts bs 124 R)(hδ:δ.1≠k:=by simp [still];omega) :
    Calls Tryz.L 94 #[.pointer (some ⟨c,0,none⟩),.int .i64 t] w (MetOut w Λ k c againName t R):=by
  have hI:=hid' (lone_call (nm:=againName) (at':=t) LL.call124 hk (hE.fr metFr (fun z=>z)) (hC.fr metFr (fun _ _ z=>z)) (hD.fr metFr (fun z=>z)) hW hδ)
  clear hW hE hC hD hδ
  go_enter LL.func94,Tryz.ntmps94
  go_wp2_with fail
  refine hI.out.mono ?_
  rintro e w' ⟨y,w2,Λ2,u,Λ',rfl,h⟩
  have hX:=hid' h
  clear h hI
  go_wp2
  go_ret
  exact metOut_of ⟨y,w2,Λ2,u,Λ',rfl,hX.out⟩
theorem lone_drop_of {δ:Role}{R:Option Addr->World->Lab->Prop}(hk:0<k)(hE:Errs w Λ E)(hC:Clu w Λ k c N nt nb 0 sh tx bg D ss ts bs)(hD:At w Λ δ D (.chan cp #[] false s r false))(hW:MetWorks w Λ k c N nt nb t sh tx bg D ss ts bs 133 R)(hδ:δ.1≠k:=by simp [still];omega) :
    Calls Tryz.L 96 #[.pointer (some ⟨c,0,none⟩),.int .i64 t] w (MetOut w Λ k c dropName t R):=by
  have hI:=hid' (lone_call (nm:=dropName) (at':=t) LL.call133 hk (hE.fr metFr (fun z=>z)) (hC.fr metFr (fun _ _ z=>z)) (hD.fr metFr (fun z=>z)) hW hδ)
  clear hW hE hC hD hδ
  go_enter LL.func96,Tryz.ntmps96
  go_wp2_with fail
  refine hI.out.mono ?_
  rintro e w' ⟨y,w2,Λ2,u,Λ',rfl,h⟩
  have hX:=hid' h
  clear h hI
  go_wp2
  go_ret
  exact metOut_of ⟨y,w2,Λ2,u,Λ',rfl,hX.out⟩
theorem lone_copy_of {δ:Role}{R:Option Addr->World->Lab->Prop}(hk:0<k)(hE:Errs w Λ E)(hC:Clu w Λ k c N nt nb 0 sh tx bg D ss ts bs)(hD:At w Λ δ D (.chan cp #[] false s r false))(hW:MetWorks w Λ k c N nt nb t sh tx bg D ss ts bs 134 R)(hδ:δ.1≠k:=by simp [still];omega) :
    Calls Tryz.L 97 #[.pointer (some ⟨c,0,none⟩),.int .i64 t] w (MetOut w Λ k c copyName t R):=by
  have hI:=hid' (lone_call (nm:=copyName) (at':=t) LL.call134 hk (hE.fr metFr (fun z=>z)) (hC.fr metFr (fun _ _ z=>z)) (hD.fr metFr (fun z=>z)) hW hδ)
  clear hW hE hC hD hδ
  go_enter LL.func97,Tryz.ntmps97
  go_wp2_with fail
  refine hI.out.mono ?_
  rintro e w' ⟨y,w2,Λ2,u,Λ',rfl,h⟩
  have hX:=hid' h
  clear h hI
  go_wp2
  go_ret
  exact metOut_of ⟨y,w2,Λ2,u,Λ',rfl,hX.out⟩
theorem MetOut.yes {nm:ByteArray}{e:Ending}{nb':Nat}{bs':List Value}(hk:0<k)(h:MetOut w Λ k c nm t (fun y w2 Λ2=>y=none/\∃ bg',Clu w2 Λ2 k c N nt nb' 1 sh tx bg' D ss ts bs') e w') :
    e=.returned .nilIface/\∃ Λ' bg',Fr Λ Λ' (mine k) w w'/\Clu w' Λ' k c N nt nb' 0 sh tx bg' D ss ts bs':=by
  obtain ⟨y,w2,Λ2,u,Λ',rfl,⟨rfl,bg',h2⟩,h5,h6,h7⟩:=h
  refine ⟨by rw [h7],Λ',bg',mine_of h5 h2.blk.lab h6,(h2.setMu 0).fr h6 fun r hr z=>?_⟩
  rw [z] at hr
  simp [slip] at hr
  omega
theorem MetOut.no {nm:ByteArray}{e:Ending}{a:Addr}(hk:0<k)(h:MetOut w Λ k c nm t (fun y w2 Λ2=>y=some a/\Clu w2 Λ2 k c N nt nb 1 sh tx bg D ss ts bs) e w') :
    ∃ b Λ',e=.returned (.iface 113 (.pointer (some ⟨b,0,none⟩)))/\Fr Λ Λ' (mine k) w w'/\Clu w' Λ' k c N nt nb 0 sh tx bg D ss ts bs/\At w' Λ' still b (.cells #[.string nm,.int .i64 t,errV a] 117 (0,0)):=by
  obtain ⟨y,w2,Λ2,u,Λ',rfl,⟨rfl,h2⟩,h5,h6,b,rfl,h7⟩:=h
  refine ⟨b,Λ',rfl,mine_of h5 h2.blk.lab h6,(h2.setMu 0).fr h6 fun r hr z=>?_,h7⟩
  rw [z] at hr
  simp [slip] at hr
  omega
end
end
section
section
variable {v w:World}{Λ:Lab}{k c N nt nb D f:Nat}{t:Int}{sh tx bg:Value}{ss ts bs:List Value}
set_option maxHeartbeats 1000000 in
theorem lone_aloneF {R:World->Prop}{cap:Array Value}(hf:∀ (args:Array Value) (u:World),Sem.run Tryz.L (callFunc f args) u=.ok (.enter f args) u)(hc:v.cell? ⟨c,0,none⟩=some (.int .i32 0))(hz:v.frozen? ⟨c,0,none⟩=false)
    (hcl:Calls Tryz.L f cap (v.setCell ⟨c,0,none⟩ (.int .i32 1)) fun e w=>e=.returned (.tuple #[])/\w.cell? ⟨c,0,none⟩=some (.int .i32 1)/\w.frozen? ⟨c,0,none⟩=false/\R w) :
    Calls Tryz.L 31 #[.pointer (some ⟨c,0,none⟩),.func (.func f) #[] cap] v fun e w'=>e=.returned (.tuple #[])/\∃ w,R w/\w'=w.setCell ⟨c,0,none⟩ (.int .i32 0):=by
  have hH:=hid' hcl
  clear hcl
  go_enter_defers LL.func31,Tryz.ntmps31
  go_wp2_with (go_at_call 55;refine (lone_lock hc hz).mono ?_;rintro e w' ⟨rfl,rfl⟩)
  refine hH.out.mono ?_
  rintro e w ⟨rfl,h1,h2,h3⟩
  clear hH
  go_wp2
  refine leaves_cons (f:=56) (args:=#[.pointer (some ⟨c,0,none⟩)]) (by simp) (by simp [go_sem]) ?_
  refine (lone_unlock_d (u:=.returning) h1 h2).mono ?_
  rintro e u' w'' ⟨rfl,rfl,rfl⟩
  exact ⟨_,results_none rfl _ _ _,rfl,_,h3,rfl⟩
theorem lone_asks {R:World->Lab->Prop}{cap:Array Value}(hf:∀ (args:Array Value) (u:World),Sem.run Tryz.L (callFunc f args) u=.ok (.enter f args) u)(hC:Clu v Λ k c N nt nb 0 sh tx bg D ss ts bs)
    (hcl:∀ w1,Fr Λ Λ (· = (k,0,0)) v w1->Clu w1 Λ k c N nt nb 1 sh tx bg D ss ts bs->Calls Tryz.L f cap w1 fun e w2=>e=.returned (.tuple #[])/\∃ Λ2,Fr Λ Λ2 (· = slip) w1 w2/\R w2 Λ2) (hk:0<k) :
    Calls Tryz.L 31 #[.pointer (some ⟨c,0,none⟩),.func (.func f) #[] cap] v fun e w'=>e=.returned (.tuple #[])/\∃ w2 Λ2,R w2 Λ2/\Fr Λ Λ2 (mine k) v w2/\w'=w2.setCell ⟨c,0,none⟩ (.int .i32 0)/\Clu w' Λ2 k c N nt nb 0 sh tx bg D ss ts bs:=by
  have f1:Fr Λ Λ (· = (k,0,0)) v (v.setCell ⟨c,0,none⟩ (.int .i32 1)):=Fr.set' hC.blk.lab
  have hC1:=hC.setMu 1
  have e0:∀ r:Role,r.1=k->¬ (r=slip):=fun r hr z=>by rw [z] at hr;simp [slip] at hr;omega
  refine (lone_aloneF (R:=fun w2=>∃ Λ2,Fr Λ Λ2 (· = slip) (v.setCell ⟨c,0,none⟩ (.int .i32 1)) w2/\R w2 Λ2) hf (hC.blk.cell rfl) (hC.blk.thaw (by simp)) ((hcl _ f1 hC1).mono fun e w2 ⟨h1,Λ2,h2,h3⟩=>⟨h1,(hC1.blk.fr h2 (e0 _ rfl)).cell rfl,(hC1.blk.fr h2 (e0 _ rfl)).thaw (by simp),Λ2,h2,h3⟩)).mono ?_
  rintro e w' ⟨rfl,w2,⟨Λ2,h2,h3⟩,rfl⟩
  exact ⟨rfl,w2,Λ2,h3,(f1.mono fun r h=>.inl (.inl (by rw [h]))).trans (h2.mono fun r h=>.inr h),rfl,(hC1.fr h2 fun r hr=>e0 r hr).setMu 0⟩
end
end
end Go.Proofs.Shardlog
namespace Go.Mem
open Go
section
theorem At.setNe {w:World}{Λ:Lab}{ρ:Role}{b:Nat}{o:Obj}{a:Addr}{y:Value}(h:At w Λ ρ b o)(hne:b≠a.block):At (w.setCell a y) Λ ρ b o:=⟨(setCell_ne hne).trans h.obj,h.lab⟩
end
end Go.Mem
namespace Go.Proofs.Shardlog
open Go Go.Conc Go.Tame Go.Proofs Go.RowKit Go.Mem
section
theorem lone_fresh {w:World}{Λ:Lab}{ρ:Role}{n:Nat}{v:Value}{l:List Int}(ρ':Role)(hr:Row w Λ ρ 21 1 v n (rdL l))(hn:n<=1048576) :
    Calls Tryz.L 201 #[v] w fun e w'=>∃ y,e=.returned y/\∃ Λ',Fr Λ Λ' (fun _=>False) w w'/\Row w' Λ' ρ' 21 1 y n (rdL l):=by
  rcases Nat.eq_zero_or_pos n with rfl|h0
  · obtain ⟨a,c,rfl⟩:=hr.slice
    have hl:l = []:=List.eq_nil_of_length_eq_zero (by have:=hr.len;rw [len_rdL] at this;omega)
    subst hl
    refine (lone_fresh_nil a c).mono ?_
    rintro e w' ⟨rfl,rfl⟩
    exact ⟨_,rfl,Λ,Fr.refl _ _ _,Row.nil _ _ _ _ _⟩
  · obtain ⟨g,cap,rfl,_⟩:=hr.some h0
    exact lone_fresh_some ρ' hr h0 hn
section
variable {w:World}{Λ:Lab}{ρ:Role}{k c N nt nb D n bc bi br bd i:Nat}{t st:Int}{sh tx bg rv:Value}{ss ts bs:List Value}{l:List Int}
set_option maxHeartbeats 2000000 in
theorem lone_res1_no (hC:Clu w Λ k c N nt nb 1 sh tx bg D ss ts bs)(hbc:At w Λ still bc (.cells #[.pointer (some ⟨c,0,none⟩)] 23))(hbi:At w Λ still bi (.cells #[.int .i64 t] 3))(ht:¬ (0<=t/\t<nt)) :
    Calls Tryz.L 200 #[.pointer (some ⟨bc,0,none⟩),.pointer (some ⟨bi,0,none⟩),.pointer (some ⟨br,0,none⟩),.pointer (some ⟨bd,0,none⟩)] w fun e w'=>e=.returned (.tuple #[])/\Fr Λ Λ (fun _=>False) w w':=by
  obtain ⟨otx,ctx,rfl⟩:=hC.txs.slice
  have c1:w.cell? ⟨bc,0,none⟩=some (.pointer (some ⟨c,0,none⟩)):=hbc.cell rfl
  have c2:w.cell? ⟨bi,0,none⟩=some (.int .i64 t):=hbi.cell rfl
  have c3:w.cell? ⟨c,3,none⟩=some (.slice otx nt ctx):=hC.blk.cell rfl
  have hh:∀ u:World,Calls Tryz.L 125 #[.slice otx nt ctx,.int .i64 t] u fun e w'=>e=.returned (.bool false)/\w'=u:=fun u=>by
    have:=lone_txsHas (w:=u) otx nt ctx t
    rwa [decide_eq_false ht] at this
  have hh':=hid' hh
  clear hC hh ht hbc hbi
  go_enter LL.func200,Tryz.ntmps200
  go_wp2_with fail
  go_quiet ((go_at_call 125;exact Calls.quiet_of_same (hh'.out _)))
  go_wp2
  go_end0
  exact ⟨rfl,Fr.same rfl rfl⟩
set_option maxHeartbeats 4000000 in
theorem lone_res1_yes (hk:0<k){ρ':Role}(hρ:¬ (ρ'=slip))(hC:Clu w Λ k c N nt nb 1 sh tx bg D ss ts bs)(hbc:At w Λ still bc (.cells #[.pointer (some ⟨c,0,none⟩)] 23))(hbi:At w Λ still bi (.cells #[.int .i64 i] 3))(hbr:At w Λ slip br (.cells #[.int .i64 0] 3))(hbd:At w Λ slip bd (.cells #[.slice none 0 0] 166))(hne:br≠bd)(hi:i<nt)(hnt:nt<=60)
    (h1:ts[i*3+1]? = some (.int .i64 st)) (h2:ts[i*3+2]? = some rv) (hr:Row w Λ ρ 21 1 rv n (rdL l)) (hn:n<=1048576) :
    Calls Tryz.L 200 #[.pointer (some ⟨bc,0,none⟩),.pointer (some ⟨bi,0,none⟩),.pointer (some ⟨br,0,none⟩),.pointer (some ⟨bd,0,none⟩)] w fun e w'=>e=.returned (.tuple #[])/\∃ Λ2 y,Fr Λ Λ2 (· = slip) w w'/\At w' Λ2 slip br (.cells #[.int .i64 st] 3)/\At w' Λ2 slip bd (.cells #[y] 166)/\Row w' Λ2 ρ' 21 1 y n (rdL l):=by
  obtain ⟨gt,ctx,rfl,_⟩:=hC.txs.some (by omega)
  have c1:w.cell? ⟨bc,0,none⟩=some (.pointer (some ⟨c,0,none⟩)):=hbc.cell rfl
  have c2:w.cell? ⟨bi,0,none⟩=some (.int .i64 i):=hbi.cell rfl
  have c3:w.cell? ⟨c,3,none⟩=some (.slice (some ⟨gt,0,none⟩) nt ctx):=hC.blk.cell rfl
  have d1:=hC.txs.cell rfl h1
  have d2:=hC.txs.cell rfl h2
  obtain ⟨rg,rc,rfl⟩:=hr.slice
  have hh:∀ u:World,Calls Tryz.L 125 #[.slice (some ⟨gt,0,none⟩) nt ctx,.int .i64 i] u fun e w'=>e=.returned (.bool true)/\w'=u:=fun u=>by
    have:=lone_txsHas (w:=u) (some ⟨gt,0,none⟩) nt ctx i
    rwa [decide_eq_true (by omega)] at this
  have hh':=hid' hh
  have hF:=hid' (fun (u:World) (hu:u.heap=w.heap) (ho:u.os=w.os)=>lone_fresh ρ' (hr.fr (Fr.same (M:=fun _=>False) hu ho) fun z=>z) hn)
  have hG:=hid' (fun (u u':World) (Λ':Lab) (hu:u.heap=w.heap) (ho:u.os=w.os) (f':Fr Λ Λ' (fun _=>False) u u')=>(⟨((hbc.fr (Fr.same (M:=fun _=>False) hu ho) fun z=>z).fr f' fun z=>z).cell rfl,((hbi.fr (Fr.same (M:=fun _=>False) hu ho) fun z=>z).fr f' fun z=>z).cell rfl,((hC.blk.fr (Fr.same (M:=fun _=>False) hu ho) fun z=>z).fr f' fun z=>z).cell rfl,((hC.txs.fr (Fr.same (M:=fun _=>False) hu ho) fun z=>z).fr f' fun z=>z).cell rfl h1,((hC.txs.fr (Fr.same (M:=fun _=>False) hu ho) fun z=>z).fr f' fun z=>z).cell rfl h2,((hbr.fr (Fr.same (M:=fun _=>False) hu ho) fun z=>z).fr f' fun z=>z).cell rfl,((hbd.fr (Fr.same (M:=fun _=>False) hu ho) fun z=>z).fr f' fun z=>z).cell rfl,((hbr.fr (Fr.same (M:=fun _=>False) hu ho) fun z=>z).fr f' fun z=>z).thaw (by simp),((hbd.fr (Fr.same (M:=fun _=>False) hu ho) fun z=>z).fr f' fun z=>z).thaw (by simp)⟩ :
    u'.cell? ⟨bc,0,none⟩=some (.pointer (some ⟨c,0,none⟩))/\u'.cell? ⟨bi,0,none⟩=some (.int .i64 i)/\u'.cell? ⟨c,3,none⟩=some (.slice (some ⟨gt,0,none⟩) nt ctx)/\u'.cell? ⟨gt,i*3+1,none⟩=some (.int .i64 st)/\u'.cell? ⟨gt,i*3+2,none⟩=some (.slice rg n rc)/\u'.cell? ⟨br,0,none⟩=some (.int .i64 0)/\u'.cell? ⟨bd,0,none⟩=some (.slice none 0 0)/\u'.frozen? ⟨br,0,none⟩=false/\u'.frozen? ⟨bd,0,none⟩=false))
  have m1:bc≠br:=hbc.ne hbr (by decide)
  have m2:bc≠bd:=hbc.ne hbd (by decide)
  have m3:bi≠br:=hbi.ne hbr (by decide)
  have m4:bi≠bd:=hbi.ne hbd (by decide)
  have m5:c≠br:=hC.blk.ne hbr (ne_of_fst (by simp [slip];omega))
  have m6:c≠bd:=hC.blk.ne hbd (ne_of_fst (by simp [slip];omega))
  have m7:gt≠br:=fun e=>ne_of_fst (a:=(k,2,0)) (b:=slip) (by simp [slip];omega) (by rw [← hC.txs.lab gt rfl,e,hbr.lab])
  have m8:gt≠bd:=fun e=>ne_of_fst (a:=(k,2,0)) (b:=slip) (by simp [slip];omega) (by rw [← hC.txs.lab gt rfl,e,hbd.lab])
  have hX:=hid' (And.intro hbr hbd)
  clear hC hh hbc hbi hbr hbd hr h1 h2
  go_enter LL.func200,Tryz.ntmps200
  go_wp2_with fail
  go_quiet ((go_at_call 125;exact Calls.quiet_of_same (hh'.out _)))
  go_wp2_with fail
  go_region_held3 (fun u=>u.cell? ⟨bc,0,none⟩=some (.pointer (some ⟨c,0,none⟩))/\u.cell? ⟨bi,0,none⟩=some (.int .i64 i)/\u.cell? ⟨c,3,none⟩=some (.slice (some ⟨gt,0,none⟩) nt ctx)/\u.cell? ⟨gt,i*3+1,none⟩=some (.int .i64 st)/\u.cell? ⟨gt,i*3+2,none⟩=some (.slice rg n rc)) (first|go_keep|(refine ⟨?_,?_,?_,?_,?_⟩ <;> ((repeat rw [World.cell?_setCell_other _ _ _ _ (by intro z;injection z with z1;omega)]) ;assumption)))
    (first
      | (go_at_call 201;refine (hF.out (w.drewN (nq+1)) rfl rfl).mono ?_;rintro e w6 ⟨y,rfl,Λ6,hF6,hR6⟩;obtain ⟨yo,yc,rfl⟩:=hR6.slice;obtain ⟨g1,g2,g3,g4,g5,g6,g7,g8,g9⟩:=hG.out (w.drewN (nq+1)) w6 Λ6 rfl rfl hF6;have hY:=hid' (And.intro hF6 hR6);clear hF6 hR6))
  all_goals
    have hY2:=hY
    go_end0
    obtain ⟨hF6,hR6⟩:=hY2.out
    have fw:Fr Λ Λ6 (fun _=>False) w w6:=(Fr.same rfl rfl:Fr Λ Λ (fun _=>False) w (w.drewN (nq+1))).trans hF6
    have a1:=hX.out.1.fr fw fun z=>z
    have a2:=hX.out.2.fr fw fun z=>z
    have s1:Fr Λ6 Λ6 (· = slip) w6 (w6.setCell ⟨br,0,none⟩ (.int .i64 st)):=Fr.set' a1.lab
    have s2:Fr Λ6 Λ6 (· = slip) (w6.setCell ⟨br,0,none⟩ (.int .i64 st)) ((w6.setCell ⟨br,0,none⟩ (.int .i64 st)).setCell ⟨bd,0,none⟩ (.slice yo n yc)):=Fr.set' a2.lab
    exact ⟨rfl,Λ6,_,((fw.mono fun _ z=>z.elim).trans s1).trans s2,(a1.set 0 _).setNe hne,(a2.setNe (Ne.symm hne)).set 0 _,(hR6.fr s1 hρ).fr s2 hρ⟩
end
end
section
section
variable {v w:World}{Λ:Lab}{k c N nt nb D f n cp bc bi bu b i:Nat}{t:Int}{o:Option Addr}{up:Bool}{sh tx bg:Value}{ss ts bs:List Value}
theorem lone_hasShard (h:w.cell? ⟨c,2,none⟩=some (.slice o N cp)):Calls Tryz.L 156 #[.pointer (some ⟨c,0,none⟩),.int .i64 t] w fun e w'=>e=.returned (.bool (decide (0<=t/\t<N)))/\w'=w:=by
  by_cases h0:0<=t
  · go_enter LL.func156,Tryz.ntmps156
    go_wp2
    go_ret
    simp [h0]
  · go_enter LL.func156,Tryz.ntmps156
    go_wp2
    go_ret
    simp [h0]
    omega
set_option maxHeartbeats 2000000 in
theorem lone_up1_no (hC:Clu w Λ k c N nt nb 1 sh tx bg D ss ts bs)(hbc:At w Λ still bc (.cells #[.pointer (some ⟨c,0,none⟩)] 23))(hbi:At w Λ still bi (.cells #[.int .i64 t] 3))(hbu:At w Λ slip bu (.cells #[.bool false] 4))(ht:¬ (0<=t/\t<N)) :
    Calls Tryz.L 155 #[.pointer (some ⟨bc,0,none⟩),.pointer (some ⟨bi,0,none⟩),.pointer (some ⟨bu,0,none⟩)] w fun e w'=>e=.returned (.tuple #[])/\∃ Λ2,Fr Λ Λ2 (· = slip) w w'/\At w' Λ2 slip bu (.cells #[.bool false] 4):=by
  obtain ⟨os,cs,rfl⟩:=hC.shards.slice
  have c1:w.cell? ⟨bc,0,none⟩=some (.pointer (some ⟨c,0,none⟩)):=hbc.cell rfl
  have c2:w.cell? ⟨bi,0,none⟩=some (.int .i64 t):=hbi.cell rfl
  have c3:w.cell? ⟨bu,0,none⟩=some (.bool false):=hbu.cell rfl
  have c4:w.frozen? ⟨bu,0,none⟩=false:=hbu.thaw (by simp)
  have c5:w.cell? ⟨c,2,none⟩=some (.slice os N cs):=hC.blk.cell rfl
  have hh:∀ u:World,u.heap=w.heap->Calls Tryz.L 156 #[.pointer (some ⟨c,0,none⟩),.int .i64 t] u fun e w'=>e=.returned (.bool false)/\w'=u:=fun u hu=>by
    have:=lone_hasShard (w:=u) (c:=c) (t:=t) (o:=os) (N:=N) (cp:=cs) (by rw [← c5];unfold World.cell?;rw [hu])
    rwa [decide_eq_false ht] at this
  have hh':=hid' hh
  have hX:=hid' hbu
  clear hC hh ht hbc hbi hbu
  go_enter LL.func155,Tryz.ntmps155
  go_wp2_with fail
  go_region_law (refine call_draw (f:=156) (args:=#[.pointer (some ⟨c,0,none⟩),.int .i64 t]) rfl rfl (by simp [Act.eval,Act.put]) LL.func156 (by kernel_rfl) (by kernel_rfl) ((hh'.out w.drew rfl).mono (R':=fun e w'=>∃ y,e=.returned y/\(y=.bool false/\w'=w.drew)) fun e w' h=>⟨_,h.1,rfl,h.2⟩) ?_;intro y w6 hy;obtain ⟨rfl,rfl⟩:=hy)
  all_goals go_end0
  all_goals exact ⟨rfl,Λ,(Fr.set' (M:=(· = slip)) hX.out.lab).drew,(hX.out.set 0 (.bool false)).fr (Fr.same (M:=fun _=>False) rfl rfl) fun z=>z⟩
set_option maxHeartbeats 2000000 in
theorem lone_up1_yes {σ:Role}{cells:Array Value}{fz:Nat × Nat}(hC:Clu w Λ k c N nt nb 1 sh tx bg D ss ts bs)(hbc:At w Λ still bc (.cells #[.pointer (some ⟨c,0,none⟩)] 23))(hbi:At w Λ still bi (.cells #[.int .i64 i] 3))(hbu:At w Λ slip bu (.cells #[.bool false] 4))(hi:i<N)(hN:N<=4)(hs:ss[i]? = some (.pointer (some ⟨b,0,none⟩)))(hb:At w Λ σ b (.cells cells 154 fz))(hup:cells[2]? = some (.bool up)) :
    Calls Tryz.L 155 #[.pointer (some ⟨bc,0,none⟩),.pointer (some ⟨bi,0,none⟩),.pointer (some ⟨bu,0,none⟩)] w fun e w'=>e=.returned (.tuple #[])/\∃ Λ2,Fr Λ Λ2 (· = slip) w w'/\At w' Λ2 slip bu (.cells #[.bool up] 4):=by
  obtain ⟨g,cs,rfl,_⟩:=hC.shards.some (by omega)
  have c1:w.cell? ⟨bc,0,none⟩=some (.pointer (some ⟨c,0,none⟩)):=hbc.cell rfl
  have c2:w.cell? ⟨bi,0,none⟩=some (.int .i64 i):=hbi.cell rfl
  have c3:w.cell? ⟨bu,0,none⟩=some (.bool false):=hbu.cell rfl
  have c4:w.frozen? ⟨bu,0,none⟩=false:=hbu.thaw (by simp)
  have c5:w.cell? ⟨c,2,none⟩=some (.slice (some ⟨g,0,none⟩) N cs):=hC.blk.cell rfl
  have c6:w.cell? ⟨g,i,none⟩=some (.pointer (some ⟨b,0,none⟩)):=hC.shards.cell rfl hs
  have c7:w.cell? ⟨b,2,none⟩=some (.bool up):=hb.cell hup
  have hh:∀ u:World,u.heap=w.heap->Calls Tryz.L 156 #[.pointer (some ⟨c,0,none⟩),.int .i64 i] u fun e w'=>e=.returned (.bool true)/\w'=u:=fun u hu=>by
    have:=lone_hasShard (w:=u) (c:=c) (t:=i) (o:=some ⟨g,0,none⟩) (N:=N) (cp:=cs) (by rw [← c5];unfold World.cell?;rw [hu])
    rwa [decide_eq_true (by omega)] at this
  have hh':=hid' hh
  have hX:=hid' hbu
  clear hC hh hbc hbi hbu hs hb hup
  go_enter LL.func155,Tryz.ntmps155
  go_wp2_with fail
  go_region_law (refine call_draw (f:=156) (args:=#[.pointer (some ⟨c,0,none⟩),.int .i64 i]) rfl rfl (by simp [Act.eval,Act.put]) LL.func156 (by kernel_rfl) (by kernel_rfl) ((hh'.out w.drew rfl).mono (R':=fun e w'=>∃ y,e=.returned y/\(y=.bool true/\w'=w.drew)) fun e w' h=>⟨_,h.1,rfl,h.2⟩) ?_;intro y w6 hy;obtain ⟨rfl,rfl⟩:=hy)
  all_goals go_end0
  all_goals exact ⟨rfl,Λ,(Fr.set' (M:=(· = slip)) hX.out.lab).drew,(hX.out.set 0 (.bool up)).fr (Fr.same (M:=fun _=>False) rfl rfl) fun z=>z⟩
end
end
section
section
variable {w:World}{Λ:Lab}{k c N nt nb D b i:Nat}{t:Int}{up:Bool}{sh tx bg:Value}{ss ts bs:List Value}
noncomputable def upW (w:World) (c:Nat) (t:Int):World:=(metW w c t).alloc (.cells #[.bool false] 4)
noncomputable def upΛ (w:World) (Λ:Lab):Lab:=fun x=>if x=w.heap.size+1+1 then slip else metΛ w Λ x
theorem metW_size:(metW w c t).heap.size=w.heap.size+1+1:=by unfold metW;rw [alloc_size,alloc_size]
theorem upFr:Fr Λ (upΛ w Λ) (fun _=>False) w (upW w c t):=by
  refine ((metFr (w:=w) (Λ:=Λ)).alloc _).relab fun x hx=>?_
  show (if _ then _ else _)=_
  rw [if_neg (by omega)]
theorem up_keep {ρ:Role}{x:Nat}{o:Obj}(h:At (metW w c t) (metΛ w Λ) ρ x o):At (upW w c t) (upΛ w Λ) ρ x o:=by
  have hlt:=h.lt
  rw [metW_size] at hlt
  refine ⟨?_,?_⟩
  · unfold upW
    rw [alloc_get,if_neg (by rw [metW_size];omega)]
    exact h.obj
  · show (if _ then _ else _)=_
    rw [if_neg (by omega)]
    exact h.lab
theorem up_bu:At (upW w c t) (upΛ w Λ) slip (w.heap.size+1+1) (.cells #[.bool false] 4):=by
  refine ⟨?_,?_⟩
  · unfold upW
    rw [alloc_get,if_pos (by rw [metW_size])]
  · show (if _ then _ else _)=_
    rw [if_pos rfl]
theorem lone_up_of (hk:0<k)(hC:Clu w Λ k c N nt nb 0 sh tx bg D ss ts bs)
    (hW:∀ w1,Fr Λ (upΛ w Λ) (· = (k,0,0)) w w1->Clu w1 (upΛ w Λ) k c N nt nb 1 sh tx bg D ss ts bs->At w1 (upΛ w Λ) still w.heap.size (.cells #[.pointer (some ⟨c,0,none⟩)] 23)->At w1 (upΛ w Λ) still (w.heap.size+1) (.cells #[.int .i64 t] 3)->At w1 (upΛ w Λ) slip (w.heap.size+1+1) (.cells #[.bool false] 4) ->
      Calls Tryz.L 155 #[.pointer (some ⟨w.heap.size,0,none⟩),.pointer (some ⟨w.heap.size+1,0,none⟩),.pointer (some ⟨w.heap.size+1+1,0,none⟩)] w1 fun e w'=>e=.returned (.tuple #[])/\∃ Λ2,Fr (upΛ w Λ) Λ2 (· = slip) w1 w'/\At w' Λ2 slip (w.heap.size+1+1) (.cells #[.bool up] 4)) :
    Calls Tryz.L 111 #[.pointer (some ⟨c,0,none⟩),.int .i64 t] w fun e w'=>e=.returned (.bool up)/\∃ Λ',Fr Λ Λ' (mine k) w w'/\Clu w' Λ' k c N nt nb 0 sh tx bg D ss ts bs:=by
  have e1:¬ (still=((k,0,0):Role)):=ne_of_fst (by simp [still];omega)
  have e2:¬ (slip=((k,0,0):Role)):=ne_of_fst (by simp [slip];omega)
  have hI:=hid' (lone_asks (v:=upW w c t) (Λ:=upΛ w Λ) (R:=fun w2 Λ2=>At w2 Λ2 slip (w.heap.size+1+1) (.cells #[.bool up] 4)) LL.call155 (hC.fr upFr fun _ _ z=>z) (fun w1 f1 hC1=>hW w1 ((upFr.mono fun _ z=>z.elim).trans f1) hC1 ((up_keep met_bc).fr f1 e1) ((up_keep met_bi).fr f1 e1) (up_bu.fr f1 e2)) hk)
  clear hW hC
  go_enter LL.func111,Tryz.ntmps111
  go_wp2_with fail
  refine hI.out.mono ?_
  rintro e w' ⟨rfl,w2,Λ2,h1,h2,h3,h4⟩
  have h5:At w' Λ2 slip (w.heap.size+1+1) (.cells #[.bool up] 4):=by
    rw [h3]
    refine h1.fr (Fr.set' (M:=(· = (k,0,0))) ?_) e2
    have:=h4.blk.lab
    exact this
  have c1:=h5.cell (i:=0) rfl
  have hX:=hid' (And.intro h2 (And.intro h3 h4))
  clear h1 h2 h3 h4 h5 hI
  go_wp2
  go_ret
  refine ⟨rfl,Λ2,(upFr.mono fun _ z=>z.elim).trans (hX.out.1.trans ?_),hX.out.2.2⟩
  rw [hX.out.2.1]
  exact Fr.set' (.inl (.inl (by show (Λ2 c).1=k;rw [hX.out.2.2.blk.lab])))
theorem lone_up_no (hk:0<k)(hC:Clu w Λ k c N nt nb 0 sh tx bg D ss ts bs)(ht:¬ (0<=t/\t<N)) :
    Calls Tryz.L 111 #[.pointer (some ⟨c,0,none⟩),.int .i64 t] w fun e w'=>e=.returned (.bool false)/\∃ Λ',Fr Λ Λ' (mine k) w w'/\Clu w' Λ' k c N nt nb 0 sh tx bg D ss ts bs:=
  lone_up_of hk hC fun w1 _ hC1 h1 h2 h3=>lone_up1_no hC1 h1 h2 h3 ht
theorem lone_up_yes {σ:Role}{cells:Array Value}{fz:Nat × Nat}(hk:0<k)(hC:Clu w Λ k c N nt nb 0 sh tx bg D ss ts bs)(hi:i<N)(hN:N<=4)(hs:ss[i]? = some (.pointer (some ⟨b,0,none⟩)))(hb:At w Λ σ b (.cells cells 154 fz))(hσ:σ.1≠k)(hup:cells[2]? = some (.bool up)) :
    Calls Tryz.L 111 #[.pointer (some ⟨c,0,none⟩),.int .i64 i] w fun e w'=>e=.returned (.bool up)/\∃ Λ',Fr Λ Λ' (mine k) w w'/\Clu w' Λ' k c N nt nb 0 sh tx bg D ss ts bs:=
  lone_up_of hk hC fun w1 f1 hC1 h1 h2 h3=>lone_up1_yes hC1 h1 h2 h3 hi hN hs (hb.fr f1 fun h=>hσ (by rw [h])) hup
end
end
section
section
variable {w:World}{Λ:Lab}{ρ:Role}{k c N nt nb D n i:Nat}{t st:Int}{sh tx bg rv:Value}{ss ts bs:List Value}{l:List Int}
noncomputable def resW (w:World) (c:Nat) (t:Int):World:=((metW w c t).alloc (.cells #[.int .i64 0] 3)).alloc (.cells #[.slice none 0 0] 166)
noncomputable def resΛ (w:World) (Λ:Lab):Lab:=fun x=>if x=w.heap.size+1+1∨x=w.heap.size+1+1+1 then slip else metΛ w Λ x
theorem resFr:Fr Λ (resΛ w Λ) (fun _=>False) w (resW w c t):=by
  refine (((metFr (w:=w) (Λ:=Λ)).alloc _).alloc _).relab fun x hx=>?_
  show (if _ then _ else _)=_
  rw [if_neg (by omega)]
theorem res_keep {ρ:Role}{x:Nat}{o:Obj}(h:At (metW w c t) (metΛ w Λ) ρ x o):At (resW w c t) (resΛ w Λ) ρ x o:=by
  have hlt:=h.lt
  rw [metW_size] at hlt
  refine ⟨?_,?_⟩
  · unfold resW
    rw [alloc_get,if_neg (by rw [alloc_size,metW_size];omega),alloc_get,if_neg (by rw [metW_size];omega)]
    exact h.obj
  · show (if _ then _ else _)=_
    rw [if_neg (by omega)]
    exact h.lab
theorem res_br:At (resW w c t) (resΛ w Λ) slip (w.heap.size+1+1) (.cells #[.int .i64 0] 3):=by
  refine ⟨?_,?_⟩
  · unfold resW
    rw [alloc_get,if_neg (by rw [alloc_size,metW_size];omega),alloc_get,if_pos (by rw [metW_size])]
  · show (if _ then _ else _)=_
    rw [if_pos (.inl rfl)]
theorem res_bd:At (resW w c t) (resΛ w Λ) slip (w.heap.size+1+1+1) (.cells #[.slice none 0 0] 166):=by
  refine ⟨?_,?_⟩
  · unfold resW
    rw [alloc_get,if_pos (by rw [alloc_size,metW_size])]
  · show (if _ then _ else _)=_
    rw [if_pos (.inr rfl)]
def ResOut (w:World) (Λ:Lab) (k c N nt nb D:Nat) (sh tx bg:Value) (ss ts bs:List Value) (st:Int) (ρ':Role) (n:Nat) (l:List Int) (e:Ending) (w':World):Prop:=
  ∃ y Λ',e=.returned (.tuple #[.int .i64 st,y])/\Fr Λ Λ' (mine k) w w'/\Clu w' Λ' k c N nt nb 0 sh tx bg D ss ts bs/\Row w' Λ' ρ' 21 1 y n (rdL l)
theorem lone_result_of {ρ':Role}(hρ:ρ'.1≠k)(hk:0<k)(hC:Clu w Λ k c N nt nb 0 sh tx bg D ss ts bs)
    (hW:∀ w1,Fr Λ (resΛ w Λ) (· = (k,0,0)) w w1->Clu w1 (resΛ w Λ) k c N nt nb 1 sh tx bg D ss ts bs->At w1 (resΛ w Λ) still w.heap.size (.cells #[.pointer (some ⟨c,0,none⟩)] 23)->At w1 (resΛ w Λ) still (w.heap.size+1) (.cells #[.int .i64 t] 3)->At w1 (resΛ w Λ) slip (w.heap.size+1+1) (.cells #[.int .i64 0] 3)->At w1 (resΛ w Λ) slip (w.heap.size+1+1+1) (.cells #[.slice none 0 0] 166) ->
      Calls Tryz.L 200 #[.pointer (some ⟨w.heap.size,0,none⟩),.pointer (some ⟨w.heap.size+1,0,none⟩),.pointer (some ⟨w.heap.size+1+1,0,none⟩),.pointer (some ⟨w.heap.size+1+1+1,0,none⟩)] w1 fun e w'=>e=.returned (.tuple #[])/\∃ Λ2 y,Fr (resΛ w Λ) Λ2 (· = slip) w1 w'/\At w' Λ2 slip (w.heap.size+1+1) (.cells #[.int .i64 st] 3)/\At w' Λ2 slip (w.heap.size+1+1+1) (.cells #[y] 166)/\Row w' Λ2 ρ' 21 1 y n (rdL l)) :
    Calls Tryz.L 154 #[.pointer (some ⟨c,0,none⟩),.int .i64 t] w (ResOut w Λ k c N nt nb D sh tx bg ss ts bs st ρ' n l):=by
  have e1:¬ (still=((k,0,0):Role)):=ne_of_fst (by simp [still];omega)
  have e2:¬ (slip=((k,0,0):Role)):=ne_of_fst (by simp [slip];omega)
  have hI:=hid' (lone_asks (v:=resW w c t) (Λ:=resΛ w Λ) (R:=fun w2 Λ2=>∃ y,At w2 Λ2 slip (w.heap.size+1+1) (.cells #[.int .i64 st] 3)/\At w2 Λ2 slip (w.heap.size+1+1+1) (.cells #[y] 166)/\Row w2 Λ2 ρ' 21 1 y n (rdL l)) LL.call200 (hC.fr resFr fun _ _ z=>z)
    (fun w1 f1 hC1=>(hW w1 ((resFr.mono fun _ z=>z.elim).trans f1) hC1 ((res_keep met_bc).fr f1 e1) ((res_keep met_bi).fr f1 e1) (res_br.fr f1 e2) (res_bd.fr f1 e2)).mono fun e w2 ⟨h1,Λ2,y,h2,h3,h4,h5⟩=>⟨h1,Λ2,h2,y,h3,h4,h5⟩) hk)
  clear hW hC
  go_enter LL.func154,Tryz.ntmps154
  go_wp2_with fail
  refine hI.out.mono ?_
  rintro e w' ⟨rfl,w2,Λ2,⟨y,h1,h1',h1''⟩,h2,h3,h4⟩
  have fc:Fr Λ2 Λ2 (· = (k,0,0)) w2 w':=by
    rw [h3]
    exact Fr.set' h4.blk.lab
  have h5:=h1.fr fc e2
  have h6:=h1'.fr fc e2
  have h7:=h1''.fr fc fun h=>hρ (by rw [h])
  have c1:=h5.cell (i:=0) rfl
  have c2:=h6.cell (i:=0) rfl
  obtain ⟨yo,yc,rfl⟩:=h7.slice
  have hX:=hid' (And.intro h2 (And.intro h4 (And.intro fc h7)))
  clear h1 h1' h1'' h2 h3 h4 h5 h6 h7 hI fc
  go_wp2_with fail
  go_quiet (fail)
  go_wp2
  go_ret2
  have f0:∀ j,Fr Λ2 Λ2 (fun _=>False) w' (w'.drewN j):=fun j=>Fr.same rfl rfl
  exact ⟨_,Λ2,rfl,(((resFr.mono fun _ z=>z.elim).trans hX.out.1).trans (hX.out.2.2.1.mono fun r h=>.inl (.inl (by rw [h])))).trans ((f0 _).mono fun _ z=>z.elim),hX.out.2.1.fr (f0 _) fun _ _ z=>z,hX.out.2.2.2.fr (f0 _) fun z=>z⟩
theorem lone_result_no {ρ':Role}(hρ:ρ'.1≠k)(hk:0<k)(hC:Clu w Λ k c N nt nb 0 sh tx bg D ss ts bs)(ht:¬ (0<=t/\t<nt)):Calls Tryz.L 154 #[.pointer (some ⟨c,0,none⟩),.int .i64 t] w (ResOut w Λ k c N nt nb D sh tx bg ss ts bs 0 ρ' 0 []):=
  lone_result_of hρ hk hC fun w1 _ hC1 h1 h2 h3 h4=>(lone_res1_no hC1 h1 h2 ht).mono fun e w' ⟨k1,k2⟩=>⟨k1,_,_,k2.mono fun _ z=>z.elim,h3.fr k2 fun z=>z,h4.fr k2 fun z=>z,Row.nil _ _ _ _ _⟩
theorem lone_result_yes {ρ':Role}(hρ:ρ'.1≠k)(hρs:¬ (ρ'=slip))(hk:0<k)(hC:Clu w Λ k c N nt nb 0 sh tx bg D ss ts bs)(hi:i<nt)(hnt:nt<=60)(h1:ts[i*3+1]? = some (.int .i64 st))(h2:ts[i*3+2]? = some rv)(hr:Row w Λ ρ 21 1 rv n (rdL l))(hρ0:ρ.1≠k)(hn:n<=1048576) :
    Calls Tryz.L 154 #[.pointer (some ⟨c,0,none⟩),.int .i64 i] w (ResOut w Λ k c N nt nb D sh tx bg ss ts bs st ρ' n l):=
  lone_result_of hρ hk hC fun w1 f1 hC1 k1 k2 k3 k4=>lone_res1_yes hk hρs hC1 k1 k2 k3 k4 (by omega) hi hnt h1 h2 (hr.fr f1 fun h=>hρ0 (by rw [h])) hn
end
end
section
def lent:Role:=(0,3,0)
section
variable {w:World}{Λ:Lab}{E:Nat->Addr}{ρo:Role}{k c n:Nat}{v:Value}{l:List OpD}
theorem run_append_none (o:Option Addr)(c:Nat)(ty:TypeId):(Builtin.append_ #[36,36] ty #[.slice none 0 0,.slice o 0 c]).run Tryz.L w=.ok (.slice none 0 0) w:=by
  have h:Tryz.L.underlying 36=some (.slice 65):=und36
  obtain ⟨i,z,h1,h2,h3,h4,h5⟩:=slot65
  cases o <;> simp [Builtin.append_,run_underlying h,Builtin.lenOf,Builtin.firstCells,sizeOf,typeInfo,h1,loadCells,loadCellsFrom,Sem.run]
theorem copy_out (hr:Row w Λ ρo 65 3 v n (clL l))(hn:n<=5864062014805)(ty:TypeId) :
    ∃ v' w' Λ',(Builtin.append_ #[36,36] ty #[.slice none 0 0,v]).run Tryz.L w=.ok v' w'/\Fr Λ Λ' (· = lent) w w'/\Row w' Λ' lent 65 3 v' n (clL l):=by
  rcases Nat.eq_zero_or_pos n with rfl|h0
  · obtain ⟨o,c,rfl⟩:=hr.slice
    have hl:l = []:=List.eq_nil_of_length_eq_zero (by have:=hr.len;rw [len_clL] at this;omega)
    subst hl
    exact ⟨_,w,Λ,run_append_none o c ty,Fr.refl _ _ _,Row.nil _ _ _ _ _⟩
  · obtain ⟨g,cap,rfl,h1,h2,h3,h4⟩:=hr.some h0
    have hlen:=hr.len
    obtain ⟨v',w',Λ',k1,k2,k3⟩:=run_append_row (ρ:=lent) (t:=36) (t':=36) (e:=65) (e':=65) (c:=cap) slotOp und36 (Row.nil w Λ lent 65 3) (m:=n) (news:=clL l) (p:=⟨g,0,none⟩) hlen (hr.own.cells rfl) (one_clL l) (by unfold maxLen;omega) (by omega) ty
    rw [Nat.zero_add,List.nil_append] at k3
    exact ⟨v',w',Λ',k1,k2,k3⟩
theorem copy_list {ops:Array Oper}{rest:List Oper}{o:Oper}{a:Act}{Q:_root_.Go.Exit->Act->World->Prop}(x y:Operand)(hg:o.guard=none)(hop:o.op=.call { callee:=.builtin .append,args:=#[x,y],argTypes:=#[36,36] })
    (hr:Row w Λ ρo 65 3 v n (clL l)) (hn:n<=5864062014805) (hx:a.eval x=.slice none 0 0) (hy:a.eval y=v)
    (hK:∀ v' w' Λ',Fr Λ Λ' (· = lent) w w'->Row w' Λ' lent 65 3 v' n (clL l)->wpList Tryz.L ops Q rest (a.put o.dst v') w'):wpList Tryz.L ops Q (o :: rest) a w:=by
  refine wpList_plain hg fun K hK'=>?_
  obtain ⟨v',w',Λ',h1,h2,h3⟩:=copy_out hr hn o.type
  have e:execOp a.eval o=(do pure (Next.value (← Builtin.append_ #[36,36] o.type #[.slice none 0 0,v])):Sem Next):=by
    unfold execOp
    rw [hop]
    show builtin .append #[36,36] o.type (#[x,y].map fun | .const _=>true|_=>false) (#[x,y].map a.eval)=_
    have:(#[x,y].map a.eval)=#[.slice none 0 0,v]:=by simp [hx,hy]
    rw [this]
    rfl
  unfold Oper.wp
  rw [e,Sem.run_bind,h1]
  exact hK' _ _ (hK v' w' Λ' h2 h3)
def NumV (E:Nat->Addr) (u:Value) (m:Nat) (w:World) (Λ:Lab):Prop:=
  (u=.nilIface/\m=0)∨∃ b i,i<9/\u=.iface 113 (.pointer (some ⟨b,0,none⟩))/\At w Λ still b (.cells #[.string submitName,.int .i64 0,errV (E (ordE i))] 117 (0,0))/\m=i+1
theorem NumV.fr {Λ':Lab}{M:Role->Prop}{w':World}{u:Value}{m:Nat}(h:NumV E u m w Λ)(f:Fr Λ Λ' M w w')(hm:¬ M still):NumV E u m w' Λ':=
  h.imp id fun ⟨b,i,h1,h2,h3,h4⟩=>⟨b,i,h1,h2,h3.fr f hm,h4⟩
theorem lone_numV {u:Value}{m:Nat}(hE:Errs w Λ E)(h:NumV E u m w Λ):Calls Tryz.L 28 #[u,.string submitName,.int .i64 0] w fun e w'=>e=.returned (.int .i64 m)/\∃ Λ',Fr Λ Λ' (· = slip) w w':=by
  rcases h with ⟨rfl,rfl⟩|⟨b,i,h1,rfl,h3,rfl⟩
  · exact lone_number_nil.mono fun e w' ⟨h,h'⟩=>by subst h';exact ⟨h,Λ,Fr.refl _ _ _⟩
  · exact (lone_number h1 hE h3).mono fun e w' ⟨h,h'⟩=>⟨by rw [h];simp,h'⟩
def mineL (k:Nat) (r:Role):Prop:=mine k r∨r=lent
set_option maxHeartbeats 4000000 in
theorem lone_psub_of {t:Int}{m:Nat}{R:World->Lab->Prop}(hE:Errs w Λ E)(hv:Row w Λ ρo 65 3 v n (clL l))(hn:n<=5864062014805)
    (hS:∀ v' w1 Λ1,Fr Λ Λ1 (· = lent) w w1->Row w1 Λ1 lent 65 3 v' n (clL l)->Calls Tryz.L 27 #[.pointer (some ⟨c,0,none⟩),v'] w1 fun e w2=>∃ u Λ2,e=.returned (.tuple #[.int .i64 t,u])/\NumV E u m w2 Λ2/\Fr Λ1 Λ2 (mine k) w1 w2/\R w2 Λ2) (hk:0<k) :
    Calls Tryz.L 18 #[.pointer (some ⟨c,0,none⟩),v] w fun e w'=>∃ w2 Λ2 Λ',e=.returned (.tuple #[.int .i64 t,.int .i64 m])/\R w2 Λ2/\Fr Λ Λ2 (mineL k) w w2/\Fr Λ2 Λ' (fun r=>r=lent∨r=slip) w2 w':=by
  have hS':=hid' hS
  have hE':=hid' hE
  have hv':=hid' hv
  clear hS hE
  obtain ⟨o,cap,rfl⟩:=hv.slice
  clear hv
  go_enter LL.func18,Tryz.ntmps18
  go_wp2_with (at_builtin;refine park ?_)
  refine copy_list _ _ rfl rfl hv'.out hn rfl rfl (fun v1 w1 Λ1 hF1 hR1=>?_)
  obtain ⟨o',cap',rfl⟩:=hR1.slice
  have hF1':=hid' hF1
  have hR1':=hid' hR1
  clear hF1 hR1
  go_wp2_with fail
  refine (hS'.out _ _ _ hF1'.out hR1'.out).mono ?_
  rintro e w2 ⟨u,Λ2,rfl,h1,h2,h3⟩
  have hR2:=hid' (hR1'.out.fr h2 (by rintro ((h|h)|h) <;> simp [lent,priv,slip] at h;omega))
  have hX:=hid' (And.intro h1 (And.intro h2 h3))
  clear h1 h2 h3
  go_wp2
  go_loopw [20] (fun j wr=>∃ k:Nat,k<=n/\j=.int .i64 k/\Fr Λ2 Λ2 (· = lent) w2 wr/\∀ g,o'=some ⟨g,0,none⟩->∃ cur,At wr Λ2 lent g (.cells cur 65 (0,0))/\n*3<=cur.size) (fun j _=>n - (intOf j).toNat)
  case atStart=>
    refine ⟨0,by omega,rfl,Fr.refl _ _ _,fun g hg=>?_⟩
    subst hg
    rcases hR2.out.own.2 with ⟨h,_⟩|⟨g',cap,cur,h,_,h4,_,_,h7,_⟩
    · cases h
    · cases h
      exact ⟨cur,⟨h4,hR2.out.lab _ rfl⟩,by omega⟩
  case round=>
    obtain ⟨k',hk',rfl,hF2,hB⟩:=hrel
    by_cases hlt:k'<n
    · obtain ⟨g,cp,hs,hcp,_⟩:=hR2.out.some (by omega)
      cases hs
      obtain ⟨cur,hat,hsz⟩:=hB g rfl
      have x0:wr.cell? ⟨g,k'*3,none⟩=some cur[k'*3]:=hat.cell (by simp)
      have x1:wr.cell? ⟨g,k'*3+1,none⟩=some cur[k'*3+1]:=hat.cell (by simp)
      have x2:wr.cell? ⟨g,k'*3+2,none⟩=some cur[k'*3+2]:=hat.cell (by simp)
      have z0:wr.frozen? ⟨g,k'*3,none⟩=false:=hat.thaw (by simp)
      have z1:wr.frozen? ⟨g,k'*3+1,none⟩=false:=hat.thaw (by simp)
      have z2:wr.frozen? ⟨g,k'*3+2,none⟩=false:=hat.thaw (by simp)
      have a1:=hat.set (k'*3) (.bool true)
      have a2:=a1.set (k'*3+1) (.int .u8 122)
      have a3:=hid' (a2.set (k'*3+2) (.int .i32 (-1)))
      have f3:=hid' (((hF2.trans (Fr.set' (a:=⟨g,k'*3,none⟩) (y:=.bool true) hat.lab)).trans (Fr.set' (a:=⟨g,k'*3+1,none⟩) (y:=.int .u8 122) a1.lab)).trans (Fr.set' (a:=⟨g,k'*3+2,none⟩) (y:=.int .i32 (-1)) a2.lab))
      clear a1 a2
      go_wp2
      go_roundw
      case rel=>exact ⟨k'+1,by omega,by go_num,f3.out,fun g' hg'=>by cases hg';exact ⟨_,a3.out,by simp;omega⟩⟩
      case measure=>simp [intOf];omega
    · obtain rfl:k'=n:=by omega
      obtain ⟨h1,h2,h3⟩:=hX.out
      have hm:¬ (mineL k still∨still=lent):=by simp [mineL,mine,own,still,lent,priv,slip];omega
      have hm':¬ mine k still:=fun h=>hm (.inl (.inl h))
      have hE2:=(((hE'.out.fr hF1'.out (by decide)).fr h2 hm').fr hF2 (by decide))
      have hN:=h1.fr hF2 (by decide)
      have hc:=hid' (lone_numV hE2 hN)
      have hR:=hid' h3
      have hFA:=hid' ((hF1'.out.mono (M':=mineL k) fun r h=>.inr h).trans (h2.mono fun r h=>.inl h))
      have hFB:=hid' hF2
      clear hE2 hN h1 h2 h3 hF2 hB hX hE' hF1'
      unfold submitName at hc
      go_wp2_with (go_at_call 28;refine hc.out.mono ?_;rintro e w3 ⟨rfl,Λ',hF3⟩)
      go_ret2
      exact ⟨w2,Λ2,Λ',rfl,hR.out,hFA.out,(hFB.out.mono fun r h=>.inl h).trans (hF3.mono fun r h=>.inr h)⟩
section
variable {N nt nb D cp s r:Nat}{sh tx bg:Value}{ss ts bs:List Value}
theorem not_lent {k:Nat}(hk:0<k):¬ own k lent:=by simp [own,lent,priv];omega
theorem mineL_of {Λ' Λ2:Lab}{w2 w':World}(h:Fr Λ Λ2 (mineL k) w w2)(f:Fr Λ2 Λ' (fun r=>r=lent∨r=slip) w2 w'):Fr Λ Λ' (mineL k) w w':=
  h.trans (f.mono fun r h=>h.elim (fun h=>.inr h) (fun h=>.inl (.inr h)))
theorem lone_psub_yes {δ:Role}(hk:0<k)(hE:Errs w Λ E)(hC:Clu w Λ k c N nt nb 0 sh tx bg D ss ts bs)(hD:At w Λ δ D (.chan cp #[] false s r false))(hN:1<=N)(hN4:N<=4)
    (hv:Row w Λ ρo 65 3 v n (clL l)) (hn:n<=5864062014805) (ht:TxL l) (hnt:nt<60) (hnb:nb<400) (hδ:δ.1≠k:=by simp [still];omega) (hδl:¬ (δ=lent):=by decide) :
    Calls Tryz.L 18 #[.pointer (some ⟨c,0,none⟩),v] w fun e w'=>e=.returned (.tuple #[.int .i64 nt,.int .i64 0])/\∃ Λ' g tx' bg',Fr Λ Λ' (mineL k) w w' /\
      Clu w' Λ' k c N (nt+1) (nb+1) 0 sh tx' bg' D ss (ts++clTx (.slice (some ⟨g,0,none⟩) n n)) (bs ++ [.iface 110 (clBegin (plc (nthOp l 0).key N:Nat) nt (.slice (some ⟨g,0,none⟩) n n))])/\Row w' Λ' still 65 3 (.slice (some ⟨g,0,none⟩) n n) n (clL l):=by
  refine (lone_psub_of (m:=0) (t:=nt) (k:=k) (R:=fun w2 Λ2=>∃ g tx' bg',Clu w2 Λ2 k c N (nt+1) (nb+1) 0 sh tx' bg' D ss (ts++clTx (.slice (some ⟨g,0,none⟩) n n)) (bs ++ [.iface 110 (clBegin (plc (nthOp l 0).key N:Nat) nt (.slice (some ⟨g,0,none⟩) n n))])/\Row w2 Λ2 still 65 3 (.slice (some ⟨g,0,none⟩) n n) n (clL l)) hE hv hn (fun v' w1 Λ1 f1 hv'=>?_) hk).mono ?_
  · have hl:¬ (still=lent):=by decide
    refine (lone_submit_yes hk (hE.fr f1 hl) (hC.fr f1 fun r hr h=>?_) (hD.fr f1 hδl) hN hN4 hv' (not_lent hk) ht hnt hnb hδ).mono ?_
    · rw [h] at hr;simp [lent] at hr;omega
    · rintro e w2 ⟨rfl,Λ2,g,tx',bg',h1,h2,h3⟩
      exact ⟨_,Λ2,rfl,.inl ⟨rfl,rfl⟩,h1,g,tx',bg',h2,h3⟩
  · rintro e w' ⟨w2,Λ2,Λ',rfl,⟨g,tx',bg',h2,h3⟩,h4,h5⟩
    refine ⟨rfl,Λ',g,tx',bg',mineL_of h4 h5,h2.fr h5 fun r hr h=>?_,h3.fr h5 (by decide)⟩
    rcases h with h|h <;> (rw [h] at hr;simp [lent,slip] at hr;omega)
theorem lone_psub_no_of {i:Nat}(hi:i<9)(hk:0<k)(hE:Errs w Λ E)(hC:Clu w Λ k c N nt nb 0 sh tx bg D ss ts bs)(hv:Row w Λ ρo 65 3 v n (clL l))(hn:n<=5864062014805)
    (h:∀ v' w1 Λ1,Fr Λ Λ1 (· = lent) w w1->Row w1 Λ1 lent 65 3 v' n (clL l)->Clu w1 Λ1 k c N nt nb 0 sh tx bg D ss ts bs->Calls Tryz.L 27 #[.pointer (some ⟨c,0,none⟩),v'] w1 fun e w'=>∃ b Λ',e=.returned (.tuple #[.int .i64 0,.iface 113 (.pointer (some ⟨b,0,none⟩))])/\Fr Λ1 Λ' (mine k) w1 w'/\Clu w' Λ' k c N nt nb 0 sh tx bg D ss ts bs/\At w' Λ' still b (.cells #[.string submitName,.int .i64 0,errV (E (ordE i))] 117 (0,0))) :
    Calls Tryz.L 18 #[.pointer (some ⟨c,0,none⟩),v] w fun e w'=>e=.returned (.tuple #[.int .i64 0,.int .i64 ((i+1:Nat):Int)])/\∃ Λ',Fr Λ Λ' (mineL k) w w'/\Clu w' Λ' k c N nt nb 0 sh tx bg D ss ts bs:=by
  refine (lone_psub_of (m:=i+1) (t:=0) (k:=k) (R:=fun w2 Λ2=>Clu w2 Λ2 k c N nt nb 0 sh tx bg D ss ts bs) hE hv hn (fun v' w1 Λ1 f1 hv'=>?_) hk).mono ?_
  · refine (h v' w1 Λ1 f1 hv' (hC.fr f1 fun r hr h=>?_)).mono ?_
    · rw [h] at hr;simp [lent] at hr;omega
    · rintro e w2 ⟨b,Λ2,rfl,h1,h2,h3⟩
      exact ⟨_,Λ2,rfl,.inr ⟨b,i,hi,rfl,h3,rfl⟩,h1,h2⟩
  · rintro e w' ⟨w2,Λ2,Λ',rfl,h2,h4,h5⟩
    refine ⟨rfl,Λ',mineL_of h4 h5,h2.fr h5 fun r hr h=>?_⟩
    rcases h with h|h <;> (rw [h] at hr;simp [lent,slip] at hr;omega)
theorem lone_psub_ops {δ:Role}(hk:0<k)(hE:Errs w Λ E)(hC:Clu w Λ k c N nt nb 0 sh tx bg D ss ts bs)(hD:At w Λ δ D (.chan cp #[] false s r false))
    (hv:Row w Λ ρo 65 3 v n (clL l)) (hn:n<=5864062014805) (ht:¬ TxL l) (hδ:δ.1≠k:=by simp [still];omega) (hδl:¬ (δ=lent):=by decide) :
    Calls Tryz.L 18 #[.pointer (some ⟨c,0,none⟩),v] w fun e w'=>e=.returned (.tuple #[.int .i64 0,.int .i64 2])/\∃ Λ',Fr Λ Λ' (mineL k) w w'/\Clu w' Λ' k c N nt nb 0 sh tx bg D ss ts bs:=by
  have hl:¬ (still=lent):=by decide
  exact lone_psub_no_of (i:=1) (by decide) hk hE hC hv hn fun v' w1 Λ1 f1 hv' hC1=>lone_submit_ops hk (hE.fr f1 hl) hC1 (hD.fr f1 hδl) hv' (not_lent hk) hn ht hδ
theorem lone_psub_many {δ:Role}(hk:0<k)(hE:Errs w Λ E)(hC:Clu w Λ k c N nt nb 0 sh tx bg D ss ts bs)(hD:At w Λ δ D (.chan cp #[] false s r false))
    (hv:Row w Λ ρo 65 3 v n (clL l)) (hn:n<=5864062014805) (ht:TxL l) (hmany:60<=nt∨400<=nb) (hδ:δ.1≠k:=by simp [still];omega) (hδl:¬ (δ=lent):=by decide) :
    Calls Tryz.L 18 #[.pointer (some ⟨c,0,none⟩),v] w fun e w'=>e=.returned (.tuple #[.int .i64 0,.int .i64 3])/\∃ Λ',Fr Λ Λ' (mineL k) w w'/\Clu w' Λ' k c N nt nb 0 sh tx bg D ss ts bs:=by
  have hl:¬ (still=lent):=by decide
  exact lone_psub_no_of (i:=2) (by decide) hk hE hC hv hn fun v' w1 Λ1 f1 hv' hC1=>lone_submit_many hk (hE.fr f1 hl) hC1 (hD.fr f1 hδl) hv' (not_lent hk) hn ht hmany hδ
end
end
end
end Go.Proofs.Shardlog
namespace Go.Proofs.Shardlog
open Go Go.Conc Go.Tame Go.Proofs Go.RowKit
section
section
variable {w:World}{s:Nat}
theorem und54:Tryz.L.underlying 54=some (.slice 3):=by kernel_rfl
theorem slot3:∃ i,Tryz.L.info? 3=some i/\i.zero=some (.int .i64 0)/\i.size=1/\i.bytes=8:=by
  have h:(Tryz.L.info? 3).map (fun i=>(i.zero,i.size,i.bytes))=some (some (.int .i64 0),1,8):=by kernel_rfl
  obtain ⟨i,hi,hb⟩:=Option.map_eq_some_iff.1 h
  simp only [Prod.mk.injEq] at hb
  exact ⟨i,hi,hb⟩
theorem hid {p:Prop}(h:p):Hid p:=h
def Forgot (u:World) (s:Nat) (z:Value):World:=(((((u.setCell ⟨s,5,none⟩ z).setCell ⟨s,6,none⟩ (.slice none 0 0)).setCell ⟨s,7,none⟩ (.slice none 0 0)).setCell ⟨s,8,none⟩ (.slice none 0 0)).setCell ⟨s,9,none⟩ (.slice none 0 0)).setCell ⟨s,10,none⟩ (.int .i64 0)
theorem forgot_ne {u:World}{z:Value}{x:Nat}(h:x≠s):(Forgot u s z).heap[x]? = u.heap[x]?:=by
  unfold Forgot
  rw [setCell_ne h,setCell_ne h,setCell_ne h,setCell_ne h,setCell_ne h,setCell_ne h]
theorem forgot_size (u:World)(z:Value):(Forgot u s z).heap.size=u.heap.size:=by
  unfold Forgot
  simp only [setCell_size]
theorem forgot_os (u:World)(z:Value):(Forgot u s z).os=u.os:=by
  unfold Forgot
  rw [setCell_os,setCell_os,setCell_os,setCell_os,setCell_os,setCell_os]
def ForgetsTo (w:World) (s:Nat) (e:Ending) (w':World):Prop:=
  e=.returned (.tuple #[])/\∃ w1,w.grownBy w1 none/\w1.ownsRow w.heap.size 3 1 (.slice (some ⟨w.heap.size,0,none⟩) 26 26) 26 (madeCells (Value.int IntKind.i64 0).cells (26*1)).toList/\w'=Forgot w1 s (.slice (some ⟨w.heap.size,0,none⟩) 26 26)
theorem lone_forget {x0 x1 x2 x3 x4 x5 x6 x7 x8 x9 x10 x11:Value}(h:w.heap[s]? = some (.cells #[x0,x1,x2,x3,x4,x5,x6,x7,x8,x9,x10,x11] 59 (0,0))):Calls Tryz.L 26 #[.pointer (some ⟨s,0,none⟩)] w (ForgetsTo w s):=by
  obtain ⟨i3,t1,t2,t3,t4⟩:=slot3
  have hsz:s<w.heap.size:=(Array.getElem?_eq_some_iff.1 h).1
  have after:∀ w1,w.grownBy w1 none->(∀ j,w1.frozen? ⟨s,j,none⟩=false)/\w1.cell? ⟨s,5,none⟩=some x5/\w1.cell? ⟨s,6,none⟩=some x6/\w1.cell? ⟨s,7,none⟩=some x7/\w1.cell? ⟨s,8,none⟩=some x8/\w1.cell? ⟨s,9,none⟩=some x9/\w1.cell? ⟨s,10,none⟩=some x10:=fun w1 hgr=>by
    have h':w1.heap[s]? = some (.cells #[x0,x1,x2,x3,x4,x5,x6,x7,x8,x9,x10,x11] 59 (0,0)):=by rw [hgr.block s hsz (by simp)];exact h
    unfold World.cell?
    rw [h']
    refine ⟨fun j=>?_,rfl,rfl,rfl,rfl,rfl,rfl⟩
    unfold World.frozen?
    rw [h']
    simp
  have hA:=hid after
  clear after h
  go_enter LL.func26,Tryz.ntmps26
  go_wp2_with (at_make;refine wpList_make_full _ rfl _ _ 54 rfl w.heap.size 3 i3 (.int .i64 0) 1 und54 t1 t2 t3 .i64 .i64 26 26 26 rfl rfl rfl rfl (by rw [t4];omega) (by simp [maxLen]) (Nat.le_refl _) ?_;intro w1 hrow hgr;have hrow':=hid hrow;have hgr':=hid hgr;obtain ⟨fz,c5,c6,c7,c8,c9,c10⟩:=hA.out w1 hgr;clear hrow hgr hA t1 t2 t3 t4)
  exact ⟨rfl,.tuple #[],results_none rfl _ _ _,rfl,w1,hgr'.out,hrow'.out,by unfold Forgot;with_reducible rfl⟩
end
end
section
section
variable {w:World}{s:Nat}
abbrev shardCells (k N:Int):Array Value:=#[.int .i64 k,.int .i64 N,.bool true,.slice none 0 0,.int .i64 0,.slice none 0 0,.slice none 0 0,.slice none 0 0,.slice none 0 0,.slice none 0 0,.int .i64 0,.slice none 0 0]
structure NewRef (w w':World) (m N:Nat) (sh:Value) (ss:List Nat):Prop where
  cell:w'.heap[m]? = some (.cells #[sh,.slice none 0 0,.slice none 0 0,.bool false] 51 (0,0))
  row:w'.ownsRow (m+1) 52 1 sh N (ss.map fun s=>.pointer (some ⟨s,0,none⟩))
  grown:Grown w w'
  ge:w.heap.size<=m
theorem und47:Tryz.L.underlying 47=some (.slice 52):=by kernel_rfl
theorem slot52:∃ i,Tryz.L.info? 52=some i/\i.zero=some (.pointer none)/\i.size=1/\i.bytes=8:=by
  have h:(Tryz.L.info? 52).map (fun i=>(i.zero,i.size,i.bytes))=some (some (.pointer none),1,8):=by kernel_rfl
  obtain ⟨i,hi,hb⟩:=Option.map_eq_some_iff.1 h
  simp only [Prod.mk.injEq] at hb
  exact ⟨i,hi,hb⟩
end
end
end Go.Proofs.Shardlog
