/- Several texts in one: StepS, StepT, StepU, StepV, TameRight, StepW. -/
import Derived.Test.YtblcigmggdiccaaGreatDoorPart22
import Derived.Test.YtblcigmggdiccaaGreatDoorPart17
import Derived.Test.YtblcigmggdiccaaGreatDoorPart11
import Derived.Test.YtblcigmggdiccaaGreatDoorPart20
import Derived.Test.YtblcigmggdiccaaGreatDoorPart21
set_option linter.unusedSectionVars false
set_option linter.unusedSimpArgs false
set_option linter.unusedVariables false
set_option maxRecDepth 100000
namespace Go.Proofs.Shardlog
open Go Go.Conc Go.Tame Go.Proofs Go.RowKit Go.Mem
section
variable {Ω:World}
theorem results_one {fn:Func}{x:Tmp}(h:fn.results=#[.tmp x])(tmps:Array Value)(P:Program)(w:World):(results fn tmps).run P w=.ok (tmps.getD x undef) w/\(results fn tmps).events P w #[] = #[]:=by
  unfold results
  rw [h,Array.mapM_eq_mapM_toList,map_eq_pure_bind]
  show Sem.run P (((do
    let __do_lift ← List.mapM _ [ResultVar.tmp x]
    pure __do_lift.toArray):Sem (Array Value)) >>= _) w=_/\_
  simp only [List.mapM_cons,List.mapM_nil]
  exact ⟨rfl,rfl⟩
structure StopAt (w u:World) (m:Nat) (R:List Rec->World->Prop) (g':List Rec) (v':World):Prop where
  keep:∀ x,w.heap.size<=x->x<u.heap.size->v'.heap[x]? = u.heap[x]?
  thaw:v'.frozen? ⟨m,3,none⟩=false
  old:∃ b,v'.cell? ⟨m,3,none⟩=some b
  fin:∀ v2:World,v2.heap=(v'.setCell ⟨m,3,none⟩ (.bool true)).heap->v2.os=v'.os->R g' v2
section
variable {g:List Rec}{w:World}{Λ:Lab}{Wb on oc:Nat}{v:Value}{ps:List (Nat × Nat)}{oo:Option Addr}{W A B C:Int}{c m:Nat}
set_option maxHeartbeats 4000000 in
theorem zz_step_stop (hW : -9223372036854775808<=W/\W<=9223372036854775807)(h:Wd w Λ Wb v ps)(hn:0<ps.length)(hps:ps.length<=2199023255552)(hcm:ps[pkN W ps.length]? = some (c,m)){R:List Rec->World->Prop}
    (hstop:∀ u:World,Grown w u->CWCall (ZZ Ω) g 21 #[.pointer (some ⟨c,0,none⟩)] u fun g' y v'=>y=.tuple #[]/\StopAt w u m R g' v') :
    CWCall (ZZ Ω) g 35 #[.pointer (some ⟨Wb,0,none⟩),.agg #[.int .i64 10,.int .i64 W,.int .i64 A,.int .i64 B,.int .i64 C,.slice oo on oc]] w fun g' y w'=>y=.bool true/\R g' w':=by
  obtain ⟨gp,cap,rfl,_⟩:=h.row.some hn
  have x0:w.cell? ⟨Wb,0,none⟩=some (.slice (some ⟨gp,0,none⟩) ps.length cap):=h.blk.cell rfl
  refine ZZ.body (tmps:=#[.pointer (some ⟨Wb,0,none⟩),.agg #[.int .i64 10,.int .i64 W,.int .i64 A,.int .i64 B,.int .i64 C,.slice oo on oc],undef,undef,undef,undef,undef,undef,undef,undef,undef,undef,undef,undef,undef,undef,undef,undef,undef,undef,undef,undef,undef,undef,undef,undef,undef,undef,undef,undef,undef,undef,undef,undef,undef,undef,undef,undef,undef,undef,undef,undef,undef,undef,undef,undef,undef,undef,undef,undef,undef,undef,undef,undef,undef,undef,undef,undef,undef,undef,undef,undef,undef,undef,undef,undef,undef,undef,undef,undef,undef,undef,undef,undef,undef,undef,undef,undef,undef,undef,undef,undef,undef,undef,undef,undef,undef,undef,undef,undef,undef,undef,undef,undef,undef,undef,undef,undef,undef,undef,undef,undef,undef,undef,undef,undef,undef,undef,undef,undef,undef,undef,undef,undef,undef,undef,undef,undef,undef,undef,undef,undef,undef,undef,undef,undef,undef,undef,undef,undef,undef,undef,undef,undef,undef,undef,undef,undef,undef,undef,undef,undef,undef,undef,undef,undef,undef,undef]) Tryz.func35 (by rfl) (by kernel_rfl) ?_
  intro b cs
  refine CW.seq ZZ.ok (ZZ.plain (by kernel_rfl) (by simp [base]) fun Q u0 hu0 ho0 hQ=>?_)
  have y0:(u0.alloc (.cells #[.int .i64 10,.int .i64 W,.int .i64 A,.int .i64 B,.int .i64 C,.slice oo on oc] 29)).cell? ⟨Wb,0,none⟩=some (.slice (some ⟨gp,0,none⟩) ps.length cap):=cell_alloc (by rw [cell_heap hu0];exact x0)
  have z0:(u0.alloc (.cells #[.int .i64 10,.int .i64 W,.int .i64 A,.int .i64 B,.int .i64 C,.slice oo on oc] 29)).cell? ⟨u0.heap.size,0,none⟩=some (.int .i64 10):=alloc_cells u0 [.int .i64 10,.int .i64 W,.int .i64 A,.int .i64 B,.int .i64 C,.slice oo on oc] 29 0 _ rfl
  have g0:Grown w (u0.alloc (.cells #[.int .i64 10,.int .i64 W,.int .i64 A,.int .i64 B,.int .i64 C,.slice oo on oc] 29)):=(Grown.same hu0 ho0).trans (Grown.alloc _ _)
  have s0:u0.heap.size=w.heap.size:=by rw [hu0]
  have z1:(u0.alloc (.cells #[.int .i64 10,.int .i64 W,.int .i64 A,.int .i64 B,.int .i64 C,.slice oo on oc] 29)).cell? ⟨u0.heap.size,1,none⟩=some (.int .i64 W):=alloc_cells u0 [.int .i64 10,.int .i64 W,.int .i64 A,.int .i64 B,.int .i64 C,.slice oo on oc] 29 1 _ rfl
  rw [s0] at z0 z1
  have n1:(u0.alloc (.cells #[.int .i64 10,.int .i64 W,.int .i64 A,.int .i64 B,.int .i64 C,.slice oo on oc] 29)).heap.size=w.heap.size+1:=by rw [Mem.alloc_size,s0]
  go_wp2
  generalize u0.alloc (.cells #[.int .i64 10,.int .i64 W,.int .i64 A,.int .i64 B,.int .i64 C,.slice oo on oc] 29)=w1 at *
  clear hu0 ho0 s0
  refine CW.seq ZZ.ok (CW.seq ZZ.ok (ZZ.plain (by kernel_rfl) (by simp [base]) fun Q u1 hu1 ho1 hQ=>?_))
  rw [← cell_heap hu1] at y0 z0 z1
  go_wp2
  refine CW.cond (t:=false) ZZ.ok (by rfl) ?_
  simp only [if_false,Bool.false_eq_true]
  refine CW.skip ZZ.ok (CW.seq ZZ.ok (CW.seq ZZ.ok (ZZ.plain (by kernel_rfl) (by simp [base]) fun Q u2 hu2 ho2 hQ=>?_)))
  rw [← cell_heap hu2] at y0 z0 z1
  have hn0:((ps.length:Int) == 0)=false:=beq_eq_false_iff_ne.2 (by omega)
  go_wp2
  refine CW.cond (t:=false) ZZ.ok (by rfl) ?_
  simp only [if_false,Bool.false_eq_true]
  refine CW.skip ZZ.ok (CW.seq ZZ.ok ?_)
  obtain ⟨q1,q2⟩:=pairL_get ps (pkN W ps.length) _ hcm
  have hp:pkN W ps.length<ps.length:=(List.getElem?_eq_some_iff.1 hcm).1
  have g2:Grown w u2:=(g0.trans (Grown.same hu1 ho1)).trans (Grown.same hu2 ho2)
  have n2:u2.heap.size=w.heap.size+1:=by rw [hu2,hu1,n1]
  refine zz_region11 (q:=sl) sl_true (c:=c) (m:=m) (p:=pkN W ps.length) n2 hW hn hps rfl hp y0 z1 (g2.cell (h.row.cell rfl q1)) (g2.cell (h.row.cell rfl q2)) fun u3 hu3 ho3=>?_
  have g3:Grown w u3:=(g2.trans (Grown.alloc _ _)).trans (Grown.same hu3 ho3)
  have k0:u3.cell? ⟨w.heap.size,0,none⟩=some (.int .i64 10):=by rw [cell_heap hu3];exact cell_alloc z0
  have k1:u3.cell? ⟨w.heap.size+1,0,none⟩=some (.pointer (some ⟨c,0,none⟩)):=by rw [cell_heap hu3,← n2];exact alloc_cells u2 [.pointer (some ⟨c,0,none⟩),.pointer (some ⟨m,0,none⟩)] 134 0 _ rfl
  have k2:u3.cell? ⟨w.heap.size+1,1,none⟩=some (.pointer (some ⟨m,0,none⟩)):=by rw [cell_heap hu3,← n2];exact alloc_cells u2 [.pointer (some ⟨c,0,none⟩),.pointer (some ⟨m,0,none⟩)] 134 1 _ rfl
  have n3:u3.heap.size=w.heap.size+2:=by rw [hu3,Mem.alloc_size,n2]
  clear hu3 ho3 hu2 ho2 hu1 ho1 y0 z0 z1 g0 g2 n1 n2
  unfold T11
  simp only [sl_true]
  refine CW.seq ZZ.ok (CW.seq ZZ.ok (ZZ.plain (by kernel_rfl) (by simp [base]) fun Q u4 hu4 ho4 hQ=>?_))
  rw [← cell_heap hu4] at k0 k1 k2
  replace g3:=g3.trans (Grown.same hu4 ho4)
  rw [← hu4] at n3
  go_wp2
  clear hu4 ho4
  refine CW.block ZZ.ok (CW.seq ZZ.ok (ZZ.plain (by kernel_rfl) (by simp [base]) fun Q u5 hu5 ho5 hQ=>?_))
  rw [← cell_heap hu5] at k0 k1 k2
  replace g3:=g3.trans (Grown.same hu5 ho5)
  rw [← hu5] at n3
  go_wp2
  clear hu5 ho5
  refine CW.cond (t:=false) ZZ.ok (by rfl) ?_
  simp only [if_false,Bool.false_eq_true]
  refine CW.seq ZZ.ok (ZZ.plain (by kernel_rfl) (by simp [base]) fun Q u6 hu6 ho6 hQ=>?_)
  rw [← cell_heap hu6] at k0 k1 k2
  replace g3:=g3.trans (Grown.same hu6 ho6)
  rw [← hu6] at n3
  go_wp2
  clear hu6 ho6
  refine CW.cond (t:=false) ZZ.ok (by rfl) ?_
  simp only [if_false,Bool.false_eq_true]
  refine CW.seq ZZ.ok (ZZ.plain (by kernel_rfl) (by simp [base]) fun Q u7 hu7 ho7 hQ=>?_)
  rw [← cell_heap hu7] at k0 k1 k2
  replace g3:=g3.trans (Grown.same hu7 ho7)
  rw [← hu7] at n3
  go_wp2
  clear hu7 ho7
  refine CW.cond (t:=true) ZZ.ok (by rfl) ?_
  simp only [if_true]
  refine CW.seq ZZ.ok (ZZ.pre [_,_] [_] (by kernel_rfl) (by simp [base]) fun Q u8 hu8 ho8 hQ=>?_)
  rw [← cell_heap hu8] at k0 k1 k2
  replace g3:=g3.trans (Grown.same hu8 ho8)
  rw [← hu8] at n3
  go_wp2
  refine CW.callAt ZZ.ok (i:=2) (f:=21) (first:=#[]) (captured:=#[]) (args:=#[.pointer (some ⟨c,0,none⟩)]) rfl rfl (by simp [base]) rfl rfl (by rfl) (by simp [Act.eval]) Tryz.func21 (by kernel_rfl) (by kernel_rfl) (hstop _ g3) fun g' y v' hR=>?_
  obtain ⟨rfl,hS⟩:=hR
  have k3:v'.cell? ⟨w.heap.size+1,1,none⟩=some (.pointer (some ⟨m,0,none⟩)):=by
    rw [← k2]
    unfold World.cell?
    rw [hS.keep _ (by simp) (by simp;omega)]
  refine .regionEnd ZZ.ok (CW.seq ZZ.ok (ZZ.plain (by kernel_rfl) (by simp [base]) fun Q u9 hu9 ho9 hQ=>?_))
  obtain ⟨bo,hbo⟩:=hS.old
  have hz:=hS.thaw
  rw [← cell_heap hu9] at k3 hbo
  rw [← frozen_heap hu9] at hz
  go_wp2
  have hfin:∀ v2:World,v2.heap=(u9.setCell ⟨m,3,none⟩ (.bool true)).heap->v2.os=u9.os->R g' v2:=fun v2 h1 h2=>hS.fin v2 (by rw [h1];simp only [World.setCell,hu9]) (by rw [h2,ho9])
  refine CW.seq ZZ.ok (ZZ.plain (by kernel_rfl) (by simp [base]) fun Q ua hua hoa hQ=>?_)
  go_wp2
  exact CW.ret ZZ.ok rfl rfl Tryz.func35 (y:=.bool true) (fun w=>results_one (fn:=Tryz.f35) (x:=4) rfl _ _ w) (.done ⟨rfl,_,rfl,rfl,hfin _ hua hoa⟩)
end
end
section
variable {Ω:World}
def stopM (j:Nat) (r:Role):Prop:=r=(3*j+2,0,0)∨r=(3*j+3,0,0)
theorem not_stopM {j:Nat}{r:Role}(h:r.1≠3*j+2)(h':r.1≠3*j+3):¬ stopM j r:=by
  rintro (rfl|rfl)
  · exact h rfl
  · exact h' rfl
theorem not_stopM1 {j:Nat}{r:Role}(h:r.2.1≠0):¬ stopM j r:=by
  rintro (rfl|rfl)
  · exact h rfl
  · exact h rfl
section
variable {g g':List Rec}{w u v':World}{Λ:Lab}{Wb on oc j c m D N:Nat}{v:Value}{ps:List (Nat × Nat)}{oo:Option Addr}{W A B C:Int}{stop:Bool}
variable {l:List Msg}{T:List Txn}{sh tx bg:Value}{ss ts bs:List Value}{dsh dbag dtxs:Value}{rs rb rt:List Value}{cp s r:Nat}
theorem stop_at (hP:Pr w Λ j c m D N l T stop sh tx bg ss ts bs dsh dbag dtxs rs rb rt cp s r)(hg:Grown w u)(hch:v'.heap[D]? = some (.chan cp #[] true s r false))(hold:∀ x,x<u.heap.size->x≠D->v'.heap[x]? = u.heap[x]?)(hsz:u.heap.size<=v'.heap.size)(hos:v'.os=u.os){G:List Rec->Prop}(hG:G g') :
    StopAt w u m (fun g2 w2=>G g2/\Fr Λ Λ (stopM j) w w2/\PairAny w2 Λ j c m D true) g' v':=by
  have hD:D<w.heap.size:=hP.done.lt
  have hm:m<w.heap.size:=hP.doc.blk.lt
  have hne:m≠D:=hP.doc.blk.ne hP.done (by simp)
  have hold':∀ x,x<w.heap.size->x≠D->v'.heap[x]? = w.heap[x]?:=fun x hx hxD=>(hold x (by have:=hg.size;omega) hxD).trans (hg.heap x hx)
  have am:Mem.At v' Λ (3*j+2,0,0) m (.cells #[dsh,dbag,dtxs,.bool stop] 51 (0,0)):=⟨(hold' m hm hne).trans hP.doc.blk.obj,hP.doc.blk.lab⟩
  refine ⟨fun x h1 h2=>hold x h2 (by omega),am.thaw (by simp),⟨_,am.cell rfl⟩,fun v2 h1 h2=>⟨hG,?_⟩⟩
  have f:Fr Λ Λ (stopM j) w v2:=by
    refine ⟨?_,fun x hx hn=>?_,fun _ _=>rfl,?_⟩
    · rw [h1,Mem.setCell_size];have:=hg.size;omega
    · have e1:x≠D:=fun e=>hn (.inr (by rw [e,hP.done.lab]))
      have e2:x≠m:=fun e=>hn (.inl (by rw [e,hP.doc.blk.lab]))
      rw [h1,Mem.setCell_ne e2]
      exact hold' x hx e1
    · rw [h2,hos,hg.os]
  have f1:∀ q:Role,q.1=3*j+1->¬ stopM j q:=fun q hq=>not_stopM (by omega) (by omega)
  have f0:¬ stopM j still:=not_stopM (by simp [still]) (by simp [still])
  refine ⟨f,N,l,T,sh,tx,bg,ss,ts,bs,dsh,dbag,dtxs,rs,rb,rt,cp,s,r,hP.clu.fr f f1,⟨?_,hP.doc.shards.fr f (not_stopM1 (by simp)),hP.doc.bag.fr f (not_stopM1 (by simp)),hP.doc.txs.fr f (not_stopM1 (by simp))⟩,hP.msgs.fr f f0,hP.refs.fr f f0,hP.ok,hP.oneB,hP.oneR,hP.txs.fr f f0,hP.txOk,fun i hi=>?_,fun i hi=>?_,?_,hP.N1,hP.N4,hP.T60,hP.l400⟩
  · have a2:=am.set 3 (.bool true)
    refine ⟨?_,a2.lab⟩
    rw [h1]
    exact a2.obj
  · obtain ⟨b,mm,W',R',fz,k1,k2⟩:=hP.shC i hi
    exact ⟨b,mm,W',R',fz,k1,k2.blk.fr f (not_stopM1 (by simp)),k2.vals.fr f (not_stopM1 (by simp)),k2.locks.fr f (not_stopM1 (by simp))⟩
  · obtain ⟨b,k1,k2⟩:=hP.shD i hi
    exact ⟨b,k1,k2.blk.fr f (not_stopM1 (by simp)),k2.vals.fr f (not_stopM1 (by simp))⟩
  · refine ⟨?_,hP.done.lab⟩
    rw [h1,Mem.setCell_ne (Ne.symm hne)]
    exact hch
theorem zz_stopped (hW : -9223372036854775808<=W/\W<=9223372036854775807)(h:Wd w Λ Wb v ps)(hn:0<ps.length)(hps:ps.length<=2199023255552)(hcm:ps[pkN W ps.length]? = some (c,m))(hP:PairAny w Λ j c m D stop)
    (hr:stop=false->∃ r ∈ g,r.live=true/\r.cnt=r.ms.length/\r.c=c/\r.D=D) :
    CWCall (ZZ Ω) g 35 #[.pointer (some ⟨Wb,0,none⟩),.agg #[.int .i64 10,.int .i64 W,.int .i64 A,.int .i64 B,.int .i64 C,.slice oo on oc]] w fun g' y w'=>y=.bool true/\g'=(if stop=true then g else shutRec D g)/\Fr Λ Λ (stopM j) w w'/\PairAny w' Λ j c m D true:=by
  obtain ⟨N,l,T,sh,tx,bg,ss,ts,bs,dsh,dbag,dtxs,rs,rb,rt,cp,s,rr,hP⟩:=hP
  refine zz_step_stop hW h hn hps hcm fun u hg=>?_
  have am:∀ {o:Obj},w.heap[c]? = some o->u.heap[c]? = some o:=fun h=>(hg.heap c hP.clu.blk.lt).trans h
  have ac:Mem.At u Λ (3*j+1,0,0) c _:=⟨am hP.clu.blk.obj,hP.clu.blk.lab⟩
  have hd:u.heap[D]? = _:=(hg.heap D hP.done.lt).trans hP.done.obj
  have m0:=ac.cell (i:=0) rfl
  have m5:=ac.cell (i:=5) rfl
  have mz:u.frozen? ⟨c,0,none⟩=false:=ac.thaw (by simp)
  cases stop with
  | false=>
    obtain ⟨r,h1,h2,h3,rfl,rfl⟩:=hr rfl
    refine fun b cs=>(zz_stop (Ω:=Ω) h1 h2 h3 m0 mz m5 hd b cs).mono fun g' fr' cs' v' ⟨k1,y,k2,k3,k4,k5⟩=>⟨k1,y,k2,k4,?_⟩
    exact stop_at (G:=fun g2=>g2=if false=true then g else shutRec r.D g) hP hg k5.chan k5.old k5.size k5.os (by rw [if_neg (by decide)];exact k3)
  | true=>
    refine fun b cs=>(zz_stop_off (Ω:=Ω) m0 mz m5 hd b cs).mono fun g' fr' cs' v' ⟨k1,y,k2,k3,k4,k5⟩=>⟨k1,y,k2,k4,?_⟩
    exact stop_at (G:=fun g2=>g2=if true=true then g else shutRec D g) hP hg ((k5.heap D (by have:=hg.size;have:=hP.done.lt;omega)).trans hd) (fun x hx _=>k5.heap x hx) k5.size k5.os (by rw [if_pos rfl];exact k3)
end
end
section
variable {Ω:World}
section
variable {w:World}
theorem lone_refNew_bad {N:Int}(h:N<1∨4<N):Calls Tryz.L 16 #[.int .i64 N] w fun e w'=>e=.returned (.tuple #[.pointer none,.int .i64 1])/\w'.heap=w.heap/\w'.os=w.os:=by
  go_enter LL.func16,Tryz.ntmps16
  rcases h with h|h
  · have h1:decide (N<1)=true:=by simp;omega
    go_wp2
    go_ret2
    exact ⟨rfl,rfl,rfl⟩
  · by_cases h1:N<1
    · omega
    · have h2:decide (N > 4)=true:=by simp;omega
      go_wp2
      go_ret2
      exact ⟨rfl,rfl,rfl⟩
end
section
variable {g:List Rec}{v:World}{f:FuncId}{args:Array Value}{R:Value->World->Prop}
theorem zz_lone (hsp:spB f=false)(hbl:((Tryz.FL)[f]?).any (fun fn=>!fn.body.isNone)=true)(hcl:∀ u:World,u.heap=v.heap->u.os=v.os->Calls Tryz.L f args u fun e w'=>∃ y,e=.returned y/\R y w') :
    CWCall (ZZ Ω) g f args v fun g' y w'=>g'=g/\R y w':=fun b cs=>by
  refine .calls ZZ.ok (fun h=>?_) hbl fun t0 _=>Calls.mono (hcl (retape v t0) rfl rfl) ?_
  · have h':f=90∨f=91∨deadFn f=true:=h
    have:spB f=true:=by
      unfold spB
      rcases h' with rfl|rfl|h'
      · rfl
      · rfl
      · rw [h'];simp
    rw [hsp] at this
    cases this
  · rintro e u ⟨y,rfl,hR⟩
    exact ⟨y,rfl,.done ⟨rfl,y,rfl,rfl,hR⟩⟩
theorem sp35:spB 35=false:=by decide
theorem bl35:((Tryz.FL)[35]?).any (fun fn=>!fn.body.isNone)=true:=by kernel_rfl
end
end
section
variable {Ω:World}
theorem slotPs:Slot 96 134 2 16:=⟨by kernel_rfl,by kernel_rfl,by decide⟩
theorem pairL_app (ps:List (Nat × Nat))(c m:Nat):pairL (ps ++ [(c,m)])=pairL ps ++ [.pointer (some ⟨c,0,none⟩),.pointer (some ⟨m,0,none⟩)]:=by
  unfold pairL
  rw [List.flatMap_append]
  simp
def newM (r:Role):Prop:=r=rWd∨r=rPs
theorem not_newM {r:Role}(h:r.2.2=0):¬ newM r:=by
  rintro (rfl|rfl)
  · simp [rWd] at h
  · simp [rPs] at h
theorem not_newM1 {r:Role}(h:r.1≠0):¬ newM r:=by
  rintro (rfl|rfl)
  · exact h rfl
  · exact h rfl
section
variable {g:List Rec}{w:World}{Λ:Lab}{E:Nat->Addr}{Wb on oc j:Nat}{v:Value}{ps:List (Nat × Nat)}{oo:Option Addr}{W A B C:Int}
set_option maxHeartbeats 4000000 in
theorem zz_step_new_bad (h:Wd w Λ Wb v ps)(hE:w.cell? ⟨0,0,none⟩=some (errV (E 0)))(hA:A<1∨4<A) :
    CWCall (ZZ Ω) g 35 #[.pointer (some ⟨Wb,0,none⟩),.agg #[.int .i64 1,.int .i64 W,.int .i64 A,.int .i64 B,.int .i64 C,.slice oo on oc]] w fun g' y w'=>y=.bool true/\g'=g/\Grown w w':=by
  have x0:w.cell? ⟨Wb,0,none⟩=some v:=h.blk.cell rfl
  refine ZZ.body (tmps:=#[.pointer (some ⟨Wb,0,none⟩),.agg #[.int .i64 1,.int .i64 W,.int .i64 A,.int .i64 B,.int .i64 C,.slice oo on oc],undef,undef,undef,undef,undef,undef,undef,undef,undef,undef,undef,undef,undef,undef,undef,undef,undef,undef,undef,undef,undef,undef,undef,undef,undef,undef,undef,undef,undef,undef,undef,undef,undef,undef,undef,undef,undef,undef,undef,undef,undef,undef,undef,undef,undef,undef,undef,undef,undef,undef,undef,undef,undef,undef,undef,undef,undef,undef,undef,undef,undef,undef,undef,undef,undef,undef,undef,undef,undef,undef,undef,undef,undef,undef,undef,undef,undef,undef,undef,undef,undef,undef,undef,undef,undef,undef,undef,undef,undef,undef,undef,undef,undef,undef,undef,undef,undef,undef,undef,undef,undef,undef,undef,undef,undef,undef,undef,undef,undef,undef,undef,undef,undef,undef,undef,undef,undef,undef,undef,undef,undef,undef,undef,undef,undef,undef,undef,undef,undef,undef,undef,undef,undef,undef,undef,undef,undef,undef,undef,undef,undef,undef,undef,undef,undef,undef]) Tryz.func35 (by rfl) (by kernel_rfl) ?_
  intro b cs
  refine CW.seq ZZ.ok (ZZ.plain (by kernel_rfl) (by simp [base]) fun Q u0 hu0 ho0 hQ=>?_)
  have y0:(u0.alloc (.cells #[.int .i64 1,.int .i64 W,.int .i64 A,.int .i64 B,.int .i64 C,.slice oo on oc] 29)).cell? ⟨Wb,0,none⟩=some v:=cell_alloc (by rw [cell_heap hu0];exact x0)
  have z0:(u0.alloc (.cells #[.int .i64 1,.int .i64 W,.int .i64 A,.int .i64 B,.int .i64 C,.slice oo on oc] 29)).cell? ⟨u0.heap.size,0,none⟩=some (.int .i64 1):=alloc_cells u0 [.int .i64 1,.int .i64 W,.int .i64 A,.int .i64 B,.int .i64 C,.slice oo on oc] 29 0 _ rfl
  have z2:(u0.alloc (.cells #[.int .i64 1,.int .i64 W,.int .i64 A,.int .i64 B,.int .i64 C,.slice oo on oc] 29)).cell? ⟨u0.heap.size,2,none⟩=some (.int .i64 A):=alloc_cells u0 [.int .i64 1,.int .i64 W,.int .i64 A,.int .i64 B,.int .i64 C,.slice oo on oc] 29 2 _ rfl
  have g0:Grown w (u0.alloc (.cells #[.int .i64 1,.int .i64 W,.int .i64 A,.int .i64 B,.int .i64 C,.slice oo on oc] 29)):=(Grown.same hu0 ho0).trans (Grown.alloc _ _)
  have s0:u0.heap.size=w.heap.size:=by rw [hu0]
  rw [s0] at z0 z2
  have n1:(u0.alloc (.cells #[.int .i64 1,.int .i64 W,.int .i64 A,.int .i64 B,.int .i64 C,.slice oo on oc] 29)).heap.size=w.heap.size+1:=by rw [Mem.alloc_size,s0]
  go_wp2
  generalize u0.alloc (.cells #[.int .i64 1,.int .i64 W,.int .i64 A,.int .i64 B,.int .i64 C,.slice oo on oc] 29)=w1 at *
  clear hu0 ho0 s0
  refine CW.seq ZZ.ok (CW.seq ZZ.ok (ZZ.plain (by kernel_rfl) (by simp [base]) fun Q u1 hu1 ho1 hQ=>?_))
  rw [← cell_heap hu1] at y0 z0 z2
  replace g0:=g0.trans (Grown.same hu1 ho1)
  rw [← hu1] at n1
  go_wp2
  clear hu1 ho1
  refine CW.cond (t:=true) ZZ.ok (by rfl) ?_
  simp only [if_true]
  refine CW.seq ZZ.ok (ZZ.pre [_,_] [_,_,_,_,_,_] (by kernel_rfl) (by simp [base]) fun Q u2 hu2 ho2 hQ=>?_)
  rw [← cell_heap hu2] at y0 z0 z2
  replace g0:=g0.trans (Grown.same hu2 ho2)
  rw [← hu2] at n1
  go_wp2
  clear hu2 ho2
  refine CW.callAt ZZ.ok (i:=2) (f:=14) (first:=#[]) (captured:=#[]) (args:=#[.int .i64 A]) rfl rfl (by simp [base]) rfl rfl (by rfl) (by simp [Act.eval]) Tryz.func14 (by kernel_rfl) (by kernel_rfl) (zz_pnew_bad (g0.cell hE) hA) fun g' y v' hR=>?_
  obtain ⟨rfl,rfl,hh,ho⟩:=hR
  rw [← cell_heap hh] at z2
  replace g0:=g0.trans (Grown.same hh ho)
  clear hh ho y0 z0 n1
  refine ZZ.rest (l:=[_,_]) (x:=_) (m:=[_,_,_,_,_]) rfl (by kernel_rfl) (by simp [base]) fun Q u3 hu3 ho3 hQ=>?_
  rw [← cell_heap hu3] at z2
  replace g0:=g0.trans (Grown.same hu3 ho3)
  go_wp2
  clear hu3 ho3
  refine CW.seq ZZ.ok (ZZ.pre [_,_] [_,_,_,_,_,_] (by kernel_rfl) (by simp [base]) fun Q u4 hu4 ho4 hQ=>?_)
  rw [← cell_heap hu4] at z2
  replace g0:=g0.trans (Grown.same hu4 ho4)
  go_wp2
  clear hu4 ho4
  refine ZZ.lone (i:=2) (f:=16) (first:=#[]) (captured:=#[]) (args:=#[.int .i64 A]) (R:=fun y w'=>y=.tuple #[.pointer none,.int .i64 1]/\w'.heap=u4.heap/\w'.os=u4.os) rfl rfl (by simp [base]) rfl rfl (by rfl) (by simp [Act.eval]) Tryz.func16 (by kernel_rfl) (by kernel_rfl) (by decide) (by kernel_rfl)
    (fun u h1 h2=>(lone_refNew_bad hA).mono fun e w' ⟨k1,k2,k3⟩=>⟨_,k1,rfl,by rw [k2];exact h1,by rw [k3];exact h2⟩) ?_
  rintro y u5 ⟨rfl,hh,ho⟩
  replace g0:=g0.trans (Grown.same hh ho)
  clear hh ho z2
  refine ZZ.rest (l:=[_,_]) (x:=_) (m:=[_,_,_,_,_]) rfl (by kernel_rfl) (by simp [base]) fun Q u6 hu6 ho6 hQ=>?_
  replace g0:=g0.trans (Grown.same hu6 ho6)
  go_wp2
  clear hu6 ho6
  refine CW.seq ZZ.ok (CW.seq ZZ.ok (ZZ.plain (by kernel_rfl) (by simp [base]) fun Q u7 hu7 ho7 hQ=>?_))
  replace g0:=g0.trans (Grown.same hu7 ho7)
  go_wp2
  clear hu7 ho7
  refine CW.cond (t:=false) ZZ.ok (by rfl) ?_
  simp only [if_false,Bool.false_eq_true]
  refine CW.skip ZZ.ok (CW.seq ZZ.ok (CW.seq ZZ.ok (ZZ.plain (by kernel_rfl) (by simp [base]) fun Q u8 hu8 ho8 hQ=>?_)))
  replace g0:=g0.trans (Grown.same hu8 ho8)
  go_wp2
  clear hu8 ho8
  refine CW.cond (t:=false) ZZ.ok (by rfl) ?_
  simp only [if_false,Bool.false_eq_true]
  refine CW.skip ZZ.ok (CW.seq ZZ.ok (ZZ.plain (by kernel_rfl) (by simp [base]) fun Q u9 hu9 ho9 hQ=>?_))
  replace g0:=g0.trans (Grown.same hu9 ho9)
  go_wp2
  exact CW.ret ZZ.ok rfl rfl Tryz.func35 (y:=.bool true) (fun w=>results_one (fn:=Tryz.f35) (x:=4) rfl _ _ w) (.done ⟨rfl,_,rfl,rfl,rfl,g0⟩)
end
end
section
variable {Ω:World}
def inI64 (x:Int):Prop:=-9223372036854775808<=x/\x<=9223372036854775807
def Script (w:World) (s:Value) (N:Nat):Prop:=
  (∃ a c,s=.slice a 0 c/\N=0)∨∃ b off cap,s=.slice (some ⟨b,off,none⟩) N cap/\∀ i,i<N->∃ (kd W A B C:Int) (sl:Value),
    w.cell? ⟨b,off+i*6,none⟩=some (.int .i64 kd)/\w.cell? ⟨b,off+i*6+1,none⟩=some (.int .i64 W)/\w.cell? ⟨b,off+i*6+2,none⟩=some (.int .i64 A)/\w.cell? ⟨b,off+i*6+3,none⟩=some (.int .i64 B)/\w.cell? ⟨b,off+i*6+4,none⟩=some (.int .i64 C)/\w.cell? ⟨b,off+i*6+5,none⟩=some sl /\
    inI64 kd/\inI64 W/\inI64 A/\inI64 B/\inI64 C/\OpsAt w sl
theorem CW.atRet {P:Program}{Z:Setting P}{g:Z.Gh}{cs:List Frame}{v:World}{X:Z.Gh->Frame->List Frame->World->Prop}{b:Frame}{a:Act}{k:List Item}(ok:Z.Ok)(h:CW Z g { b.at a (.code .ret :: k) with mode:=.returning } cs v X):CW Z g (b.at a (.code .ret :: k)) cs v X:=
  .ctl ok (fr':={ b.at a (.code .ret :: k) with mode:=.returning }) (fun w=>by simp [stepG,stepG.exec,Frame.at,G]) h
def EndsWith (f:FuncId) (y:Value) (cs:List Frame) (R:List Rec->World->Prop) (g:List Rec) (fr:Frame) (cs':List Frame) (v:World):Prop:=
  cs'=cs/\∃ A k,fr={ (base f).at ⟨A,[]⟩ k with mode:=.returning }/\A.getD 2 undef=y/\R g v
theorem ZZ.top {g:List Rec}{v:World}{cs:List Frame}{X:List Rec->Frame->List Frame->World->Prop}{f:FuncId}{fn:Func}{c:Code}{args tmps:Array Value}(hf:Tryz.prog.funcs[f]? = some fn)(hb:fn.body=some c)(ht:args++Array.replicate (fn.ntmps - args.size) undef=tmps)
    (h:CW (ZZ Ω) g ((base f).at ⟨tmps,[]⟩ [.code c]) cs v X):CW (ZZ Ω) g (Frame.enter Tryz.prog f args .normal) cs v X:=by
  have henter:Frame.enter Tryz.prog f args .normal=(base f).at ⟨tmps,[]⟩ [.code c]:=by
    rw [← ht]
    simp [Frame.enter,Frame.at,hf,hb,base]
  rw [henter]
  exact h
def AllDead (g:List Rec):Prop:=∀ r ∈ g,r.live=false
structure Fresh (v u:World) (Λ:Lab) (k c N D:Nat) (sh:Value) (ss:List Value):Prop where
  clu:Clu u Λ k c N 0 0 0 sh (.slice none 0 0) (.slice none 0 0) D ss [] []
  done:At u Λ still D (.chan 0 #[] false 0 0 false)
  low:∀ x,x<v.heap.size->Λ x=still
  high:∀ x,u.heap.size<=x->Λ x=still
  grown:Grown v u
  old:v.heap.size<=c/\v.heap.size<=D/\c≠D
theorem Grown.frS {w w':World}{Λ:Lab}(h:Grown w w'):Fr Λ Λ (fun _=>False) w w':=h.fr
theorem below_shut {g:List Rec}{n D:Nat}(h:Below g n):Below (shutRec D g) n:=fun r hr=>by
  obtain ⟨y,hy,_,h1,h2,h3,_⟩:=shutRec_mem hr
  rw [h1,h2,h3]
  exact h y hy
section
variable {g:List Rec}{v:World}{N:Nat}{E:Nat->Addr}{s:Value}{cs:List Frame}
end
end
section
variable {Ω:World}
section
variable {g:List Rec}{w:World}{Λ:Lab}{E:Nat->Addr}{Wb on oc j N:Nat}{v:Value}{ps:List (Nat × Nat)}{oo:Option Addr}{W B C:Int}
theorem PairAny.fr {w w':World}{Λ Λ':Lab}{M:Role->Prop}{j c m D:Nat}{stop:Bool}(h:PairAny w Λ j c m D stop)(f:Fr Λ Λ' M w w')(hm:∀ r:Role,r.1=3*j+1∨r.1=3*j+2∨r.1=3*j+3∨r=still->¬ M r):PairAny w' Λ' j c m D stop:=by
  obtain ⟨N,l,T,sh,tx,bg,ss,ts,bs,dsh,dbag,dtxs,rs,rb,rt,cp,s,r,h⟩:=h
  exact ⟨N,l,T,sh,tx,bg,ss,ts,bs,dsh,dbag,dtxs,rs,rb,rt,cp,s,r,h.fr f hm⟩
def Born (g:List Rec) (w:World) (Λ:Lab) (Wb j:Nat) (ps:List (Nat × Nat)) (g':List Rec) (w':World):Prop:=
  ∃ r m Λ' v',g'=r :: g/\r.live=true/\r.cnt=r.ms.length/\w.heap.size<=r.D/\Below g' w'.heap.size/\Fr Λ Λ' newM w w'/\Wd w' Λ' Wb v' (ps ++ [(r.c,m)])/\PairAny w' Λ' j r.c m r.D false
set_option maxHeartbeats 4000000 in
theorem zz_step_new (hΩ:Ω.heap.size<=w.heap.size)(hB:Below g w.heap.size)(h:Wd w Λ Wb v ps)(hps:ps.length<2199023255552)(h1:1<=N)(h4:N<=4) :
    CWCall (ZZ Ω) g 35 #[.pointer (some ⟨Wb,0,none⟩),.agg #[.int .i64 1,.int .i64 W,.int .i64 (N:Nat),.int .i64 B,.int .i64 C,.slice oo on oc]] w fun g' y w'=>y=.bool true/\Born g w Λ Wb j ps g' w':=by
  have x0:w.cell? ⟨Wb,0,none⟩=some v:=h.blk.cell rfl
  refine ZZ.body (tmps:=#[.pointer (some ⟨Wb,0,none⟩),.agg #[.int .i64 1,.int .i64 W,.int .i64 (N:Nat),.int .i64 B,.int .i64 C,.slice oo on oc],undef,undef,undef,undef,undef,undef,undef,undef,undef,undef,undef,undef,undef,undef,undef,undef,undef,undef,undef,undef,undef,undef,undef,undef,undef,undef,undef,undef,undef,undef,undef,undef,undef,undef,undef,undef,undef,undef,undef,undef,undef,undef,undef,undef,undef,undef,undef,undef,undef,undef,undef,undef,undef,undef,undef,undef,undef,undef,undef,undef,undef,undef,undef,undef,undef,undef,undef,undef,undef,undef,undef,undef,undef,undef,undef,undef,undef,undef,undef,undef,undef,undef,undef,undef,undef,undef,undef,undef,undef,undef,undef,undef,undef,undef,undef,undef,undef,undef,undef,undef,undef,undef,undef,undef,undef,undef,undef,undef,undef,undef,undef,undef,undef,undef,undef,undef,undef,undef,undef,undef,undef,undef,undef,undef,undef,undef,undef,undef,undef,undef,undef,undef,undef,undef,undef,undef,undef,undef,undef,undef,undef,undef,undef,undef,undef,undef]) Tryz.func35 (by rfl) (by kernel_rfl) ?_
  intro b cs
  refine CW.seq ZZ.ok (ZZ.plain (by kernel_rfl) (by simp [base]) fun Q u0 hu0 ho0 hQ=>?_)
  have y0:(u0.alloc (.cells #[.int .i64 1,.int .i64 W,.int .i64 (N:Nat),.int .i64 B,.int .i64 C,.slice oo on oc] 29)).cell? ⟨Wb,0,none⟩=some v:=cell_alloc (by rw [cell_heap hu0];exact x0)
  have z0:(u0.alloc (.cells #[.int .i64 1,.int .i64 W,.int .i64 (N:Nat),.int .i64 B,.int .i64 C,.slice oo on oc] 29)).cell? ⟨u0.heap.size,0,none⟩=some (.int .i64 1):=alloc_cells u0 [.int .i64 1,.int .i64 W,.int .i64 (N:Nat),.int .i64 B,.int .i64 C,.slice oo on oc] 29 0 _ rfl
  have z2:(u0.alloc (.cells #[.int .i64 1,.int .i64 W,.int .i64 (N:Nat),.int .i64 B,.int .i64 C,.slice oo on oc] 29)).cell? ⟨u0.heap.size,2,none⟩=some (.int .i64 N):=alloc_cells u0 [.int .i64 1,.int .i64 W,.int .i64 (N:Nat),.int .i64 B,.int .i64 C,.slice oo on oc] 29 2 _ rfl
  have g0:Grown w (u0.alloc (.cells #[.int .i64 1,.int .i64 W,.int .i64 (N:Nat),.int .i64 B,.int .i64 C,.slice oo on oc] 29)):=(Grown.same hu0 ho0).trans (Grown.alloc _ _)
  have s0:u0.heap.size=w.heap.size:=by rw [hu0]
  rw [s0] at z0 z2
  have n1:(u0.alloc (.cells #[.int .i64 1,.int .i64 W,.int .i64 (N:Nat),.int .i64 B,.int .i64 C,.slice oo on oc] 29)).heap.size=w.heap.size+1:=by rw [Mem.alloc_size,s0]
  go_wp2
  generalize u0.alloc (.cells #[.int .i64 1,.int .i64 W,.int .i64 (N:Nat),.int .i64 B,.int .i64 C,.slice oo on oc] 29)=w1 at *
  clear hu0 ho0 s0
  refine CW.seq ZZ.ok (CW.seq ZZ.ok (ZZ.plain (by kernel_rfl) (by simp [base]) fun Q u1 hu1 ho1 hQ=>?_))
  rw [← cell_heap hu1] at y0 z0 z2
  replace g0:=g0.trans (Grown.same hu1 ho1)
  rw [← hu1] at n1
  go_wp2
  clear hu1 ho1
  refine CW.cond (t:=true) ZZ.ok (by rfl) ?_
  simp only [if_true]
  refine CW.seq ZZ.ok (ZZ.pre [_,_] [_,_,_,_,_,_] (by kernel_rfl) (by simp [base]) fun Q u2 hu2 ho2 hQ=>?_)
  rw [← cell_heap hu2] at y0 z0 z2
  replace g0:=g0.trans (Grown.same hu2 ho2)
  rw [← hu2] at n1
  go_wp2
  clear hu2 ho2
  have hB2:Below g u2.heap.size:=hB.mono g0.size
  have hpn:=zz_pnew (Ω:=Ω) (g:=g) (v:=u2) (N:=N) (Nat.le_trans hΩ g0.size) h1 h4 hB2
  refine CW.callAt ZZ.ok (i:=2) (f:=14) (first:=#[]) (captured:=#[]) (args:=#[.int .i64 (N:Nat)]) rfl rfl (by simp [base]) rfl rfl (by rfl) (by simp [Act.eval]) Tryz.func14 (by kernel_rfl) (by kernel_rfl) hpn fun g' y v1 hR=>?_
  obtain ⟨ms,pos,rfl,rfl,hA⟩:=hR
  clear hpn
  refine ZZ.rest (l:=[_,_]) (x:=_) (m:=[_,_,_,_,_]) rfl (by kernel_rfl) (by simp [base]) fun Q u3 hu3 ho3 hQ=>?_
  have hA3:=hid' (And.intro (hA.same hu3 ho3) (And.intro g0 (And.intro hB2 (And.intro n1 hA.len))))
  have gA:Grown u2 u3:=⟨by have:=hA3.out.1.size;omega,hA3.out.1.old,hA3.out.1.os⟩
  clear hA g0 hB2
  replace z2:=gA.cell z2
  replace y0:=gA.cell y0
  clear hu3 ho3 gA n1 z0
  go_wp2
  refine CW.seq ZZ.ok (ZZ.pre [_,_] [_,_,_,_,_,_] (by kernel_rfl) (by simp [base]) fun Q u4 hu4 ho4 hQ=>?_)
  rw [← cell_heap hu4] at z2 y0
  go_wp2
  refine ZZ.lone (i:=2) (f:=16) (first:=#[]) (captured:=#[]) (args:=#[.int .i64 (N:Nat)]) (R:=fun y w'=>∃ m sh ss,y=.tuple #[.pointer (some ⟨m,0,none⟩),.int .i64 0]/\NewRef u4 w' m N sh ss/\ss.length=N/\∀ i s,ss[i]? = some s->m<s/\RS w' i N s) rfl rfl (by simp [base]) rfl rfl (by rfl) (by simp [Act.eval]) Tryz.func16 (by kernel_rfl) (by kernel_rfl) (by decide) (by kernel_rfl)
    (fun u k1 k2=>(lone_refNewS N h1 h4).mono fun e w' ⟨m,sh,ss,q1,q2,q3,q4⟩=>⟨_,q1,m,sh,ss,rfl,⟨q2.cell,q2.row,(Grown.same k1 k2).trans q2.grown,by rw [← k1];exact q2.ge⟩,q3,q4⟩) ?_
  rintro y v2 ⟨m,sh,ss,rfl,hM,hl,hs⟩
  obtain ⟨fB,hP⟩:=pair_born (Λ:=Λ) (j:=j) h1 h4 hA3.out.1 hu4 ho4 hM hl hs
  have fW:Fr Λ (bornΛ j u2.heap.size v2 Λ) (fun _=>False) w v2:=(Grown.frS hA3.out.2.1).trans fB
  have hW2:=h.fr fW (fun z=>z) (fun z=>z)
  have hsz:u3.heap.size<=v2.heap.size:=by rw [← hu4];exact hM.grown.size
  clear fB hM hl hs hu4 ho4 y0 z2
  generalize bornΛ j u2.heap.size v2 Λ=Λ2 at *
  refine ZZ.rest (l:=[_,_]) (x:=_) (m:=[_,_,_,_,_]) rfl (by kernel_rfl) (by simp [base]) fun Q u6 hu6 ho6 hQ=>?_
  go_wp2
  refine CW.seq ZZ.ok (CW.seq ZZ.ok (ZZ.plain (by kernel_rfl) (by simp [base]) fun Q u7 hu7 ho7 hQ=>?_))
  go_wp2
  refine CW.cond (t:=false) ZZ.ok (by rfl) ?_
  simp only [if_false,Bool.false_eq_true]
  refine CW.skip ZZ.ok (CW.seq ZZ.ok (CW.seq ZZ.ok (ZZ.plain (by kernel_rfl) (by simp [base]) fun Q u8 hu8 ho8 hQ=>?_)))
  go_wp2
  refine CW.cond (t:=true) ZZ.ok (by rfl) ?_
  simp only [if_true]
  refine ZZ.plain (by kernel_rfl) (by simp [base]) fun Q u9 hu9 ho9 hQ=>?_
  have e9:u9.heap=v2.heap:=by rw [hu9,hu8,hu7,hu6]
  have o9:u9.os=v2.os:=by rw [ho9,ho8,ho7,ho6]
  clear hu9 hu8 hu7 hu6 ho9 ho8 ho7 ho6
  have f9:Fr Λ2 Λ2 (fun _=>False) v2 u9:=Fr.same e9 o9
  have hW9:=hW2.fr f9 (fun z=>z) (fun z=>z)
  obtain ⟨vo,vc,rfl⟩:=hW9.row.slice
  have y9:u9.cell? ⟨Wb,0,none⟩=_:=hW9.blk.cell rfl
  have hZ:=hid' (And.intro (fW.trans f9) (And.intro (hP.fr f9 fun _ _ z=>z) hW9))
  have hs9:u3.heap.size<=u9.heap.size:=by rw [e9];exact hsz
  clear fW hP hW2 hsz f9 hW9 e9 o9 h x0
  go_wp2_with (at_builtin;refine park ?_)
  have f10:Fr Λ2 Λ2 (fun _=>False) u9 (u9.alloc (.cells #[.pointer (some ⟨u2.heap.size+1,0,none⟩),.pointer (some ⟨m,0,none⟩)] 134)):=(Fr.refl _ _ _).alloc _
  have HN:=hid' (fun (i:Nat) (u:Value) (hu : [Value.pointer (some ⟨u2.heap.size+1,0,none⟩),.pointer (some ⟨m,0,none⟩)][i]? = some u)=>alloc_cells u9 [.pointer (some ⟨u2.heap.size+1,0,none⟩),.pointer (some ⟨m,0,none⟩)] 134 i u hu)
  refine append_list (c:=1) (p:=⟨u9.heap.size,0,none⟩) (m:=1) (news:=[.pointer (some ⟨u2.heap.size+1,0,none⟩),.pointer (some ⟨m,0,none⟩)]) slotPs slotPs.und _ _ rfl rfl (hZ.out.2.2.row.fr f10 fun z=>z) rfl rfl rfl HN.out (by simp [Value.oneCell']) (by unfold maxLen;omega) (by omega) (fun v' w2 Λ3 hF2 hR2=>?_)
  obtain ⟨vo',vc',rfl⟩:=hR2.slice
  have hb2:=(hZ.out.2.2.blk.fr f10 fun z=>z).fr hF2 (by simp [rWd,rPs])
  have hz2:w2.frozen? ⟨Wb,0,none⟩=false:=hb2.thaw (by simp)
  have hy2:=hb2.cell (i:=0) rfl
  have hY:=hid' (And.intro (hb2.set 0 (.slice vo' (ps.length+1) vc')) (And.intro hF2 hR2))
  clear hF2 hR2 hb2 y9
  go_wp2
  refine CW.seq ZZ.ok (ZZ.plain (by kernel_rfl) (by simp [base]) fun Q ua hua hoa hQ=>?_)
  go_wp2
  have fS:Fr Λ3 Λ3 newM w2 ua:=by
    have f1:Fr Λ3 Λ3 newM w2 (w2.setCell ⟨Wb,0,none⟩ (.slice vo' (ps.length+1) vc')):=Fr.set' (.inl hY.out.1.lab)
    exact f1.trans (Fr.same hua hoa)
  have fA:Fr Λ2 Λ3 newM u9 ua:=(f10.mono fun _ z=>z.elim).trans ((hY.out.2.1.mono fun _ z=>.inr z).trans fS)
  refine CW.ret ZZ.ok rfl rfl Tryz.func35 (y:=.bool true) (fun w=>results_one (fn:=Tryz.f35) (x:=4) rfl _ _ w) (.done ⟨rfl,_,rfl,rfl,⟨u2.heap.size+2,u2.heap.size+1,u2.heap.size,ms,N,true⟩,m,Λ3,.slice vo' (ps.length+1) vc',rfl,rfl,hA3.out.2.2.2.2.symm,?_,?_,?_,?_,?_⟩)
  · have:=hA3.out.2.2.2.1
    show w.heap.size<=u2.heap.size
    omega
  · have hz:u3.heap.size<=ua.heap.size:=Nat.le_trans hs9 fA.size
    have hz2:u2.heap.size+3<=u3.heap.size:=hA3.out.1.size
    intro r hr
    rcases List.mem_cons.1 hr with rfl|hr
    · refine ⟨by show u2.heap.size<_;omega,by show u2.heap.size+1<_;omega,fun x hx=>?_⟩
      obtain ⟨i,hi⟩:=List.mem_iff_getElem?.1 hx
      obtain ⟨m',R,h⟩:=hA3.out.1.shards i x hi
      exact Nat.lt_of_lt_of_le (Array.getElem?_eq_some_iff.1 h.work).1 hz
    · have:=hA3.out.2.2.1 r hr
      exact ⟨by omega,by omega,fun x hx=>by have:=this.2.2 x hx;omega⟩
  · exact (hZ.out.1.mono fun _ z=>z.elim).trans fA
  · refine ⟨hY.out.1.fr (Fr.same (M:=fun _=>False) hua hoa) fun z=>z,?_⟩
    have hr:=hY.out.2.2.fr (Fr.set' (w:=w2) (Λ:=Λ3) (M:=(· = rWd)) (a:=⟨Wb,0,none⟩) (y:=.slice vo' (ps.length+1) vc') hY.out.1.lab) (by simp [rWd,rPs])
    have hr2:=hr.fr (Fr.same (M:=fun _=>False) hua hoa) fun z=>z
    rw [pairL_app,List.length_append]
    exact hr2
  · refine hZ.out.2.1.fr fA fun r hr=>?_
    rcases hr with hr|hr|hr|rfl
    · exact not_newM1 (by omega)
    · exact not_newM1 (by omega)
    · exact not_newM1 (by omega)
    · exact not_newM rfl
end
end
end Go.Proofs.Shardlog
