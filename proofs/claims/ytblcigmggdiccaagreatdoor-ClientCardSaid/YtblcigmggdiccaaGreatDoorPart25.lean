/- Several texts in one: StepC, StepD, StepX, StepY, StepZ, UpTo, TameClient, TameGive, TameStart. -/
import Derived.Test.YtblcigmggdiccaaGreatDoorPart22
import Derived.Test.YtblcigmggdiccaaGreatDoorPart20
import Derived.Test.YtblcigmggdiccaaGreatDoorPart23
import Derived.Test.YtblcigmggdiccaaGreatDoorPart24
import Derived.Test.YtblcigmggdiccaaGreatDoorPart02
set_option linter.unusedSectionVars false
set_option linter.unusedSimpArgs false
set_option linter.unusedVariables false
set_option maxRecDepth 100000
namespace Go.Proofs.Shardlog
open Go Go.Conc Go.Tame Go.Proofs Go.RowKit Go.Mem
section
section
variable {w:World}{Λ:Lab}{E:Nat->Addr}{j c m Wb D on oc:Nat}{stop:Bool}{v:Value}{ps:List (Nat × Nat)}{oo:Option Addr}{K W A B C:Int}
set_option maxHeartbeats 8000000 in
theorem lone_step_other (h1:K≠1)(h2:K≠2)(h3:K≠3)(h4:K≠4)(h5:K≠5)(h6:K≠6)(h7:K≠7)(h8:K≠8)(h9:K≠9)(h10:K≠10)(hW : -9223372036854775808<=W/\W<=9223372036854775807)(h:Wd w Λ Wb v ps)(hn:0<ps.length)(hps:ps.length<=2199023255552)(hcm:ps[pkN W ps.length]? = some (c,m)) :
    Calls Tryz.L 35 #[.pointer (some ⟨Wb,0,none⟩),.agg #[.int .i64 K,.int .i64 W,.int .i64 A,.int .i64 B,.int .i64 C,.slice oo on oc]] w fun e w'=>e=.returned (.bool true)/\Fr Λ (stpΛ w Λ) (fun _=>False) w w':=by
  have hpk:=hid' (fun u:World=>lone_pick (w:=u) hW hn (by omega))
  generalize pkN W ps.length=p at *
  obtain ⟨g1,g2⟩:=pairL_get ps p _ hcm
  obtain ⟨gp,cap,rfl,_⟩:=h.row.some hn
  have x0:w.cell? ⟨Wb,0,none⟩=some (.slice (some ⟨gp,0,none⟩) ps.length cap):=h.blk.cell rfl
  have x1:w.cell? ⟨gp,p*2,none⟩=some (.pointer (some ⟨c,0,none⟩)):=h.row.cell rfl g1
  have x2:w.cell? ⟨gp,p*2+1,none⟩=some (.pointer (some ⟨m,0,none⟩)):=h.row.cell rfl g2
  have y0:(stpW w ⟨K,W,A,B,C,oo,on,oc⟩).cell? ⟨Wb,0,none⟩=some (.slice (some ⟨gp,0,none⟩) ps.length cap):=cell_alloc x0
  have y1:(stpW w ⟨K,W,A,B,C,oo,on,oc⟩).cell? ⟨gp,p*2,none⟩=some (.pointer (some ⟨c,0,none⟩)):=cell_alloc x1
  have y2:(stpW w ⟨K,W,A,B,C,oo,on,oc⟩).cell? ⟨gp,p*2+1,none⟩=some (.pointer (some ⟨m,0,none⟩)):=cell_alloc x2
  have hp:p<ps.length:=(List.getElem?_eq_some_iff.1 hcm).1
  have ho:=hid' (And.intro (stp_o (w:=w) (Λ:=Λ) (c:=c) (m:=m) (x:=⟨K,W,A,B,C,oo,on,oc⟩)) (stp_p (w:=w) (Λ:=Λ) (c:=c) (m:=m) (x:=⟨K,W,A,B,C,oo,on,oc⟩)))
  clear h g1 g2
  unfold stpW Stp.cells at y0 y1 y2
  go_enter LL.func35,Tryz.ntmps35
  go_wp2_with fail
  have n0:=World.new_ne _ _ y0
  have n1:=World.new_ne _ _ y1
  have n2:=World.new_ne _ _ y2
  go_region_held3 (fun u=>u.cell? ⟨Wb,0,none⟩=some (.slice (some ⟨gp,0,none⟩) ps.length cap)/\u.cell? ⟨w.heap.size,1,none⟩=some (.int .i64 W)/\u.cell? ⟨gp,p*2,none⟩=some (.pointer (some ⟨c,0,none⟩))/\u.cell? ⟨gp,p*2+1,none⟩=some (.pointer (some ⟨m,0,none⟩))) (first|go_keep)
    (first
      | (go_at_call 15;refine (hpk.out _).mono ?_;rintro e w6 ⟨rfl,rfl⟩))
  all_goals go_wp2
  all_goals go_ret
  all_goals exact ⟨rfl,stpFr (x:=⟨K,W,A,B,C,oo,on,oc⟩)⟩
set_option maxHeartbeats 8000000 in
theorem lone_step_none (h1:K≠1)(h:Wd w Λ Wb v ps)(hn:ps.length=0) :
    Calls Tryz.L 35 #[.pointer (some ⟨Wb,0,none⟩),.agg #[.int .i64 K,.int .i64 W,.int .i64 A,.int .i64 B,.int .i64 C,.slice oo on oc]] w fun e w'=>e=.returned (.bool true)/\Fr Λ Λ (fun _=>False) w w':=by
  obtain ⟨vo,vc,rfl⟩:=h.row.slice
  have x0:w.cell? ⟨Wb,0,none⟩=some (.slice vo ps.length vc):=h.blk.cell rfl
  rw [hn] at x0
  have y0:(stpW w ⟨K,W,A,B,C,oo,on,oc⟩).cell? ⟨Wb,0,none⟩=some (.slice vo 0 vc):=cell_alloc x0
  clear h
  unfold stpW Stp.cells at y0
  go_enter LL.func35,Tryz.ntmps35
  go_wp2
  go_ret
  exact ⟨rfl,Fr.alloc' _ _⟩
end
end
section
section
variable {w:World}{Λ:Lab}{E:Nat->Addr}{j c m Wb D on oc:Nat}{stop:Bool}{v:Value}{ps:List (Nat × Nat)}{oo:Option Addr}{K W A B C:Int}
theorem own_sliceV {w:World}{base size n:Nat}{e:TypeId}{v:Value}{xs:List Value}(h:w.ownsRow base e size v n xs):∃ o c,v=.slice o n c:=by
  rcases h.2 with ⟨rfl,rfl⟩|⟨g,cap,cur,rfl,_⟩
  · exact ⟨_,_,rfl⟩
  · exact ⟨_,_,rfl⟩
theorem Grown.fr' {w w':World}(g:Grown w w'):Fr Λ Λ (fun _=>False) w w':=⟨g.size,fun x hx _=>g.heap x hx,fun _ _=>rfl,g.os⟩
def newΛ (w:World) (Λ:Lab):Lab:=fun x=>if x<w.heap.size then Λ x else still
theorem newFr {w':World}(g:Grown w w'):Fr Λ (newΛ w Λ) (fun _=>False) w w':=(Grown.fr' g).relab fun x hx=>if_pos hx
theorem new_row {w':World}{base size n:Nat}{e:TypeId}{v:Value}{xs:List Value}(h:w'.ownsRow base e size v n xs)(hb:w.heap.size<=base):Row w' (newΛ w Λ) still e size v n xs:=
  ⟨own_zero h,fun b hb'=>if_neg (by have:=(h.lt b hb').1;omega)⟩
set_option maxHeartbeats 8000000 in
theorem lone_step_sub (hW : -9223372036854775808<=W/\W<=9223372036854775807)(h:Wd w Λ Wb v ps)(hn:0<ps.length)(hps:ps.length<=2199023255552)(hcm:ps[pkN W ps.length]? = some (c,m))(hops:OpsAt w (.slice oo on oc))
    (hsub:∀ (u:World) (y z:Value) (k:Nat) (o:Nat->OpD),k<=5864062014805->(∀ i,keptOp (o i)=o i)->Grown w u->Row u (newΛ w Λ) still 65 3 y k (clL (lst o k))->Row u (newΛ w Λ) still 61 3 z k (refL (lst o k))->Calls Tryz.L 18 #[.pointer (some ⟨c,0,none⟩),y] u (SubOut u (newΛ w Λ) j c m D stop z)) :
    Calls Tryz.L 35 #[.pointer (some ⟨Wb,0,none⟩),.agg #[.int .i64 2,.int .i64 W,.int .i64 A,.int .i64 B,.int .i64 C,.slice oo on oc]] w (StepOut w Λ j c m D stop):=by
  have gU:Grown w (stpU w ⟨2,W,A,B,C,oo,on,oc⟩ c m):=⟨(stpFr (Λ:=Λ) (w:=w) (c:=c) (m:=m) (x:=⟨2,W,A,B,C,oo,on,oc⟩)).size,fun x hx=>(stpFr (Λ:=Λ) (w:=w) (c:=c) (m:=m) (x:=⟨2,W,A,B,C,oo,on,oc⟩)).old x hx fun z=>z,rfl⟩
  have hkp:=hid' (lone_keptV (hops.grown gU))
  have hS:=hid' hsub
  clear hops hsub
  have hpk:=hid' (fun u:World=>lone_pick (w:=u) hW hn (by omega))
  generalize pkN W ps.length=p at *
  obtain ⟨g1,g2⟩:=pairL_get ps p _ hcm
  obtain ⟨gp,cap,rfl,_⟩:=h.row.some hn
  have x0:w.cell? ⟨Wb,0,none⟩=some (.slice (some ⟨gp,0,none⟩) ps.length cap):=h.blk.cell rfl
  have x1:w.cell? ⟨gp,p*2,none⟩=some (.pointer (some ⟨c,0,none⟩)):=h.row.cell rfl g1
  have x2:w.cell? ⟨gp,p*2+1,none⟩=some (.pointer (some ⟨m,0,none⟩)):=h.row.cell rfl g2
  have y0:(stpW w ⟨2,W,A,B,C,oo,on,oc⟩).cell? ⟨Wb,0,none⟩=some (.slice (some ⟨gp,0,none⟩) ps.length cap):=cell_alloc x0
  have y1:(stpW w ⟨2,W,A,B,C,oo,on,oc⟩).cell? ⟨gp,p*2,none⟩=some (.pointer (some ⟨c,0,none⟩)):=cell_alloc x1
  have y2:(stpW w ⟨2,W,A,B,C,oo,on,oc⟩).cell? ⟨gp,p*2+1,none⟩=some (.pointer (some ⟨m,0,none⟩)):=cell_alloc x2
  have hp:p<ps.length:=(List.getElem?_eq_some_iff.1 hcm).1
  have ho:=hid' (And.intro (stp_o (w:=w) (Λ:=Λ) (c:=c) (m:=m) (x:=⟨2,W,A,B,C,oo,on,oc⟩)) (stp_p (w:=w) (Λ:=Λ) (c:=c) (m:=m) (x:=⟨2,W,A,B,C,oo,on,oc⟩)))
  clear h g1 g2
  unfold stpW Stp.cells at y0 y1 y2
  go_enter LL.func35,Tryz.ntmps35
  go_wp2_with fail
  have n0:=World.new_ne _ _ y0
  have n1:=World.new_ne _ _ y1
  have n2:=World.new_ne _ _ y2
  go_region_held3 (fun u=>u.cell? ⟨Wb,0,none⟩=some (.slice (some ⟨gp,0,none⟩) ps.length cap)/\u.cell? ⟨w.heap.size,1,none⟩=some (.int .i64 W)/\u.cell? ⟨gp,p*2,none⟩=some (.pointer (some ⟨c,0,none⟩))/\u.cell? ⟨gp,p*2+1,none⟩=some (.pointer (some ⟨m,0,none⟩))) (first|go_keep)
    (first
      | (go_at_call 15;refine (hpk.out _).mono ?_;rintro e w6 ⟨rfl,rfl⟩))
  all_goals go_wp2_with fail
  all_goals refine hkp.out.mono ?_
  all_goals
    rintro e w1 ⟨z,rfl,k,o,hk,ho1,hz,g1⟩
    obtain ⟨zo,zc,rfl⟩:=own_sliceV hz
    have gw1:Grown w w1:=gU.trans g1
    have q1:w1.cell? ⟨w.heap.size+1,0,none⟩=some (.pointer (some ⟨c,0,none⟩)):=(ho.out.2.fr (Grown.fr' g1) fun z=>z).cell rfl
    have hz2:∀ u:World,u.heap=w1.heap->u.ownsRow (stpU w ⟨2,W,A,B,C,oo,on,oc⟩ c m).heap.size 61 3 (.slice zo k zc) k (refRow o k):=fun u hu=>own_more hz (Nat.le_refl _) fun _ _=>by rw [hu]
    have hgv:=hid' (fun (u:World) (hu:u.heap=w1.heap) (hos:u.os=w1.os)=>(lone_givenV (w:=u) hk ho1 (hz2 u hu)).mono (R':=fun e w6=>∃ yo yc,e=.returned (.slice yo k yc)/\w6.cell? ⟨w.heap.size+1,0,none⟩=some (.pointer (some ⟨c,0,none⟩)) /\
        Hid (Calls Tryz.L 18 #[.pointer (some ⟨c,0,none⟩),.slice yo k yc] w6 fun e w2=>∃ (t a:Int),e=.returned (.tuple #[.int .i64 t,.int .i64 a])/\w2.cell? ⟨w.heap.size+1,0,none⟩=some (.pointer (some ⟨c,0,none⟩))/\w2.cell? ⟨w.heap.size+1,1,none⟩=some (.pointer (some ⟨m,0,none⟩)) /\
          Hid (∀ w3:World,w3.heap=w2.heap->w3.os=w2.os->Calls Tryz.L 20 #[.pointer (some ⟨m,0,none⟩),.slice zo k zc] w3 fun e w4=>e=.returned (.tuple #[.int .i64 t,.int .i64 a])/\∃ Λ4,Fr Λ Λ4 (stepM j) w w4/\PairAny w4 Λ4 j c m D stop)))
        fun e w6 ⟨y,he,hy,g6⟩=>by
          subst he
          obtain ⟨yo,yc,rfl⟩:=own_sliceV hy
          have g16:Grown w1 w6:=(Grown.same hu hos).trans g6
          have gw6:Grown w w6:=gw1.trans g16
          have hb6:At w6 (newΛ w Λ) still (w.heap.size+1) (.cells #[.pointer (some ⟨c,0,none⟩),.pointer (some ⟨m,0,none⟩)] 134):=⟨(ho.out.2.fr (Grown.fr' (g1.trans g16)) fun z=>z).obj,if_neg (by omega)⟩
          have hz6:w6.ownsRow (stpU w ⟨2,W,A,B,C,oo,on,oc⟩ c m).heap.size 61 3 (.slice zo k zc) k (refRow o k):=own_more hz (Nat.le_refl _) fun b hb=>g16.heap b (hz.lt b hb).2
          refine ⟨yo,yc,rfl,hb6.cell rfl,(hS.out w6 (.slice yo k yc) (.slice zo k zc) k o hk ho1 gw6 (new_row hy (by rw [hu];exact gw1.size)) (by rw [refL_lst];exact new_row hz6 gU.size)).mono ?_⟩
          rintro e w2 ⟨t,a,Λ2,rfl,f2,hdoc⟩
          have hb2:=hb6.fr f2 not_stepM
          refine ⟨t,a,rfl,hb2.cell rfl,hb2.cell rfl,fun w3 h3 o3=>(hdoc w3 h3 o3).mono ?_⟩
          rintro e w4 ⟨k1,Λ4,k2,k3⟩
          exact ⟨k1,Λ4,((newFr gw6).mono fun _ z=>z.elim).trans (f2.trans k2),k3⟩)
    clear hz gw1 g1 hkp hz2
    go_wp2_with fail
  all_goals
    go_region_held3 (fun u=>u.cell? ⟨w.heap.size+1,0,none⟩=some (.pointer (some ⟨c,0,none⟩))) (first|go_keep|assumption)
      (first
        | (go_at_call 19;refine (hgv.out w1.drew rfl rfl).mono ?_;rintro e w6 ⟨yo,yc,rfl,q6,hc⟩)
        | (go_at_call 18;refine hc.out.mono ?_;rintro e w2 ⟨t,a,rfl,q7,q8,hC⟩))
  all_goals
    go_wp2_with (go_at_call 20;refine (hC.out w2 rfl rfl).mono ?_)
    rintro e w4 ⟨rfl,Λ4,hF,hP⟩
    have hZ:=hid' (And.intro hF hP)
    clear hF hP hC
    go_wp2
    go_ret
    exact ⟨rfl,Λ4,hZ.out.1,hZ.out.2⟩
end
end
section
variable {Ω:World}
theorem StepOut.of {w w':World}{Λ Λ':Lab}{j c m D:Nat}{stop:Bool}(h:PairAny w Λ j c m D stop)(f:Fr Λ Λ' (fun _=>False) w w'):StepOut w Λ j c m D stop (.returned (.bool true)) w':=
  ⟨rfl,Λ',f.mono fun _ z=>z.elim,h.fr f fun _ _ z=>z⟩
theorem kept_wrap {x:OpD}(h:keptOp x=x):IntKind.i64.wrap x.key=x.key/\IntKind.i64.wrap x.val=x.val:=by
  unfold keptOp at h
  have h1:IntKind.u8.wrap x.key=x.key:=congrArg OpD.key h
  have h2:IntKind.i32.wrap x.val=x.val:=congrArg OpD.val h
  constructor
  · rw [← h1]
    simp only [IntKind.wrap,IntKind.bits,IntKind.signed]
    simp
    omega
  · rw [← h2]
    simp only [IntKind.wrap,IntKind.bits,IntKind.signed]
    simp
    omega
section
variable {w:World}{Λ:Lab}{E:Nat->Addr}{j c m Wb D on oc:Nat}{stop:Bool}{v:Value}{ps:List (Nat × Nat)}{oo:Option Addr}{K W A B C:Int}
theorem lone_step_pair (hE:Errs w Λ E)(hW : -9223372036854775808<=W/\W<=9223372036854775807)(h:Wd w Λ Wb v ps)(hn:0<ps.length)(hps:ps.length<=2199023255552)(hcm:ps[pkN W ps.length]? = some (c,m))(hP:PairAny w Λ j c m D stop)(hops:OpsAt w (.slice oo on oc))(h1:K≠1)(h10:K≠10)(h3:K=3->A=1∨A=3∨A=4) :
    Calls Tryz.L 35 #[.pointer (some ⟨Wb,0,none⟩),.agg #[.int .i64 K,.int .i64 W,.int .i64 A,.int .i64 B,.int .i64 C,.slice oo on oc]] w (StepOut w Λ j c m D stop):=by
  have fU:∀ x:Stp,Fr Λ (stpΛ w Λ) (fun _=>False) w (stpU w x c m):=fun x=>stpFr
  have eU:∀ x:Stp,Errs (stpU w x c m) (stpΛ w Λ) E:=fun x=>hE.fr (fU x) fun z=>z
  have pU:∀ x:Stp,PairAny (stpU w x c m) (stpΛ w Λ) j c m D stop:=fun x=>hP.fr (fU x) fun _ _ z=>z
  by_cases k2:K=2
  · subst k2
    refine lone_step_sub hW h hn hps hcm hops fun u y z k o hk ho g hy hz=>?_
    obtain ⟨N,l,T,sh,tx,bg,ss,ts,bs,dsh,dbag,dtxs,rs,rb,rt,cp,s,r,hp⟩:=hP.fr (newFr g) fun _ _ z=>z
    refine pair_submit (hE.fr (newFr g) fun z=>z) hp hy hz hk fun x hx=>?_
    obtain ⟨i,_,rfl⟩:=List.mem_map.1 hx
    exact kept_wrap (ho i)
  by_cases k3:K=3
  · subst k3
    refine lone_step_do hW h hn hps hcm ?_
    obtain ⟨N,l,T,sh,tx,bg,ss,ts,bs,dsh,dbag,dtxs,rs,rb,rt,cp,s,r,hp⟩:=pU ⟨3,W,A,B,C,oo,on,oc⟩
    rcases h3 rfl with rfl|rfl|rfl
    · exact pair_again (eU _) hp
    · exact pair_drop (eU _) hp
    · exact pair_copy (eU _) hp
  by_cases hK:K=4∨K=5∨K=6∨K=7∨K=8∨K=9
  · exact lone_step_ask hK hW h hn hps hcm (pair_asked hK (pU _))
  exact (lone_step_other h1 k2 k3 (fun z=>hK (by omega)) (fun z=>hK (by omega)) (fun z=>hK (by omega)) (fun z=>hK (by omega)) (fun z=>hK (by omega)) (fun z=>hK (by omega)) h10 hW h hn hps hcm).mono fun e w' ⟨q1,q2⟩=>by
    subst q1
    exact StepOut.of hP q2
end
end
section
variable {Ω:World}
structure Ent where
  c:Nat
  m:Nat
  D:Nat
  stop:Bool
def pairs (qs:List Ent):List (Nat × Nat):=qs.map fun e=>(e.c,e.m)
structure Inv (v0 w:World) (Λ:Lab) (E:Nat->Addr) (Wb:Nat) (v:Value) (qs:List Ent) (g:List Rec):Prop where
  wd:Wd w Λ Wb v (pairs qs)
  prs:∀ (j:Nat) (e:Ent),qs[j]? = some e->PairAny w Λ j e.c e.m e.D e.stop
  errs:Errs w Λ E
  grown:Grown v0 w
  low:∀ x,x<v0.heap.size->Λ x=still
  below:Below g w.heap.size
  live:∀ (j:Nat) (e:Ent),qs[j]? = some e->e.stop=false->∃ r ∈ g,r.live=true/\r.cnt=r.ms.length/\r.c=e.c/\r.D=e.D
  owns:∀ r ∈ g,r.live=true->∃ (j:Nat) (e:Ent),qs[j]? = some e/\e.D=r.D/\e.stop=false
structure StepOk (v0:World) (x:Stp):Prop where
  w:inI64 x.w
  a:inI64 x.a
  ops:OpsAt v0 (.slice x.oo x.on x.oc)
  kind:x.kind=3->x.a=1∨x.a=3∨x.a=4
section
variable {v0 w w':World}{Λ Λ':Lab}{E:Nat->Addr}{M:Role->Prop}{Wb j c m D:Nat}{v:Value}{qs:List Ent}{g g':List Rec}
theorem Inv.rest (h:Inv v0 w Λ E Wb v qs g)(f:Fr Λ Λ' M w w')(hm:¬ M still):Errs w' Λ' E/\Grown v0 w'/\(∀ x,x<v0.heap.size->Λ' x=still)/\Below g w'.heap.size:=by
  have hs:=h.grown.size
  refine ⟨h.errs.fr f hm,⟨Nat.le_trans hs f.size,fun x hx=>?_,f.os.trans h.grown.os⟩,fun x hx=>?_,h.below.mono f.size⟩
  · rw [f.old x (by omega) (by rw [h.low x hx];exact hm)]
    exact h.grown.heap x hx
  · rw [f.lab x (by omega)]
    exact h.low x hx
theorem Inv.fr (h:Inv v0 w Λ E Wb v qs g)(f:Fr Λ Λ' M w w')(hm:∀ r:Role,r.1≠0∨r.2.1=0/\r.2.2≠3->¬ M r):Inv v0 w' Λ' E Wb v qs g:=by
  obtain ⟨h1,h2,h3,h4⟩:=h.rest f (hm _ (.inr (by simp [still])))
  refine ⟨h.wd.fr f (hm _ (.inr (by simp [rWd]))) (hm _ (.inr (by simp [rPs]))),fun j e he=>(h.prs j e he).fr f fun r hr=>hm r ?_,h1,h2,h3,h4,h.live,h.owns⟩
  rcases hr with hr|hr|hr|rfl
  · exact .inl (by omega)
  · exact .inl (by omega)
  · exact .inl (by omega)
  · exact .inr (by simp [still])
theorem Inv.same (h:Inv v0 w Λ E Wb v qs g)(hh:w'.heap=w.heap)(ho:w'.os=w.os):Inv v0 w' Λ E Wb v qs g:=h.fr (Fr.same (M:=fun _=>False) hh ho) fun _ _ z=>z
theorem Inv.step {e:Ent}(h:Inv v0 w Λ E Wb v qs g)(he:qs[j]? = some e)(f:Fr Λ Λ' (stepM j) w w')(hP:PairAny w' Λ' j e.c e.m e.D e.stop):Inv v0 w' Λ' E Wb v qs g:=by
  obtain ⟨h1,h2,h3,h4⟩:=h.rest f not_stepM
  refine ⟨h.wd.fr f step_Wd.1 step_Wd.2,fun i x hi=>?_,h1,h2,h3,h4,h.live,h.owns⟩
  by_cases hj:i=j
  · subst hj
    rw [he] at hi
    cases hi
    exact hP
  · exact (h.prs i x hi).other f hj
theorem Inv.stop {e:Ent}(h:Inv v0 w Λ E Wb v qs g)(he:qs[j]? = some e)(f:Fr Λ Λ (stopM j) w w')(hP:PairAny w' Λ j e.c e.m e.D true):Inv v0 w' Λ E Wb v (qs.set j { e with stop:=true }) (if e.stop=true then g else shutRec e.D g):=by
  obtain ⟨h1,h2,h3,h4⟩:=h.rest f (not_stopM (by simp [still]) (by simp [still]))
  have hj:j<qs.length:=(List.getElem?_eq_some_iff.1 he).1
  have hne:∀ (i:Nat) (x:Ent),qs[i]? = some x->i≠j->x.D≠e.D:=fun i x hi hij hD=>by
    obtain ⟨N,l,T,sh,tx,bg,ss,ts,bs,dsh,dbag,dtxs,rs,rb,rt,cp,s,r,hp⟩:=h.prs i x hi
    obtain ⟨N',l',T',sh',tx',bg',ss',ts',bs',dsh',dbag',dtxs',rs',rb',rt',cp',s',r',hp'⟩:=h.prs j e he
    refine hp.done.ne hp'.done ?_ hD
    intro z
    have:=congrArg Prod.fst z
    simp only at this
    omega
  refine ⟨?_,fun i x hi=>?_,h1,h2,h3,?_,fun i x hi hx=>?_,fun r hr hl=>?_⟩
  · have e1:pairs (qs.set j { e with stop:=true })=pairs qs:=by
      unfold pairs
      refine List.ext_getElem? fun i=>?_
      rw [List.getElem?_map,List.getElem?_map,List.getElem?_set]
      by_cases hij:j=i
      · subst hij
        rw [he,if_pos rfl,if_pos hj]
        rfl
      · rw [if_neg hij]
    rw [e1]
    exact h.wd.fr f (not_stopM (by simp [rWd]) (by simp [rWd])) (not_stopM (by simp [rPs]) (by simp [rPs]))
  · rw [List.getElem?_set] at hi
    by_cases hij:j=i
    · subst hij
      rw [if_pos rfl,if_pos hj] at hi
      cases hi
      exact hP
    · rw [if_neg hij] at hi
      refine (h.prs i x hi).fr f fun r hr=>?_
      rcases hr with hr|hr|hr|rfl
      · exact not_stopM (by omega) (by omega)
      · exact not_stopM (by omega) (by omega)
      · exact not_stopM (by omega) (by omega)
      · exact not_stopM (by simp [still]) (by simp [still])
  · split
    · exact h4
    · exact below_shut h4
  · rw [List.getElem?_set] at hi
    by_cases hij:j=i
    · subst hij
      rw [if_pos rfl,if_pos hj] at hi
      cases hi
      cases hx
    · rw [if_neg hij] at hi
      obtain ⟨r,k1,k2,k3,k4,k5⟩:=h.live i x hi hx
      split
      · exact ⟨r,k1,k2,k3,k4,k5⟩
      · obtain ⟨y,q1,_,_,_,_,_,q7⟩:=mem_shutRec (D:=e.D) k1
        obtain rfl:=q7 (by rw [k5];exact hne i x hi (Ne.symm hij))
        exact ⟨y,q1,k2,k3,k4,k5⟩
  · have hr':∃ y ∈ g,y.live=true/\y.D=r.D/\(e.stop=false->y.D≠e.D):=by
      split at hr
      · rename_i hs
        exact ⟨r,hr,hl,rfl,fun z=>by rw [hs] at z;cases z⟩
      · obtain ⟨y,q1,q2,q3,q4,q5,q6,q7⟩:=shutRec_mem hr
        obtain ⟨q8,q9⟩:=q7 hl
        subst q8
        exact ⟨r,q1,hl,rfl,fun _=>q9⟩
    obtain ⟨y,q1,q2,q3,q4⟩:=hr'
    obtain ⟨i,x,p1,p2,p3⟩:=h.owns y q1 q2
    have hij:j≠i:=fun z=>by
      subst z
      rw [he] at p1
      cases p1
      exact q4 p3 p2.symm
    exact ⟨i,x,by rw [List.getElem?_set,if_neg hij];exact p1,p2.trans q3,p3⟩
theorem Inv.born {v':Value}{r:Rec}(h:Inv v0 w Λ E Wb v qs g)(hl:r.live=true)(hc:r.cnt=r.ms.length)(hB:Below (r :: g) w'.heap.size)(f:Fr Λ Λ' newM w w')(hW:Wd w' Λ' Wb v' (pairs qs ++ [(r.c,m)]))(hP:PairAny w' Λ' qs.length r.c m r.D false):Inv v0 w' Λ' E Wb v' (qs ++ [⟨r.c,m,r.D,false⟩]) (r :: g):=by
  obtain ⟨h1,h2,h3,h4⟩:=h.rest f (not_newM rfl)
  have hsnoc:∀ (i:Nat) (x:Ent),(qs ++ [⟨r.c,m,r.D,false⟩])[i]? = some x->qs[i]? = some x∨i=qs.length/\x=⟨r.c,m,r.D,false⟩:=fun i x hi=>by
    rw [List.getElem?_append] at hi
    split at hi
    · exact .inl hi
    · right
      rename_i hlt
      have:i - qs.length<1:=by simpa using (List.getElem?_eq_some_iff.1 hi).1
      have e:i=qs.length:=by omega
      subst e
      simp at hi
      exact ⟨rfl,hi.symm⟩
  refine ⟨?_,fun i x hi=>?_,h1,h2,h3,hB,fun i x hi hx=>?_,fun y hy hyl=>?_⟩
  · have e:pairs (qs ++ [⟨r.c,m,r.D,false⟩])=pairs qs ++ [(r.c,m)]:=by simp [pairs]
    rw [e]
    exact hW
  · rcases hsnoc i x hi with hi|⟨rfl,rfl⟩
    · refine (h.prs i x hi).fr f fun r hr=>?_
      rcases hr with hr|hr|hr|rfl
      · exact not_newM1 (by omega)
      · exact not_newM1 (by omega)
      · exact not_newM1 (by omega)
      · exact not_newM rfl
    · exact hP
  · rcases hsnoc i x hi with hi|⟨rfl,rfl⟩
    · obtain ⟨y,k1,k2⟩:=h.live i x hi hx
      exact ⟨y,List.mem_cons_of_mem _ k1,k2⟩
    · exact ⟨r,List.mem_cons_self,hl,hc,rfl,rfl⟩
  · rcases List.mem_cons.1 hy with rfl|hy
    · exact ⟨qs.length,⟨y.c,m,y.D,false⟩,by simp,rfl,rfl⟩
    · obtain ⟨i,x,p1,p2,p3⟩:=h.owns y hy hyl
      exact ⟨i,x,by rw [List.getElem?_append_left (List.getElem?_eq_some_iff.1 p1).1];exact p1,p2,p3⟩
def Stepped (v0 w:World) (Λ:Lab) (E:Nat->Addr) (Wb:Nat) (qs:List Ent) (g':List Rec) (w':World):Prop:=
  ∃ Λ' v' qs' M,Inv v0 w' Λ' E Wb v' qs' g'/\Fr Λ Λ' M w w'/\(∀ r:Role,r=(0,0,3)->¬ M r)/\qs'.length<=qs.length+1
theorem zz_step {x:Stp}(hΩ:Ω.heap.size<=v0.heap.size)(h:Inv v0 w Λ E Wb v qs g)(hx:StepOk v0 x)(hq:qs.length<2199023255552) :
    CWCall (ZZ Ω) g 35 #[.pointer (some ⟨Wb,0,none⟩),.agg x.cells.toArray] w fun g' y w'=>y=.bool true/\Stepped v0 w Λ E Wb qs g' w':=by
  obtain ⟨K,W,A,B,C,oo,on,oc⟩:=x
  obtain ⟨hW,hA,hops,h3⟩:=hx
  dsimp only at hW hA hops h3
  show CWCall (ZZ Ω) g 35 #[.pointer (some ⟨Wb,0,none⟩),.agg #[.int .i64 K,.int .i64 W,.int .i64 A,.int .i64 B,.int .i64 C,.slice oo on oc]] w _
  have hlen:(pairs qs).length=qs.length:=by simp [pairs]
  have hΩ':Ω.heap.size<=w.heap.size:=Nat.le_trans hΩ h.grown.size
  by_cases k1:K=1
  · subst k1
    by_cases hN:A<1∨4<A
    · refine fun b cs=>(zz_step_new_bad (Ω:=Ω) (g:=g) h.wd (h.errs.glob 0 (by decide) (by decide)) hN b cs).mono fun g' fr' cs' w' ⟨q1,y,q2,q3,q4,q5⟩=>⟨q1,y,q2,q3,Λ,v,qs,fun _=>False,?_,Grown.frS q5,fun _ _ z=>z,by omega⟩
      rw [show g'=g from q4]
      exact h.fr (Grown.frS q5) fun _ _ z=>z
    · obtain ⟨N,rfl⟩:∃ N:Nat,A=N:=⟨A.toNat,by omega⟩
      refine fun b cs=>(zz_step_new (Ω:=Ω) (g:=g) (j:=qs.length) hΩ' h.below h.wd (by omega) (by omega) (by omega) b cs).mono fun g' fr' cs' w' ⟨q1,y,q2,q3,r,m,Λ',v',p1,p2,p3,_,p5,p6,p7,p8⟩=>⟨q1,y,q2,q3,Λ',v',qs ++ [⟨r.c,m,r.D,false⟩],newM,?_,p6,fun r hr=>?_,by simp⟩
      · rw [show g'=r :: g from p1] at p5 ⊢
        exact h.born p2 p3 p5 p6 p7 p8
      · subst hr
        rintro (z|z) <;> simp [rWd,rPs] at z
  by_cases hn:qs.length=0
  · refine fun b cs=>(zz_lone (Ω:=Ω) (g:=g) (R:=fun y w'=>y=.bool true/\Fr Λ Λ (fun _=>False) w w') sp35 bl35 (fun u hu ho=>?_) b cs).mono fun g' fr' cs' w' ⟨q1,y,q2,q3,q4,q5⟩=>⟨q1,y,q2,q4,Λ,v,qs,fun _=>False,?_,q5,fun _ _ z=>z,by omega⟩
    · have f0:Fr Λ Λ (fun _=>False) w u:=Fr.same hu ho
      exact (lone_step_none k1 (h.wd.fr f0 (fun z=>z) fun z=>z) (by omega)).mono fun e w' ⟨p1,p2⟩=>⟨_,p1,rfl,f0.trans p2⟩
    · rw [show g'=g from q3]
      exact h.fr q5 fun _ _ z=>z
  have hp:pkN W (pairs qs).length<qs.length:=by rw [hlen];exact pkN_lt W (by omega)
  obtain ⟨e,he⟩:∃ e,qs[pkN W (pairs qs).length]? = some e:=⟨_,List.getElem?_eq_getElem hp⟩
  have hcm:(pairs qs)[pkN W (pairs qs).length]? = some (e.c,e.m):=by
    unfold pairs at he ⊢
    rw [List.getElem?_map,he]
    rfl
  have hP:=h.prs _ _ he
  obtain ⟨j,hj⟩:∃ j,pkN W (pairs qs).length=j:=⟨_,rfl⟩
  rw [hj] at he hP
  by_cases k10:K=10
  · subst k10
    refine fun b cs=>(zz_stopped (Ω:=Ω) (g:=g) hW h.wd (by omega) (by omega) hcm hP (fun hs=>h.live j e he hs) b cs).mono fun g' fr' cs' w' ⟨q1,y,q2,q3,q4,q5,q6⟩=>⟨q1,y,q2,q3,Λ,v,qs.set j { e with stop:=true },stopM j,?_,q5,fun r hr=>?_,by simp⟩
    · rw [show g'=_ from q4]
      exact h.stop he q5 q6
    · subst hr
      exact not_stopM (by simp) (by simp)
  · refine fun b cs=>(zz_lone (Ω:=Ω) (g:=g) (R:=fun y w'=>y=.bool true/\∃ Λ',Fr Λ Λ' (stepM j) w w'/\PairAny w' Λ' j e.c e.m e.D e.stop) sp35 bl35 (fun u hu ho=>?_) b cs).mono fun g' fr' cs' w' ⟨q1,y,q2,q3,q4,Λ',q5,q6⟩=>⟨q1,y,q2,q4,Λ',v,qs,stepM j,?_,q5,fun r hr=>?_,by omega⟩
    · have f0:Fr Λ Λ (fun _=>False) w u:=Fr.same hu ho
      exact (lone_step_pair (h.errs.fr f0 fun z=>z) hW (h.wd.fr f0 (fun z=>z) fun z=>z) (by omega) (by omega) hcm (hP.fr f0 fun _ _ z=>z) (hops.grown (h.grown.trans (Grown.same hu ho))) k1 k10 h3).mono fun e' w' ⟨p1,Λ',p2,p3⟩=>⟨_,p1,rfl,Λ',(f0.mono fun _ z=>z.elim).trans p2,p3⟩
    · rw [show g'=g from q3]
      exact h.step he q5 q6
    · subst hr
      rintro (z|z|z)
      · simp at z
      · simp at z
      · exact z.2 rfl
end
end
section
variable {Ω:World}
structure SInv (v0 w:World) (Λ:Lab) (Wb:Nat) (v:Value) (qs:List Ent) (g:List Rec) (k:Nat):Prop where
  wd:Wd w Λ Wb v (pairs qs)
  prs:∀ (j:Nat) (e:Ent),qs[j]? = some e->k<=j->PairAny w Λ j e.c e.m e.D e.stop
  grown:Grown v0 w
  low:∀ x,x<v0.heap.size->Λ x=still
  live:∀ (j:Nat) (e:Ent),qs[j]? = some e->k<=j->e.stop=false->∃ r ∈ g,r.live=true/\r.cnt=r.ms.length/\r.c=e.c/\r.D=e.D
  owns:∀ r ∈ g,r.live=true->∃ (j:Nat) (e:Ent),qs[j]? = some e/\k<=j/\e.D=r.D/\e.stop=false
def slots36 (p i:Value) (J:Nat->Value):Array Value:=#[p,J 1,i,J 3,J 4,J 5,J 6,J 7,J 8,J 9,J 10,J 11,J 12,J 13,J 14,J 15,J 16,J 17,J 18,J 19,J 20]
theorem slots36_of {A:Array Value}{s i:Value}(h:A=slots36 s i fun i=>A.getD i undef):∃ J,(⟨A,[]⟩:Act)=⟨slots36 s i J,[]⟩:=⟨_,congrArg (fun t=>(⟨t,[]⟩:Act)) h⟩
section
variable {v0 w w':World}{Λ Λ':Lab}{E:Nat->Addr}{M:Role->Prop}{Wb j c m D k:Nat}{v:Value}{qs:List Ent}{g g':List Rec}
theorem Inv.sInv (h:Inv v0 w Λ E Wb v qs g):SInv v0 w Λ Wb v qs g 0:=
  ⟨h.wd,fun j e he _=>h.prs j e he,h.grown,h.low,fun j e he _ hs=>h.live j e he hs,fun r hr hl=>by
    obtain ⟨j,e,h1,h2,h3⟩:=h.owns r hr hl
    exact ⟨j,e,h1,Nat.zero_le _,h2,h3⟩⟩
theorem SInv.same (h:SInv v0 w Λ Wb v qs g k)(hh:w'.heap=w.heap)(ho:w'.os=w.os):SInv v0 w' Λ Wb v qs g k:=by
  have f:Fr Λ Λ (fun _=>False) w w':=Fr.same hh ho
  exact ⟨h.wd.fr f (fun z=>z) fun z=>z,fun j e he hk=>(h.prs j e he hk).fr f fun _ _ z=>z,h.grown.trans (Grown.same hh ho),h.low,h.live,h.owns⟩
theorem SInv.dead (h:SInv v0 w Λ Wb v qs g k)(hk:qs.length<=k):AllDead g:=fun r hr=>by
  cases hl:r.live with
  | false=>rfl
  | true=>
    obtain ⟨j,e,h1,h2,_⟩:=h.owns r hr hl
    have:=(List.getElem?_eq_some_iff.1 h1).1
    omega
theorem SInv.next {e:Ent}(h:SInv v0 w Λ Wb v qs g k)(he:qs[k]? = some e)(f:Fr Λ Λ (· = (3*k+3,0,0)) w w'):SInv v0 w' Λ Wb v qs (if e.stop=true then g else shutRec e.D g) (k+1):=by
  have hne:∀ (i:Nat) (x:Ent),qs[i]? = some x->k+1<=i->x.D≠e.D:=fun i x hi hij hD=>by
    obtain ⟨N,l,T,sh,tx,bg,ss,ts,bs,dsh,dbag,dtxs,rs,rb,rt,cp,s,r,hp⟩:=h.prs i x hi (by omega)
    obtain ⟨N',l',T',sh',tx',bg',ss',ts',bs',dsh',dbag',dtxs',rs',rb',rt',cp',s',r',hp'⟩:=h.prs k e he (Nat.le_refl _)
    refine hp.done.ne hp'.done ?_ hD
    intro z
    have:=congrArg Prod.fst z
    simp only at this
    omega
  have h0:∀ q:Role,q.1≠3*k+3->¬ q=(3*k+3,0,0):=fun q hq z=>hq (by rw [z])
  refine ⟨h.wd.fr f (h0 _ (by simp [rWd])) (h0 _ (by simp [rPs])),fun j x hj hk=>(h.prs j x hj (by omega)).fr f fun r hr=>?_,⟨Nat.le_trans h.grown.size f.size,fun x hx=>?_,f.os.trans h.grown.os⟩,h.low,fun i x hi hk hx=>?_,fun r hr hl=>?_⟩
  · rcases hr with hr|hr|hr|rfl
    · exact h0 _ (by omega)
    · exact h0 _ (by omega)
    · exact h0 _ (by omega)
    · exact h0 _ (by simp [still])
  · rw [f.old x (by have:=h.grown.size;omega) (by rw [h.low x hx];exact h0 _ (by simp [still]))]
    exact h.grown.heap x hx
  · obtain ⟨r,k1,k2,k3,k4,k5⟩:=h.live i x hi (by omega) hx
    split
    · exact ⟨r,k1,k2,k3,k4,k5⟩
    · obtain ⟨y,q1,_,_,_,_,_,q7⟩:=mem_shutRec (D:=e.D) k1
      obtain rfl:=q7 (by rw [k5];exact hne i x hi hk)
      exact ⟨y,q1,k2,k3,k4,k5⟩
  · have hr':∃ y ∈ g,y.live=true/\y.D=r.D/\(e.stop=false->y.D≠e.D):=by
      split at hr
      · rename_i hs
        exact ⟨r,hr,hl,rfl,fun z=>by rw [hs] at z;cases z⟩
      · obtain ⟨y,q1,q2,q3,q4,q5,q6,q7⟩:=shutRec_mem hr
        obtain ⟨q8,q9⟩:=q7 hl
        subst q8
        exact ⟨r,q1,hl,rfl,fun _=>q9⟩
    obtain ⟨y,q1,q2,q3,q4⟩:=hr'
    obtain ⟨i,x,p1,p0,p2,p3⟩:=h.owns y q1 q2
    have hij:k≠i:=fun z=>by
      subst z
      rw [he] at p1
      cases p1
      exact q4 p3 p2.symm
    exact ⟨i,x,p1,by omega,p2.trans q3,p3⟩
theorem zz_next {e:Ent}(h:SInv v0 w Λ Wb v qs g k)(he:qs[k]? = some e) :
    CWCall (ZZ Ω) g 21 #[.pointer (some ⟨e.c,0,none⟩)] w fun g' y w'=>y=.tuple #[]/\SInv v0 w' Λ Wb v qs g' (k+1):=by
  obtain ⟨N,l,T,sh,tx,bg,ss,ts,bs,dsh,dbag,dtxs,rs,rb,rt,cp,s,rr,hP⟩:=h.prs k e he (Nat.le_refl _)
  have m0:=hP.clu.blk.cell (i:=0) rfl
  have m5:=hP.clu.blk.cell (i:=5) rfl
  have mz:w.frozen? ⟨e.c,0,none⟩=false:=hP.clu.blk.thaw (by simp)
  have hd:=hP.done.obj
  have hD:=hP.done.lab
  have hn:=fun (w':World) (f:Fr Λ Λ (· = (3*k+3,0,0)) w w')=>h.next he f
  have hlive:=h.live k e he (Nat.le_refl _)
  obtain ⟨ec,em,eD,es⟩:=e
  dsimp only at m0 m5 mz hd hD hlive
  cases es with
  | false=>
    obtain ⟨r,h1,h2,h3,rfl,rfl⟩:=hlive rfl
    refine fun b cs=>(zz_stop (Ω:=Ω) h1 h2 h3 m0 mz m5 hd b cs).mono fun g' fr' cs' v' ⟨k1,y,k2,k3,k4,k5⟩=>⟨k1,y,k2,k4,?_⟩
    rw [show g'=shutRec r.D g from k3]
    have:=hn v' ⟨k5.size,fun x hx hne=>k5.old x hx fun z=>hne (by rw [z,hD]),fun _ _=>rfl,k5.os⟩
    simpa using this
  | true=>
    refine fun b cs=>(zz_stop_off (Ω:=Ω) m0 mz m5 hd b cs).mono fun g' fr' cs' v' ⟨k1,y,k2,k3,k4,k5⟩=>⟨k1,y,k2,k4,?_⟩
    rw [show g'=g from k3]
    have:=hn v' k5.fr
    simpa using this
set_option maxHeartbeats 2000000 in
theorem zz_all (h:SInv v0 w Λ Wb v qs g 0)(hq:qs.length<=2199023255552) :
    CWCall (ZZ Ω) g 36 #[.pointer (some ⟨Wb,0,none⟩)] w fun g' y w'=>y=.tuple #[]/\AllDead g'/\Grown v0 w':=by
  refine ZZ.body (tmps:=#[.pointer (some ⟨Wb,0,none⟩),undef,undef,undef,undef,undef,undef,undef,undef,undef,undef,undef,undef,undef,undef,undef,undef,undef,undef,undef,undef]) Tryz.func36 (by rfl) (by kernel_rfl) ?_
  intro b cs
  refine CW.seq ZZ.ok (ZZ.plain (by kernel_rfl) (by simp [base]) fun Q u0 hu0 ho0 hQ=>?_)
  go_wp2
  have hlen:(pairs qs).length=qs.length:=by simp [pairs]
  refine CW.block ZZ.ok (CW.loopI ZZ.ok (fun n g' a v'=>∃ k,n=qs.length - k/\k<=qs.length/\(∃ J,a=⟨slots36 (.pointer (some ⟨Wb,0,none⟩)) (.int .i64 (k:Nat)) J,[]⟩)/\SInv v0 v' Λ Wb v qs g' k) (fun n ih g' a v' hI=>?_) qs.length _ _ _ ⟨0,rfl,Nat.zero_le _,slots36_of (by kernel_rfl),h.same hu0 ho0⟩)
  obtain ⟨k,rfl,hk,⟨J,rfl⟩,hS⟩:=hI
  obtain ⟨vo,vc,rfl⟩:=hS.wd.row.slice
  rw [hlen] at hS
  have hy:∀ u:World,u.heap=v'.heap->u.cell? ⟨Wb,0,none⟩=some (.slice vo qs.length vc):=fun u hu=>by
    rw [cell_heap hu]
    exact hS.wd.blk.cell rfl
  refine CW.seq ZZ.ok (CW.seq ZZ.ok (ZZ.plain (by kernel_rfl) (by simp [base]) fun Q u hu ho hQ=>?_))
  have y0:=hy u hu
  replace hS:=hS.same hu ho
  simp only [slots36]
  go_wp2
  by_cases hkn:k<qs.length
  · obtain ⟨e,he⟩:∃ e,qs[k]? = some e:=⟨_,List.getElem?_eq_getElem hkn⟩
    refine CW.cond (t:=true) ZZ.ok ?_ ?_
    · simp [Act.eval]
      omega
    simp only [if_true]
    have hee:(pairs qs)[k]? = some (e.c,e.m):=by
      unfold pairs
      rw [List.getElem?_map,he]
      rfl
    have hrow:Row u Λ rPs 134 2 (.slice vo (pairs qs).length vc) (pairs qs).length (pairL (pairs qs)):=by rw [hlen];exact hlen ▸ hS.wd.row
    obtain ⟨gp,cap,hsl,_⟩:=hrow.some (by omega)
    obtain ⟨q1,q2⟩:=pairL_get (pairs qs) k _ hee
    cases hsl
    have y1:=hrow.cell rfl q1
    refine CW.skip ZZ.ok (CW.seq ZZ.ok (CW.block ZZ.ok (ZZ.pre [_,_,_,_,_,_,_,_] [_] (by kernel_rfl) (by simp [base]) fun Q u1 hu1 ho1 hQ=>?_)))
    rw [← cell_heap hu1] at y0 y1
    replace hS:=hS.same hu1 ho1
    clear hu ho hu1 ho1 hrow q1 q2
    go_wp2
    refine CW.callAt ZZ.ok (i:=8) (f:=21) (first:=#[]) (captured:=#[]) (args:=#[.pointer (some ⟨e.c,0,none⟩)]) rfl rfl (by simp [base]) rfl rfl (by rfl) (by simp [Act.eval]) Tryz.func21 (by kernel_rfl) (by kernel_rfl) (zz_next hS he) fun g2 y v2 hR=>?_
    obtain ⟨rfl,hS2⟩:=hR
    refine .regionEnd ZZ.ok (CW.inBlock ZZ.ok (ZZ.plain (by kernel_rfl) (by simp [base]) fun Q u2 hu2 ho2 hQ=>?_))
    have hwk:IntKind.i64.wrap ((k:Int)+1)=k+1:=by simp only [IntKind.wrap,IntKind.bits,IntKind.signed];simp;omega
    go_wp2
    refine ih (qs.length - (k+1)) (by omega) _ _ _ ⟨k+1,rfl,by omega,slots36_of (by kernel_rfl),?_⟩
    rw [hlen]
    exact hS2.same hu2 ho2
  · obtain rfl:k=qs.length:=by omega
    refine CW.cond (t:=false) ZZ.ok ?_ ?_
    · simp [Act.eval]
    simp only [if_false,Bool.false_eq_true]
    refine CW.exit ZZ.ok rfl ?_
    exact .atEnd ZZ.ok (.leave ZZ.ok (fn:=Tryz.f36) (y:=.tuple #[]) rfl rfl (.inl rfl) Tryz.func36 (fun w _=>⟨results_none rfl _ _ _,fun e he=>by simp [results] at he⟩) (.done ⟨rfl,_,rfl,rfl,hS.dead (Nat.le_refl _),hS.grown⟩))
end
end
section
variable {Ω:World}
def rSc:Role:=(0,0,3)
theorem stL_get (l:List Stp)(k:Nat)(x:Stp)(h:l[k]? = some x)(j:Nat)(hj:j<6):(stL l)[k*6+j]? = x.cells[j]?:=by
  induction l generalizing k with
  | nil=>simp at h
  | cons y l ih=>
    have e:stL (y :: l)=y.cells++stL l:=rfl
    have h6:y.cells.length=6:=rfl
    rw [e]
    cases k with
    | zero=>
      simp at h
      subst h
      rw [List.getElem?_append_left (by omega)]
      congr 1
      omega
    | succ k=>
      simp at h
      rw [List.getElem?_append_right (by omega),h6,← ih k h]
      congr 1
      omega
def slots23 (s p i:Value) (J:Nat->Value):Array Value:=#[s,J 1,.int .i64 0,p,.int .i64 (-1),i,J 6,J 7,J 8,J 9,J 10,J 11,J 12,J 13,J 14,J 15,J 16,J 17,J 18,J 19,J 20,J 21,J 22,J 23,J 24,J 25,J 26,J 27,J 28,J 29,J 30]
theorem slots23_of {A:Array Value}{s p i:Value}(h:A=slots23 s p i fun i=>A.getD i undef):∃ J,(⟨A,[]⟩:Act)=⟨slots23 s p i J,[]⟩:=⟨_,congrArg (fun t=>(⟨t,[]⟩:Act)) h⟩
section
variable {v0 w w':World}{Λ Λ':Lab}{E:Nat->Addr}{Wb j c m D k:Nat}{s:Value}{g g':List Rec}{l:List Stp}
set_option maxHeartbeats 4000000 in
theorem zz_upto (hΩ:Ω.heap.size<=v0.heap.size)(hE:Errs w Λ E)(hG:Grown v0 w)(hlow:∀ x,x<v0.heap.size->Λ x=still)(hB:Below g w.heap.size)(hdead:AllDead g)(hR:Row w Λ rSc 29 6 s l.length (stL l))(hl:l.length<=2199023255552)(hok:∀ x ∈ l,StepOk v0 x) :
    CWCall (ZZ Ω) g 23 #[s] w fun g' y w'=>y=.int .i64 (-1)/\AllDead g'/\Grown v0 w':=by
  refine ZZ.body (tmps:=#[s,undef,undef,undef,undef,undef,undef,undef,undef,undef,undef,undef,undef,undef,undef,undef,undef,undef,undef,undef,undef,undef,undef,undef,undef,undef,undef,undef,undef,undef,undef]) Tryz.func23 (by rfl) (by kernel_rfl) ?_
  intro b cs
  refine CW.seq ZZ.ok (ZZ.plain (by kernel_rfl) (by simp [base]) fun Q u0 hu0 ho0 hQ=>?_)
  go_wp2
  refine CW.seq ZZ.ok (ZZ.plain (by kernel_rfl) (by simp [base]) fun Q u1 hu1 ho1 hQ=>?_)
  go_wp2
  have e1:u1.heap=w.heap:=hu1.trans hu0
  have o1:u1.os=w.os:=ho1.trans ho0
  have hsz:u1.heap.size=w.heap.size:=by rw [e1]
  clear hu1 hu0 ho1 ho0
  refine CW.seq ZZ.ok (ZZ.plain (by kernel_rfl) (by simp [base]) fun Q u2 hu2 ho2 hQ=>?_)
  go_wp2
  refine CW.seq ZZ.ok (CW.seq ZZ.ok (ZZ.plain (by kernel_rfl) (by simp [base]) fun Q u3 hu3 ho3 hQ=>?_))
  go_wp2
  have e3:u3.heap=(u1.alloc (.cells #[.slice none 0 0] 98)).heap:=hu3.trans hu2
  have o3:u3.os=w.os:=(ho3.trans ho2).trans o1
  clear hu3 hu2 ho3 ho2
  have f0:Fr Λ (fun x=>if x=w.heap.size then rWd else Λ x) (fun _=>False) w u3:=
    (((Fr.same (Λ:=Λ) (M:=fun _=>False) e1 o1).alloc (.cells #[.slice none 0 0] 98)).trans (Fr.same e3 (by rw [o3];exact o1.symm))).relab fun x hx=>if_neg (by omega)
  have aW:Mem.At u3 (fun x=>if x=w.heap.size then rWd else Λ x) rWd w.heap.size (.cells #[.slice none 0 0] 98 (0,0)):=⟨by rw [e3,Mem.alloc_get,if_pos hsz.symm],if_pos rfl⟩
  have hI0:Inv v0 u3 (fun x=>if x=w.heap.size then rWd else Λ x) E w.heap.size (.slice none 0 0) [] g:=by
    refine ⟨⟨aW,Row.nil _ _ _ _ _⟩,fun j e he=>by simp at he,hE.fr f0 fun z=>z,⟨Nat.le_trans hG.size f0.size,fun x hx=>?_,o3.trans hG.os⟩,fun x hx=>?_,hB.mono f0.size,fun j e he=>by simp at he,fun r hr hlv=>?_⟩
    · rw [f0.old x (by have:=hG.size;omega) fun z=>z]
      exact hG.heap x hx
    · rw [if_neg (by have:=hG.size;omega)]
      exact hlow x hx
    · rw [hdead r hr] at hlv
      cases hlv
  have hR3:=hR.fr f0 fun z=>z
  clear aW e3 o3 e1 o1 hR hE
  generalize (fun x=>if x=w.heap.size then rWd else Λ x)=Λ0 at *
  refine CW.block ZZ.ok (CW.loopI ZZ.ok (fun n g' a v'=>∃ (k:Nat) (Λ':Lab) (vw:Value) (qs:List Ent),n=l.length - k/\k<=l.length/\qs.length<=k/\(∃ J,a=⟨slots23 s (.pointer (some ⟨w.heap.size,0,none⟩)) (.int .i64 (k:Nat)) J,[]⟩)/\Inv v0 v' Λ' E w.heap.size vw qs g'/\Row v' Λ' rSc 29 6 s l.length (stL l)) (fun n ih g' a v' hI=>?_) l.length _ _ _ ⟨0,Λ0,_,[],rfl,Nat.zero_le _,Nat.zero_le _,slots23_of (by kernel_rfl),hI0,hR3⟩)
  obtain ⟨k,Λ',vw,qs,rfl,hk,hqk,⟨J,rfl⟩,hI,hR'⟩:=hI
  clear hI0 hR3 f0 hB hdead hG hlow
  obtain ⟨so,sc,rfl⟩:=hR'.slice
  have h60:decide ((k:Int)<1152921504606846976)=true:=by simp;omega
  by_cases hkn:k<l.length
  · obtain ⟨x,hx⟩:∃ x,l[k]? = some x:=⟨_,List.getElem?_eq_getElem hkn⟩
    have hd:decide ((k:Int)<(l.length:Int))=true:=by simp;omega
    obtain ⟨gp,cap,hsl,_⟩:=hR'.some (by omega)
    cases hsl
    refine CW.seq ZZ.ok (CW.seq ZZ.ok (ZZ.plain (by kernel_rfl) (by simp [base]) fun Q u hu ho hQ=>?_))
    simp only [slots23]
    go_wp2
    refine CW.cond (t:=true) ZZ.ok (by rfl) ?_
    simp only [if_true]
    have hxo:=hok x (List.mem_of_getElem? hx)
    have c0:=hR'.cell rfl ((stL_get l k x hx 0 (by decide)).trans rfl)
    have c1:=hR'.cell rfl ((stL_get l k x hx 1 (by decide)).trans rfl)
    have c2:=hR'.cell rfl ((stL_get l k x hx 2 (by decide)).trans rfl)
    have c3:=hR'.cell rfl ((stL_get l k x hx 3 (by decide)).trans rfl)
    have c4:=hR'.cell rfl ((stL_get l k x hx 4 (by decide)).trans rfl)
    have c5:=hR'.cell rfl ((stL_get l k x hx 5 (by decide)).trans rfl)
    rw [Nat.add_zero] at c0
    refine CW.skip ZZ.ok (CW.seq ZZ.ok (CW.block ZZ.ok (CW.seq ZZ.ok (ZZ.pre [_,_,_,_,_] [_,_] (by kernel_rfl) (by simp [base]) fun Q u1 hu1 ho1 hQ=>?_))))
    rw [← cell_heap (hu1.trans hu)] at c0 c1 c2 c3 c4 c5
    replace hI:=hI.same (hu1.trans hu) (ho1.trans ho)
    replace hR':=hR'.fr (Fr.same (M:=fun _=>False) (hu1.trans hu) (ho1.trans ho)) fun z=>z
    clear hu hu1 ho ho1
    go_wp2
    refine CW.callAt ZZ.ok (i:=5) (f:=35) (first:=#[]) (captured:=#[]) (args:=#[.pointer (some ⟨w.heap.size,0,none⟩),.agg x.cells.toArray]) rfl rfl (by simp [base]) rfl rfl (by rfl) (by simp [Act.eval,Stp.cells]) Tryz.func35 (by kernel_rfl) (by kernel_rfl) (zz_step hΩ hI hxo (by omega)) fun g2 y v2 hS=>?_
    obtain ⟨rfl,Λ2,vw2,qs2,M,hI2,f2,hm2,hq2⟩:=hS
    have hR2:=hR'.fr f2 (hm2 _ rfl)
    clear c0 c1 c2 c3 c4 c5 hR' hI f2
    refine ZZ.rest (l:=[_,_,_,_,_]) (x:=_) (m:=[_]) rfl (by kernel_rfl) (by simp [base]) fun Q u2 hu2 ho2 hQ=>?_
    go_wp2
    refine CW.seq ZZ.ok (ZZ.plain (by kernel_rfl) (by simp [base]) fun Q u3 hu3 ho3 hQ=>?_)
    go_wp2
    refine CW.cond (t:=false) ZZ.ok (by simp [Act.eval]) ?_
    simp only [if_false,Bool.false_eq_true]
    refine CW.skip ZZ.ok (CW.inBlock ZZ.ok (ZZ.plain (by kernel_rfl) (by simp [base]) fun Q u4 hu4 ho4 hQ=>?_))
    have hwk:IntKind.i64.wrap ((k:Int)+1)=k+1:=by simp only [IntKind.wrap,IntKind.bits,IntKind.signed];simp;omega
    go_wp2
    have e4:u4.heap=v2.heap:=(hu4.trans hu3).trans hu2
    have o4:u4.os=v2.os:=(ho4.trans ho3).trans ho2
    exact ih (l.length - (k+1)) (by omega) _ _ _ ⟨k+1,Λ2,vw2,qs2,rfl,by omega,by omega,slots23_of (by kernel_rfl),hI2.same e4 o4,hR2.fr (Fr.same (M:=fun _=>False) e4 o4) fun z=>z⟩
  · obtain rfl:k=l.length:=by omega
    refine CW.seq ZZ.ok (CW.seq ZZ.ok (ZZ.plain (by kernel_rfl) (by simp [base]) fun Q u hu ho hQ=>?_))
    simp only [slots23]
    go_wp2
    refine CW.cond (t:=false) ZZ.ok (by rfl) ?_
    simp only [if_false,Bool.false_eq_true]
    replace hI:=hI.same hu ho
    refine CW.exit ZZ.ok rfl (CW.seq ZZ.ok (ZZ.pre [_] [_] (by kernel_rfl) (by simp [base]) fun Q u1 hu1 ho1 hQ=>?_))
    replace hI:=hI.same hu1 ho1
    go_wp2
    refine CW.callAt ZZ.ok (i:=1) (f:=36) (first:=#[]) (captured:=#[]) (args:=#[.pointer (some ⟨w.heap.size,0,none⟩)]) rfl rfl (by simp [base]) rfl rfl (by rfl) (by simp [Act.eval]) Tryz.func36 (by kernel_rfl) (by kernel_rfl) (zz_all hI.sInv (by omega)) fun g2 y v2 hS=>?_
    obtain ⟨rfl,hd2,hg2⟩:=hS
    refine .regionEnd ZZ.ok (CW.seq ZZ.ok (ZZ.plain (by kernel_rfl) (by simp [base]) fun Q u2 hu2 ho2 hQ=>?_))
    go_wp2
    exact CW.ret ZZ.ok rfl rfl Tryz.func23 (y:=.int .i64 (-1)) (fun w=>results_one (fn:=Tryz.f23) (x:=2) rfl _ _ w) (.done ⟨rfl,_,rfl,rfl,hd2,hg2.trans (Grown.same hu2 ho2)⟩)
end
end
section
variable {Ω:World}
theorem script_list {w:World}{s:Value}{N:Nat}(h:Script w s N):∃ l:List Stp,l.length=N/\(∀ x ∈ l,inI64 x.w/\inI64 x.a/\OpsAt w (.slice x.oo x.on x.oc))/\((∃ a c,s=.slice a 0 c/\l = [])∨∃ g f cap,s=.slice (some ⟨g,f,none⟩) N cap/\∀ (j:Nat) (x:Stp),l[j]? = some x->x.At w g (f+j*6)):=by
  rcases h with ⟨a,c,rfl,rfl⟩|⟨g,f,cap,rfl,h⟩
  · refine ⟨[],rfl,?_,.inl ⟨a,c,rfl,rfl⟩⟩
    intro x hx
    simp at hx
  · have h2:∀ i,∃ x:Stp,i<N->x.At w g (f+i*6)/\inI64 x.w/\inI64 x.a/\OpsAt w (.slice x.oo x.on x.oc):=fun i=>by
      by_cases hi:i<N
      · obtain ⟨kd,W,A,B,C,sl,c0,c1,c2,c3,c4,c5,_,hW,hA,_,_,ho⟩:=h i hi
        obtain ⟨oo,on,oc,rfl⟩:∃ oo on oc,sl=.slice oo on oc:=by
          obtain ⟨n,o,_,hs⟩:=ho
          rcases hs with ⟨a,c,rfl,_⟩|⟨b,f',c,rfl,_⟩
          · exact ⟨_,_,_,rfl⟩
          · exact ⟨_,_,_,rfl⟩
        exact ⟨⟨kd,W,A,B,C,oo,on,oc⟩,fun _=>⟨⟨c0,c1,c2,c3,c4,c5⟩,hW,hA,ho⟩⟩
      · exact ⟨⟨0,0,0,0,0,none,0,0⟩,fun z=>absurd z hi⟩
    obtain ⟨F,hF⟩:=Classical.axiomOfChoice h2
    refine ⟨(List.range N).map F,by simp,fun x hx=>?_,.inr ⟨g,f,cap,rfl,fun j x hj=>?_⟩⟩
    · obtain ⟨i,hi,rfl⟩:=List.mem_map.1 hx
      exact (hF i (List.mem_range.1 hi)).2
    · rw [List.getElem?_map] at hj
      obtain ⟨i,hi,rfl⟩:=Option.map_eq_some_iff.1 hj
      have hlt:j<N:=by
        have:=(List.getElem?_eq_some_iff.1 hi).1
        simpa using this
      rw [List.getElem?_range hlt] at hi
      cases hi
      exact (hF j hlt).1
def keep2 (x:Stp):Bool:=decide (x.kind≠3) || decide (x.a≠2)
theorem take_keep2 {l:List Stp}{q:Nat}{x:Stp}(hx:l[q]? = some x):(l.take (q+1)).filter keep2=(l.take q).filter keep2++(if keep2 x=true then [x] else []):=by
  rw [List.take_add_one,hx,List.filter_append]
  simp [List.filter_cons]
def slots4 (s t l i:Value) (J:Nat->Value):Array Value:=#[s,J 1,.bool false,t,l,i,J 6,J 7,J 8,J 9,J 10,J 11,J 12,J 13,J 14,J 15,J 16,J 17,J 18,J 19,J 20,J 21,J 22,J 23,J 24,J 25,J 26,J 27,J 28,J 29,J 30,J 31,J 32,J 33,J 34,J 35,J 36,J 37]
theorem slots4_of {A:Array Value}{s t l i:Value}(h:A=slots4 s t l i fun i=>A.getD i undef):∃ J,(⟨A,[]⟩:Act)=⟨slots4 s t l i J,[]⟩:=⟨_,congrArg (fun t=>(⟨t,[]⟩:Act)) h⟩
section
variable {g:List Rec}{v:World}{N:Nat}{E:Nat->Addr}{s:Value}{cs:List Frame}
def cl4 (l:List Stp):List Stp:=(l.filter (keeps 1 4)).filter keep2
theorem cl4_ok {l:List Stp}(h:∀ x ∈ l,inI64 x.w/\inI64 x.a/\OpsAt v (.slice x.oo x.on x.oc)):∀ x ∈ cl4 l,StepOk v x:=fun x hx=>by
  obtain ⟨h1,h2⟩:=List.mem_filter.1 hx
  obtain ⟨h3,h4⟩:=List.mem_filter.1 h1
  obtain ⟨k1,k2,k3⟩:=h x h3
  refine ⟨k1,k2,k3,fun hk=>?_⟩
  simp [keep2,hk] at h2
  simp [keeps,hk] at h4
  omega
theorem only_list {l:List Stp}{w:World}(h:(∃ a c,s=.slice a 0 c/\l = [])∨∃ g f cap,s=.slice (some ⟨g,f,none⟩) l.length cap/\∀ (j:Nat) (x:Stp),l[j]? = some x->x.At w g (f+j*6))(hn:l.length<=2199023255552) :
    Calls Tryz.L 22 #[s,.int .i64 1,.int .i64 4] w fun e w'=>∃ y,e=.returned y/\∃ Λ',Fr (fun _=>still) Λ' (· = lent) w w'/\Row w' Λ' lent 29 6 y (l.filter (keeps 1 4)).length (stL (l.filter (keeps 1 4))):=by
  rcases h with ⟨a,c,rfl,rfl⟩|⟨g,f,cap,rfl,h⟩
  · refine (lone_only_nil a c).mono fun e w' ⟨h1,h2⟩=>⟨_,h1,fun _=>still,h2.grown'.fr,Row.nil _ _ _ _ _⟩
  · refine (lone_only_some (Λ:=fun _=>still) rfl h (by simp [still,lent]) hn).mono fun e w' ⟨y,Λ',h1,h2,h3⟩=>⟨y,h1,Λ',h2,h3⟩
set_option maxHeartbeats 4000000 in
theorem zz_client (hΩ:Ω.heap.size<=v.heap.size)(hb:Below g v.heap.size)(hdead:AllDead g)(hE:Errs v (fun _=>still) E)(hS:Script v s N)(hN:N<=2199023255552) :
    CW (ZZ Ω) g (Frame.enter Tryz.prog 4 #[s] .normal) cs v (EndsWith 4 (.bool true) cs fun g' v'=>Grown v v'/\AllDead g'):=by
  obtain ⟨l,hl,hx,hs⟩:=script_list hS
  subst hl
  have hok:=cl4_ok hx
  clear hx hS
  refine ZZ.top (tmps:=#[s,undef,undef,undef,undef,undef,undef,undef,undef,undef,undef,undef,undef,undef,undef,undef,undef,undef,undef,undef,undef,undef,undef,undef,undef,undef,undef,undef,undef,undef,undef,undef,undef,undef,undef,undef,undef,undef]) Tryz.func4 (by rfl) (by kernel_rfl) ?_
  refine CW.seq ZZ.ok (ZZ.plain (by kernel_rfl) (by simp [base]) fun Q u0 hu0 ho0 hQ=>?_)
  go_wp2
  refine CW.seq ZZ.ok (ZZ.pre [_] [_,_] (by kernel_rfl) (by simp [base]) fun Q u1 hu1 ho1 hQ=>?_)
  go_wp2
  have e1:u1.heap=v.heap:=hu1.trans hu0
  have o1:u1.os=v.os:=ho1.trans ho0
  clear hu1 hu0 ho1 ho0
  refine ZZ.lone (i:=1) (f:=22) (first:=#[]) (captured:=#[]) (args:=#[s,.int .i64 1,.int .i64 4]) (R:=fun y w'=>∃ Λ',Fr (fun _=>still) Λ' (· = lent) v w'/\Row w' Λ' lent 29 6 y (l.filter (keeps 1 4)).length (stL (l.filter (keeps 1 4)))) rfl rfl (by simp [base]) rfl rfl (by rfl) (by simp [Act.eval]) Tryz.func22 (by kernel_rfl) (by kernel_rfl) (by decide) (by kernel_rfl)
    (fun u h1 h2=>(only_list (hs.imp id fun ⟨g,f,cap,k1,k2⟩=>⟨g,f,cap,k1,fun j x hj=>?_⟩) hN).mono fun e w' ⟨y,k1,Λ',k2,k3⟩=>⟨y,k1,Λ',(Fr.same (h1.trans e1) (h2.trans o1)).trans k2,k3⟩) ?_
  · obtain ⟨d0,d1,d2,d3,d4,d5⟩:=k2 j x hj
    have hh:=h1.trans e1
    exact ⟨by rw [cell_heap hh];exact d0,by rw [cell_heap hh];exact d1,by rw [cell_heap hh];exact d2,by rw [cell_heap hh];exact d3,by rw [cell_heap hh];exact d4,by rw [cell_heap hh];exact d5⟩
  rintro y u2 ⟨Λ1,f1,hR1⟩
  have hlf:(l.filter (keeps 1 4)).length<=2199023255552:=Nat.le_trans (List.length_filter_le _ _) hN
  have hcl:cl4 l=(l.filter (keeps 1 4)).filter keep2:=rfl
  generalize l.filter (keeps 1 4)=lf at *
  clear e1 o1 hs
  refine ZZ.rest (l:=[_]) (x:=_) (m:=[_]) rfl (by kernel_rfl) (by simp [base]) fun Q u3 hu3 ho3 hQ=>?_
  go_wp2
  refine CW.seq ZZ.ok (ZZ.plain (by kernel_rfl) (by simp [base]) fun Q u4 hu4 ho4 hQ=>?_)
  go_wp2
  refine CW.seq ZZ.ok (CW.seq ZZ.ok (ZZ.plain (by kernel_rfl) (by simp [base]) fun Q u5 hu5 ho5 hQ=>?_))
  go_wp2
  have f5:Fr Λ1 Λ1 (fun _=>False) u2 u5:=Fr.same ((hu5.trans hu4).trans hu3) ((ho5.trans ho4).trans ho3)
  have hR5:=hR1.fr f5 fun z=>z
  have fv:Fr (fun _=>still) Λ1 (fun r=>r=lent∨r=rSc) v u5:=(f1.mono fun _ z=>.inl z).trans (f5.mono fun _ z=>z.elim)
  clear f5 hR1 f1 hu5 hu4 hu3 ho5 ho4 ho3
  obtain ⟨yo,yc,rfl⟩:=hR5.slice
  refine CW.block ZZ.ok (CW.loopI ZZ.ok (fun n g' a v'=>∃ (k:Nat) (Λ':Lab) (vl:Value),n=lf.length - k/\k<=lf.length/\g'=g/\(∃ J,a=⟨slots4 s (.slice yo lf.length yc) vl (.int .i64 (k:Nat)) J,[]⟩)/\Fr (fun _=>still) Λ' (fun r=>r=lent∨r=rSc) v v'/\Row v' Λ' lent 29 6 (.slice yo lf.length yc) lf.length (stL lf)/\Row v' Λ' rSc 29 6 vl ((lf.take k).filter keep2).length (stL ((lf.take k).filter keep2))) (fun n ih g' a v' hI=>?_) lf.length _ _ _ ⟨0,Λ1,_,rfl,Nat.zero_le _,rfl,slots4_of (by kernel_rfl),fv,hR5,Row.nil _ _ _ _ _⟩)
  clear fv hR5
  obtain ⟨k,Λ',vl,rfl,hk,rfl,⟨J,rfl⟩,fv,hR,hV⟩:=hI
  by_cases hkn:k<lf.length
  · obtain ⟨x,hx⟩:∃ x,lf[k]? = some x:=⟨_,List.getElem?_eq_getElem hkn⟩
    obtain ⟨gp,cap,hsl,_⟩:=hR.some (by omega)
    cases hsl
    refine CW.seq ZZ.ok (CW.seq ZZ.ok (ZZ.plain (by kernel_rfl) (by simp [base]) fun Q u hu ho hQ=>?_))
    simp only [slots4]
    go_wp2
    refine CW.cond (t:=true) ZZ.ok ?_ ?_
    · simp [Act.eval]
    simp only [if_true]
    obtain ⟨kd,W,A,B,C,oo,on,oc⟩:=x
    have c0:=hR.cell rfl ((stL_get lf k _ hx 0 (by decide)).trans rfl)
    have c1:=hR.cell rfl ((stL_get lf k _ hx 1 (by decide)).trans rfl)
    have c2:=hR.cell rfl ((stL_get lf k _ hx 2 (by decide)).trans rfl)
    have c3:=hR.cell rfl ((stL_get lf k _ hx 3 (by decide)).trans rfl)
    have c4:=hR.cell rfl ((stL_get lf k _ hx 4 (by decide)).trans rfl)
    have c5:=hR.cell rfl ((stL_get lf k _ hx 5 (by decide)).trans rfl)
    rw [Nat.add_zero] at c0
    have hlen:((lf.take k).filter keep2).length<=k:=Nat.le_trans (List.length_filter_le _ _) (by rw [List.length_take];omega)
    refine CW.skip ZZ.ok (CW.seq ZZ.ok (CW.block ZZ.ok (CW.seq ZZ.ok (ZZ.plain (by kernel_rfl) (by simp [base]) fun Q u6 hu6 ho6 hQ=>?_))))
    rw [← cell_heap (hu6.trans hu)] at c0 c1 c2 c3 c4 c5
    replace fv:=fv.trans (Fr.same (M:=fun r=>r=lent∨r=rSc) (hu6.trans hu) (ho6.trans ho))
    replace hR:=hR.fr (Fr.same (M:=fun _=>False) (hu6.trans hu) (ho6.trans ho)) fun z=>z
    replace hV:=hV.fr (Fr.same (M:=fun _=>False) (hu6.trans hu) (ho6.trans ho)) fun z=>z
    clear hu hu6 ho ho6
    by_cases hk3:kd=3
    · subst hk3
      by_cases hA2:A=2
      · subst hA2
        have hkp:keep2 ⟨3,W,2,B,C,oo,on,oc⟩=false:=by simp [keep2]
        go_wp2
        refine CW.cond (t:=false) ZZ.ok (by rfl) ?_
        simp only [if_false,Bool.false_eq_true]
        clear c0 c1 c2 c3 c4 c5
        refine CW.skip ZZ.ok (CW.inBlock ZZ.ok (ZZ.plain (by kernel_rfl) (by simp [base]) fun Q u8 hu8 ho8 hQ=>?_))
        have hwk:IntKind.i64.wrap ((k:Int)+1)=k+1:=by simp only [IntKind.wrap,IntKind.bits,IntKind.signed];simp;omega
        go_wp2
        have f8:Fr Λ' Λ' (fun _=>False) u6 u8:=Fr.same hu8 ho8
        refine ih (lf.length - (k+1)) (by omega) _ _ _ ⟨k+1,Λ',vl,rfl,by omega,rfl,slots4_of (by kernel_rfl),fv.trans (f8.mono fun _ z=>z.elim),hR.fr f8 fun z=>z,?_⟩
        rw [take_keep2 hx,if_neg (by rw [hkp];simp),List.append_nil]
        exact hV.fr f8 fun z=>z
      · have hkp:keep2 ⟨3,W,A,B,C,oo,on,oc⟩=true:=by simp [keep2,hA2]
        have hAn:(A != 2)=true:=bne_iff_ne.2 hA2
        go_wp2
        refine CW.cond (t:=true) ZZ.ok (by rfl) ?_
        simp only [if_true]
        refine ZZ.plain (by kernel_rfl) (by simp [base]) fun Q u7 hu7 ho7 hQ=>?_
        rw [← cell_heap hu7] at c0 c1 c2 c3 c4 c5
        replace fv:=fv.trans (Fr.same (M:=fun r=>r=lent∨r=rSc) hu7 ho7)
        replace hR:=hR.fr (Fr.same (M:=fun _=>False) hu7 ho7) fun z=>z
        replace hV:=hV.fr (Fr.same (M:=fun _=>False) hu7 ho7) fun z=>z
        clear hu7 ho7
        obtain ⟨vo,vc,rfl⟩:=hV.slice
        have fX:Fr Λ' Λ' (fun _=>False) u7 (u7.alloc (.cells (Stp.cells ⟨3,W,A,B,C,oo,on,oc⟩).toArray 29)):=(Fr.refl _ _ _).alloc _
        have HN:=hid' (fun (j:Nat) (u:Value) (hu:(Stp.cells ⟨3,W,A,B,C,oo,on,oc⟩)[j]? = some u)=>alloc_cells u7 (Stp.cells ⟨3,W,A,B,C,oo,on,oc⟩) 29 j u hu)
        have hY:=hid' (And.intro fv (And.intro hR hV))
        clear fv hR hV
        go_wp2_with (at_builtin;refine park ?_)
        refine append_list (c:=1) (p:=⟨u7.heap.size,0,none⟩) (m:=1) (news:=(Stp.cells ⟨3,W,A,B,C,oo,on,oc⟩)) slotSt slotSt.und _ _ rfl rfl (hY.out.2.2.fr fX fun z=>z) rfl rfl rfl HN.out (Stp.one ⟨3,W,A,B,C,oo,on,oc⟩) (by unfold maxLen;omega) (by omega) (fun v2 w2 Λ2 hF2 hR2=>?_)
        obtain ⟨vo',vc',rfl⟩:=hR2.slice
        have hfin:=hid' (And.intro hF2 hR2)
        clear hF2 hR2 c0 c1 c2 c3 c4 c5
        go_wp2
        refine CW.inBlock ZZ.ok (ZZ.plain (by kernel_rfl) (by simp [base]) fun Q u8 hu8 ho8 hQ=>?_)
        have hwk:IntKind.i64.wrap ((k:Int)+1)=k+1:=by simp only [IntKind.wrap,IntKind.bits,IntKind.signed];simp;omega
        go_wp2
        have f8:Fr Λ2 Λ2 (fun _=>False) w2 u8:=Fr.same hu8 ho8
        refine ih (lf.length - (k+1)) (by omega) _ _ _ ⟨k+1,Λ2,.slice vo' (((lf.take k).filter keep2).length+1) vc',rfl,by omega,rfl,slots4_of (by kernel_rfl),((hY.out.1.trans (fX.mono fun _ z=>z.elim)).trans (hfin.out.1.mono fun _ z=>.inr z)).trans (f8.mono fun _ z=>z.elim),((hY.out.2.1.fr fX fun z=>z).fr hfin.out.1 (by simp [rSc,lent])).fr f8 fun z=>z,?_⟩
        rw [take_keep2 hx,if_pos hkp,List.length_append]
        unfold stL
        rw [List.flatMap_append]
        have:=hfin.out.2.fr f8 fun z=>z
        simpa [stL] using this
    · have hkp:keep2 ⟨kd,W,A,B,C,oo,on,oc⟩=true:=by simp [keep2,hk3]
      have hkn3:(kd != 3)=true:=bne_iff_ne.2 hk3
      go_wp2
      refine CW.cond (t:=true) ZZ.ok (by rfl) ?_
      simp only [if_true]
      refine ZZ.plain (by kernel_rfl) (by simp [base]) fun Q u7 hu7 ho7 hQ=>?_
      rw [← cell_heap hu7] at c0 c1 c2 c3 c4 c5
      replace fv:=fv.trans (Fr.same (M:=fun r=>r=lent∨r=rSc) hu7 ho7)
      replace hR:=hR.fr (Fr.same (M:=fun _=>False) hu7 ho7) fun z=>z
      replace hV:=hV.fr (Fr.same (M:=fun _=>False) hu7 ho7) fun z=>z
      clear hu7 ho7
      obtain ⟨vo,vc,rfl⟩:=hV.slice
      have fX:Fr Λ' Λ' (fun _=>False) u7 (u7.alloc (.cells (Stp.cells ⟨kd,W,A,B,C,oo,on,oc⟩).toArray 29)):=(Fr.refl _ _ _).alloc _
      have HN:=hid' (fun (j:Nat) (u:Value) (hu:(Stp.cells ⟨kd,W,A,B,C,oo,on,oc⟩)[j]? = some u)=>alloc_cells u7 (Stp.cells ⟨kd,W,A,B,C,oo,on,oc⟩) 29 j u hu)
      have hY:=hid' (And.intro fv (And.intro hR hV))
      clear fv hR hV
      go_wp2_with (at_builtin;refine park ?_)
      refine append_list (c:=1) (p:=⟨u7.heap.size,0,none⟩) (m:=1) (news:=(Stp.cells ⟨kd,W,A,B,C,oo,on,oc⟩)) slotSt slotSt.und _ _ rfl rfl (hY.out.2.2.fr fX fun z=>z) rfl rfl rfl HN.out (Stp.one ⟨kd,W,A,B,C,oo,on,oc⟩) (by unfold maxLen;omega) (by omega) (fun v2 w2 Λ2 hF2 hR2=>?_)
      obtain ⟨vo',vc',rfl⟩:=hR2.slice
      have hfin:=hid' (And.intro hF2 hR2)
      clear hF2 hR2 c0 c1 c2 c3 c4 c5
      go_wp2
      refine CW.inBlock ZZ.ok (ZZ.plain (by kernel_rfl) (by simp [base]) fun Q u8 hu8 ho8 hQ=>?_)
      have hwk:IntKind.i64.wrap ((k:Int)+1)=k+1:=by simp only [IntKind.wrap,IntKind.bits,IntKind.signed];simp;omega
      go_wp2
      have f8:Fr Λ2 Λ2 (fun _=>False) w2 u8:=Fr.same hu8 ho8
      refine ih (lf.length - (k+1)) (by omega) _ _ _ ⟨k+1,Λ2,.slice vo' (((lf.take k).filter keep2).length+1) vc',rfl,by omega,rfl,slots4_of (by kernel_rfl),((hY.out.1.trans (fX.mono fun _ z=>z.elim)).trans (hfin.out.1.mono fun _ z=>.inr z)).trans (f8.mono fun _ z=>z.elim),((hY.out.2.1.fr fX fun z=>z).fr hfin.out.1 (by simp [rSc,lent])).fr f8 fun z=>z,?_⟩
      rw [take_keep2 hx,if_pos hkp,List.length_append]
      unfold stL
      rw [List.flatMap_append]
      have:=hfin.out.2.fr f8 fun z=>z
      simpa [stL] using this
  · obtain rfl:k=lf.length:=by omega
    refine CW.seq ZZ.ok (CW.seq ZZ.ok (ZZ.plain (by kernel_rfl) (by simp [base]) fun Q u hu ho hQ=>?_))
    simp only [slots4]
    go_wp2
    refine CW.cond (t:=false) ZZ.ok ?_ ?_
    · simp [Act.eval]
    simp only [if_false,Bool.false_eq_true]
    refine CW.exit ZZ.ok rfl (CW.seq ZZ.ok (ZZ.pre [_] [_,_,_] (by kernel_rfl) (by simp [base]) fun Q u2 hu2 ho2 hQ=>?_))
    go_wp2
    have hall:lf.take lf.length=lf:=List.take_of_length_le (Nat.le_refl _)
    rw [hall] at hV
    replace fv:=fv.trans (Fr.same (M:=fun r=>r=lent∨r=rSc) (hu2.trans hu) (ho2.trans ho))
    replace hV:=hV.fr (Fr.same (M:=fun _=>False) (hu2.trans hu) (ho2.trans ho)) fun z=>z
    rw [← hcl] at hV
    have hns:¬ ((fun r:Role=>r=lent∨r=rSc) still):=by simp [still,lent,rSc]
    have hG:Grown v u2:=⟨fv.size,fun x hx=>fv.old x hx hns,fv.os⟩
    have hc4:(cl4 l).length<=2199023255552:=by rw [hcl];exact Nat.le_trans (List.length_filter_le _ _) hlf
    refine CW.callAt ZZ.ok (i:=1) (f:=23) (first:=#[]) (captured:=#[]) (args:=#[vl]) rfl rfl (by simp [base]) rfl rfl (by rfl) (by simp [Act.eval]) Tryz.func23 (by kernel_rfl) (by kernel_rfl) (zz_upto hΩ (hE.fr fv hns) hG (fun x hx=>fv.lab x hx) (hb.mono fv.size) hdead hV hc4 hok) fun g2 y v2 hS=>?_
    obtain ⟨rfl,hd2,hg2⟩:=hS
    refine ZZ.rest (l:=[_]) (x:=_) (m:=[_,_]) rfl (by kernel_rfl) (by simp [base]) fun Q u3 hu3 ho3 hQ=>?_
    go_wp2
    exact CW.atRet ZZ.ok (.done ⟨rfl,_,_,rfl,by rfl,hg2.trans (Grown.same hu3 ho3),hd2⟩)
end
end
end Go.Proofs.Shardlog
namespace Go.Tame
open Go.Conc
section
open Go.ConcN (sumTo upd sumTo_upd upd_ne upd_same)
section trace
variable {Still Near Still' Near':Nat->Loc->Prop}{Gone:Loc->Prop}{h j:Nat}{t:Trace}
end trace
def given (In:Nat->Option Chair) (h j:Nat) (cm:Option Chair):Nat->Option Chair:=upd (upd In h cm) j none
section
variable {P:Program}{S:Prot}{In:Nat->Option Chair}{h:Nat}{T:Trace}{gs:Array Goroutine}{w:World}{q:Nat->Nat}
end
end
section
open Go.ConcN (sumTo upd sumTo_upd upd_ne upd_same)
def tamed:Obj->Obj
  | .view .. | .pending .. | .chan .. | .loop ..=>oddView
  | o=>o
def World.tamed (w:World):World:={ w with heap:=w.heap.map Tame.tamed }
section
variable {S:Prot}{w:World}
theorem tamed_get (w:World)(i:Nat):(World.tamed w).heap[i]? = (w.heap[i]?).map Tame.tamed:=by
  show (w.heap.map Tame.tamed)[i]? = _
  rw [Array.getElem?_map]
theorem tamed_cells {b:Nat}{c:Array Value}{e:TypeId}{f:Nat × Nat}(h:w.heap[b]? = some (.cells c e f)):(World.tamed w).heap[b]? = some (.cells c e f):=by
  rw [tamed_get,h]
  rfl
theorem tamed_cell (w:World)(a:Addr):(World.tamed w).cell? a=w.cell? a:=by
  unfold World.cell?
  rw [tamed_get]
  cases w.heap[a.block]? with
  | none=>rfl
  | some o=>cases o <;> rfl
theorem like_tamed (w:World)(hB:S.base=w)(hk:∀ a,¬ S.keep a)(hg:∀ a,¬ S.gone a):Like S w (World.tamed w):=by
  refine ⟨by simp [World.tamed],fun i o o' h h'=>?_,fun a h=>absurd h (hk a),fun a h=>absurd h (hg a),rfl,by rw [hB]⟩
  rw [tamed_get,h] at h'
  cases h'
  cases o <;> first|exact .cells _ _ _ _ (Within.refl _) (fun _=>rfl)|exact .odd _ trivial (by rw [hB];exact h)|exact .same _ trivial
theorem house_alone {P:Program}(a:Goroutine)(w:World)(hap:∀ x,S.gone x->¬ S.keep x):House P S (fun _=>none) 0 #[] #[a] w (fun _=>0):=by
  have ne:∀ (j:Nat) (g:Goroutine),j≠0->(#[a]:Array Goroutine)[j]? ≠ some g:=fun j g hj h=>by
    have:=(Array.getElem?_eq_some_iff.1 h).1
    simp at this
    omega
  have hd:∀ g,Deaf (#[]:Trace) g=0:=fun g=>by simp [Deaf,Trace.deaf]
  have ht:∀ i (x:Touch),touchAt (#[]:Trace) i≠some x:=fun i x h=>by
    obtain ⟨op,hop,_⟩:=touch_of h
    simp at hop
  refine ⟨fun j g hj h=>absurd h (ne j g hj),fun j c h=>(by cases h),fun j c x h=>(by cases h),fun j c h=>(by cases h),fun j c x h=>(by cases h),fun j c x h=>(by cases h),hap,rfl,⟨fun said h=>?_,fun i x h=>absurd h (ht i x),fun i x h=>absurd h (ht i x)⟩,hd 0,fun j c h=>(by cases h),fun j _=>hd j,fun j c h=>(by cases h)⟩
  obtain ⟨i,j,_,⟨x,_,h1,_⟩,_⟩:=h
  exact absurd h1 (ht i x)
end
end
end Go.Tame
