/- Several texts in one: TameNew8, TameNewB, TameNewC, TamePNew, TameMid, TameSched, LoneStop, TameShutZ, TameHalt, Mem, MemCopy. -/
import Derived.Test.YtblcigmggdiccaaGreatDoorPart10
import Derived.Conc.LoneSelect
import Derived.Test.YtblcigmggdiccaaGreatDoorPart01
import Derived.Maps.AppendAt
import Derived.Laws.CopyRow
import Derived.Laws.MakeOwn
import Derived.OwnWalk
set_option linter.unusedSectionVars false
set_option linter.unusedSimpArgs false
set_option linter.unusedVariables false
set_option maxRecDepth 100000
namespace Go.Proofs.Shardlog
open Go Go.Conc Go.Tame Go.Proofs
section
theorem any_cast {ops:Array Oper}{Q:Exit->Act->World->Prop}{fuel:Nat}{l l':Array Bool}{a a':Act}{w w':World}(h:wpAny Tryz.L .any ops Q fuel l a w)(e:l'=l)(e2:a'=a)(e3:w'=w):wpAny Tryz.L .any ops Q fuel l' a' w':=by
  rw [e,e2,e3]
  exact h
theorem append_step {ops:Array Oper}{o:Oper}{a:Act}{w:World}{K:Act->World->Prop}{Q:Exit->Act->World->Prop}(base:Nat)(t e:TypeId)(i:TypeInfo)(z:Value)(size bytes:Nat)(ht:Tryz.L.underlying t=some (.slice e))(hi:Tryz.L.info? e=some i)(hz:i.zero=some z)
    (hsize:i.size=size) (hby:i.bytes=bytes) (hzs:z.cells.size=size) (hsz:0<size) (x y:Operand) (hop:o.op=.call { callee:=.builtin .append,args:=#[x,y],argTypes:=#[t,t] }) (hg:o.guard=none)
    (v:Value) (n:Nat) (xs:List Value) (hx:a.eval x=v) (hown:w.ownsRow base e size v n xs) (p:Addr) (m c:Nat) (hy:a.eval y=.slice (some p) m c) (news:List Value) (hl:news.length=m*size) (hnews:∀ j u,news[j]? = some u->w.cell? (p.add j)=some u) (h1:∀ u ∈ news,u.oneCell'=true)
    (h63:n+m<=maxLen) (hbytes:(n+m)*bytes<=140737488355328) (hbase:base<=w.heap.size) (hK:∀ v' w',w'.ownsRow base e size v' (n+m) (xs++news)->w.grownBy w' v.ownBlock->K (a.put o.dst v') w') :
    (if Region.wanted o (yielded ops a.tmps)=true then Oper.wp Tryz.L o a w K Q else K (a.put o.dst undef) w):=by
  have hw:Region.wanted o (yielded ops a.tmps)=true:=by simp [Region.wanted,hg]
  rw [if_pos hw]
  obtain ⟨v',w',h1,h2,h3,_⟩:=run_append_own (P:=Tryz.L) w base t o.type e i z size bytes ht hi hz hsize hby hzs hsz v n xs hown p m c news hl hnews h1 h63 hbytes hbase
  have hr:(execOp a.eval o).run Tryz.L w=.ok (.value v') w':=by
    have e1:execOp a.eval o=(do pure (Next.value (← Builtin.append_ #[t,t] o.type #[v,.slice (some p) m c])):Sem Next):=by
      unfold execOp
      rw [hop]
      show builtin .append #[t,t] o.type (#[x,y].map fun | .const _=>true|_=>false) (#[x,y].map a.eval)=_
      have:(#[x,y].map a.eval)=#[v,.slice (some p) m c]:=by simp [hx,hy]
      rw [this]
      rfl
    rw [e1,Sem.run_bind,h1]
    rfl
  unfold Oper.wp
  rw [hr]
  exact hK v' w' h2 h3
noncomputable def ops8:Array Oper:=
  #[{ dst:=some 24,op:=.load 23 (.tmp 4),type:=23,pos:= "cluster.go:48",after:=#[],guard:=none },
    { dst:=some 25,op:=.load 23 (.tmp 4),type:=23,pos:= "cluster.go:48",after:=#[],guard:=none },
    { dst:=some 26,op:=.nilCheck (.tmp 25),type:=0,pos:= "cluster.go:48",after:=#[{ on:=1,ground:=.data }],guard:=none },
    { dst:=some 27,op:=.fieldAddr 94 (.tmp 26) 1,type:=0,pos:= "cluster.go:48",after:=#[{ on:=2,ground:=.data }],guard:=none },
    { dst:=some 28,op:=.load 80 (.tmp 27),type:=80,pos:= "cluster.go:48",after:=#[{ on:=3,ground:=.data }],guard:=none },
    { dst:=some 29,op:=.load 100 (.tmp 6),type:=100,pos:= "cluster.go:48",after:=#[],guard:=none },
    { dst:=some 30,op:=.buildSlice 80 1 #[(0,.tmp 29)],type:=80,pos:= "cluster.go:48",after:=#[{ on:=5,ground:=.data }],guard:=none },
    { dst:=some 31,op:=.call { callee:=.builtin .append,args:=#[.tmp 28,.tmp 30],argTypes:=#[80,80] },type:=80,pos:= "cluster.go:48",after:=#[{ on:=4,ground:=.data },{ on:=6,ground:=.data }],guard:=none },
    { dst:=some 32,op:=.nilCheck (.tmp 24),type:=0,pos:= "cluster.go:48",after:=#[{ on:=0,ground:=.data },{ on:=0,ground:=.phase },{ on:=1,ground:=.phase },{ on:=2,ground:=.phase },{ on:=3,ground:=.phase },{ on:=4,ground:=.phase },{ on:=5,ground:=.phase },{ on:=6,ground:=.phase },{ on:=7,ground:=.phase }],guard:=none },
    { dst:=some 33,op:=.fieldAddr 94 (.tmp 32) 1,type:=0,pos:= "cluster.go:48",after:=#[{ on:=8,ground:=.data },{ on:=0,ground:=.phase },{ on:=1,ground:=.phase },{ on:=2,ground:=.phase },{ on:=3,ground:=.phase },{ on:=4,ground:=.phase },{ on:=5,ground:=.phase },{ on:=6,ground:=.phase },{ on:=7,ground:=.phase }],guard:=none },
    { dst:=none,op:=.store 80 (.tmp 33) (.tmp 31),type:=0,pos:= "cluster.go:48",after:=#[{ on:=9,ground:=.data },{ on:=7,ground:=.data },{ on:=7,ground:=.chain },{ on:=0,ground:=.phase },{ on:=1,ground:=.phase },{ on:=2,ground:=.phase },{ on:=3,ground:=.phase },{ on:=4,ground:=.phase },{ on:=5,ground:=.phase },{ on:=6,ground:=.phase },{ on:=7,ground:=.phase }],guard:=none }]
theorem und80:Tryz.L.underlying 80=some (.slice 100):=by kernel_rfl
theorem slot100:∃ i,Tryz.L.info? 100=some i/\i.zero=some (.pointer none)/\i.size=1/\i.bytes=8:=by
  have h:(Tryz.L.info? 100).map (fun i=>(i.zero,i.size,i.bytes))=some (some (.pointer none),1,8):=by kernel_rfl
  obtain ⟨i,hi,hb⟩:=Option.map_eq_some_iff.1 h
  simp only [Prod.mk.injEq] at hb
  exact ⟨i,hi,hb⟩
theorem own_slice {w:World}{base:Nat}{e:TypeId}{size:Nat}{v:Value}{n:Nat}{xs:List Value}(h:w.ownsRow base e size v n xs):∃ o m c,v=.slice o m c:=by
  rcases h.2 with ⟨rfl,_⟩|⟨g,cap,cur,rfl,_⟩
  · exact ⟨_,_,_,rfl⟩
  · exact ⟨_,_,_,rfl⟩
theorem box_cell' (u:World)(x:Value)(t:TypeId):(u.alloc (.cells #[x] t)).cell? ((⟨u.heap.size,0,none⟩:Addr).add 0)=some x:=by
  show (u.alloc (.cells #[x] t)).cell? ⟨u.heap.size,0,none⟩=some x
  unfold World.cell?
  rw [alloc_get,if_pos rfl]
  rfl
section
variable {c cb sb s base k:Nat}{n kv sl:Value}{J:Nat->Value}{w:World}{xs:List Value}{Q:Exit->Act->World->Prop}
set_option maxHeartbeats 4000000 in
theorem new_append (hcb:w.cell? ⟨cb,0,none⟩=some (.pointer (some ⟨c,0,none⟩)))(hsb:w.cell? ⟨sb,0,none⟩=some (.pointer (some ⟨s,0,none⟩)))(hc2:w.cell? ⟨c,2,none⟩=some sl)(hz:w.frozen? ⟨c,2,none⟩=false)(hown:w.ownsRow base 100 1 sl k xs)(hk:k<=3)(hb:base<=w.heap.size)(hcl:c<base)(hcbl:cb<base)
    (hQ:∀ sl' w',w'.ownsRow base 100 1 sl' (k+1) (xs ++ [.pointer (some ⟨s,0,none⟩)])->(w.alloc (.cells #[.pointer (some ⟨s,0,none⟩)] 100)).grownBy w' sl.ownBlock->Q .normal ⟨#[n,J 1,J 2,J 3,(.pointer (some ⟨cb,0,none⟩)),J 5,(.pointer (some ⟨sb,0,none⟩)),J 7,J 8,J 9,J 10,J 11,J 12,J 13,J 14,J 15,J 16,n,kv,J 19,J 20,J 21,J 22,J 23,(.pointer (some ⟨c,0,none⟩)),(.pointer (some ⟨c,0,none⟩)),(.pointer (some ⟨c,0,none⟩)),(.pointer (some ⟨c,2,none⟩)),sl,(.pointer (some ⟨s,0,none⟩)),(.slice (some ⟨w.heap.size,0,none⟩) 1 1),sl',(.pointer (some ⟨c,0,none⟩)),(.pointer (some ⟨c,2,none⟩)),J 34,J 35,J 36,J 37,J 38,J 39,J 40],[]⟩ (w'.setCell ⟨c,2,none⟩ sl')) :
    wpAny Tryz.L .any ops8 Q 11 (Array.replicate 11 false) ⟨#[n,J 1,J 2,J 3,(.pointer (some ⟨cb,0,none⟩)),J 5,(.pointer (some ⟨sb,0,none⟩)),J 7,J 8,J 9,J 10,J 11,J 12,J 13,J 14,J 15,J 16,n,kv,J 19,J 20,J 21,J 22,J 23,J 24,J 25,J 26,J 27,J 28,J 29,J 30,J 31,J 32,J 33,J 34,J 35,J 36,J 37,J 38,J 39,J 40],[]⟩ w:=by
  have hcb1:(w.alloc (.cells #[.pointer (some ⟨s,0,none⟩)] 100)).cell? ⟨cb,0,none⟩=some (.pointer (some ⟨c,0,none⟩)):=(World.grownBy_alloc w _ none).cell hcb (by simp)
  have hsb1:(w.alloc (.cells #[.pointer (some ⟨s,0,none⟩)] 100)).cell? ⟨sb,0,none⟩=some (.pointer (some ⟨s,0,none⟩)):=(World.grownBy_alloc w _ none).cell hsb (by simp)
  have hc21:(w.alloc (.cells #[.pointer (some ⟨s,0,none⟩)] 100)).cell? ⟨c,2,none⟩=some sl:=(World.grownBy_alloc w _ none).cell hc2 (by simp)
  have stabcdefghijk:∀ sl' w',w'.ownsRow base 100 1 sl' (k+1) (xs ++ [.pointer (some ⟨s,0,none⟩)])->(w.alloc (.cells #[.pointer (some ⟨s,0,none⟩)] 100)).grownBy w' sl.ownBlock->wpAny Tryz.L .any ops8 Q 0 #[true,true,true,true,true,true,true,true,true,true,true] ⟨#[n,J 1,J 2,J 3,(.pointer (some ⟨cb,0,none⟩)),J 5,(.pointer (some ⟨sb,0,none⟩)),J 7,J 8,J 9,J 10,J 11,J 12,J 13,J 14,J 15,J 16,n,kv,J 19,J 20,J 21,J 22,J 23,(.pointer (some ⟨c,0,none⟩)),(.pointer (some ⟨c,0,none⟩)),(.pointer (some ⟨c,0,none⟩)),(.pointer (some ⟨c,2,none⟩)),sl,(.pointer (some ⟨s,0,none⟩)),(.slice (some ⟨w.heap.size,0,none⟩) 1 1),sl',(.pointer (some ⟨c,0,none⟩)),(.pointer (some ⟨c,2,none⟩)),J 34,J 35,J 36,J 37,J 38,J 39,J 40],[]⟩ (w'.setCell ⟨c,2,none⟩ sl'):=by
    intro sl' w' hrow hgr
    exact wpAny_done (by kernel_rfl) (hQ sl' w' hrow hgr) 0
  have stabcdefghij:∀ sl' w',w'.ownsRow base 100 1 sl' (k+1) (xs ++ [.pointer (some ⟨s,0,none⟩)])->(w.alloc (.cells #[.pointer (some ⟨s,0,none⟩)] 100)).grownBy w' sl.ownBlock->wpAny Tryz.L .any ops8 Q 1 #[true,true,true,true,true,true,true,true,true,true,false] ⟨#[n,J 1,J 2,J 3,(.pointer (some ⟨cb,0,none⟩)),J 5,(.pointer (some ⟨sb,0,none⟩)),J 7,J 8,J 9,J 10,J 11,J 12,J 13,J 14,J 15,J 16,n,kv,J 19,J 20,J 21,J 22,J 23,(.pointer (some ⟨c,0,none⟩)),(.pointer (some ⟨c,0,none⟩)),(.pointer (some ⟨c,0,none⟩)),(.pointer (some ⟨c,2,none⟩)),sl,(.pointer (some ⟨s,0,none⟩)),(.slice (some ⟨w.heap.size,0,none⟩) 1 1),sl',(.pointer (some ⟨c,0,none⟩)),(.pointer (some ⟨c,2,none⟩)),J 34,J 35,J 36,J 37,J 38,J 39,J 40],[]⟩ w':=by
    intro sl' w' hrow hgr
    obtain ⟨o',m',p',hsl⟩:=own_slice hrow
    have hc2':=hgr.cell hc21 (a:=⟨c,2,none⟩) (fun e=>by have h0:base<=c:=(hown.lt _ e.symm).1;omega)
    have hz':w'.frozen? ⟨c,2,none⟩=false:=by
      rw [← hz]
      refine (World.frozen?_of_block (hgr.block c (by rw [alloc_size];omega) (fun e=>by have h0:base<=c:=(hown.lt _ e.symm).1;omega))).trans ?_
      unfold World.frozen?
      rw [alloc_get,if_neg (show ¬ c=w.heap.size by omega)]
    subst hsl
    refine wpAny_ready (rs:=[10]) (by kernel_rfl) (by simp) ?_
    refine AllReady.cons (o:={ dst:=none,op:=.store 80 (.tmp 33) (.tmp 31),type:=0,pos:= "cluster.go:48",after:=#[{ on:=9,ground:=.data },{ on:=7,ground:=.data },{ on:=7,ground:=.chain },{ on:=0,ground:=.phase },{ on:=1,ground:=.phase },{ on:=2,ground:=.phase },{ on:=3,ground:=.phase },{ on:=4,ground:=.phase },{ on:=5,ground:=.phase },{ on:=6,ground:=.phase },{ on:=7,ground:=.phase }],guard:=none }) rfl (fun K hK=>?_) ?_
    · go_simp
      refine hK _ _ ?_
      exact (any_cast (stabcdefghijk (.slice o' m' p') w' hrow hgr) (by kernel_rfl) (by rfl) (by rfl))
    exact AllReady.nil
  have stabcdefghi:∀ sl' w',w'.ownsRow base 100 1 sl' (k+1) (xs ++ [.pointer (some ⟨s,0,none⟩)])->(w.alloc (.cells #[.pointer (some ⟨s,0,none⟩)] 100)).grownBy w' sl.ownBlock->wpAny Tryz.L .any ops8 Q 2 #[true,true,true,true,true,true,true,true,true,false,false] ⟨#[n,J 1,J 2,J 3,(.pointer (some ⟨cb,0,none⟩)),J 5,(.pointer (some ⟨sb,0,none⟩)),J 7,J 8,J 9,J 10,J 11,J 12,J 13,J 14,J 15,J 16,n,kv,J 19,J 20,J 21,J 22,J 23,(.pointer (some ⟨c,0,none⟩)),(.pointer (some ⟨c,0,none⟩)),(.pointer (some ⟨c,0,none⟩)),(.pointer (some ⟨c,2,none⟩)),sl,(.pointer (some ⟨s,0,none⟩)),(.slice (some ⟨w.heap.size,0,none⟩) 1 1),sl',(.pointer (some ⟨c,0,none⟩)),J 33,J 34,J 35,J 36,J 37,J 38,J 39,J 40],[]⟩ w':=by
    intro sl' w' hrow hgr
    refine wpAny_ready (rs:=[9]) (by kernel_rfl) (by simp) ?_
    refine AllReady.cons (o:={ dst:=some 33,op:=.fieldAddr 94 (.tmp 32) 1,type:=0,pos:= "cluster.go:48",after:=#[{ on:=8,ground:=.data },{ on:=0,ground:=.phase },{ on:=1,ground:=.phase },{ on:=2,ground:=.phase },{ on:=3,ground:=.phase },{ on:=4,ground:=.phase },{ on:=5,ground:=.phase },{ on:=6,ground:=.phase },{ on:=7,ground:=.phase }],guard:=none }) rfl (fun K hK=>?_) ?_
    · go_simp
      refine hK _ _ ?_
      exact (any_cast (stabcdefghij sl' w' hrow hgr) (by kernel_rfl) (by rfl) (by rfl))
    exact AllReady.nil
  have stabcdefgh:∀ sl' w',w'.ownsRow base 100 1 sl' (k+1) (xs ++ [.pointer (some ⟨s,0,none⟩)])->(w.alloc (.cells #[.pointer (some ⟨s,0,none⟩)] 100)).grownBy w' sl.ownBlock->wpAny Tryz.L .any ops8 Q 3 #[true,true,true,true,true,true,true,true,false,false,false] ⟨#[n,J 1,J 2,J 3,(.pointer (some ⟨cb,0,none⟩)),J 5,(.pointer (some ⟨sb,0,none⟩)),J 7,J 8,J 9,J 10,J 11,J 12,J 13,J 14,J 15,J 16,n,kv,J 19,J 20,J 21,J 22,J 23,(.pointer (some ⟨c,0,none⟩)),(.pointer (some ⟨c,0,none⟩)),(.pointer (some ⟨c,0,none⟩)),(.pointer (some ⟨c,2,none⟩)),sl,(.pointer (some ⟨s,0,none⟩)),(.slice (some ⟨w.heap.size,0,none⟩) 1 1),sl',J 32,J 33,J 34,J 35,J 36,J 37,J 38,J 39,J 40],[]⟩ w':=by
    intro sl' w' hrow hgr
    refine wpAny_ready (rs:=[8]) (by kernel_rfl) (by simp) ?_
    refine AllReady.cons (o:={ dst:=some 32,op:=.nilCheck (.tmp 24),type:=0,pos:= "cluster.go:48",after:=#[{ on:=0,ground:=.data },{ on:=0,ground:=.phase },{ on:=1,ground:=.phase },{ on:=2,ground:=.phase },{ on:=3,ground:=.phase },{ on:=4,ground:=.phase },{ on:=5,ground:=.phase },{ on:=6,ground:=.phase },{ on:=7,ground:=.phase }],guard:=none }) rfl (fun K hK=>?_) ?_
    · go_simp
      refine hK _ _ ?_
      exact (any_cast (stabcdefghi sl' w' hrow hgr) (by kernel_rfl) (by rfl) (by rfl))
    exact AllReady.nil
  have stabcdefg:wpAny Tryz.L .any ops8 Q 4 #[true,true,true,true,true,true,true,false,false,false,false] ⟨#[n,J 1,J 2,J 3,(.pointer (some ⟨cb,0,none⟩)),J 5,(.pointer (some ⟨sb,0,none⟩)),J 7,J 8,J 9,J 10,J 11,J 12,J 13,J 14,J 15,J 16,n,kv,J 19,J 20,J 21,J 22,J 23,(.pointer (some ⟨c,0,none⟩)),(.pointer (some ⟨c,0,none⟩)),(.pointer (some ⟨c,0,none⟩)),(.pointer (some ⟨c,2,none⟩)),sl,(.pointer (some ⟨s,0,none⟩)),(.slice (some ⟨w.heap.size,0,none⟩) 1 1),J 31,J 32,J 33,J 34,J 35,J 36,J 37,J 38,J 39,J 40],[]⟩ (w.alloc (.cells #[.pointer (some ⟨s,0,none⟩)] 100)):=by
    refine wpAny_ready (rs:=[7]) (by kernel_rfl) (by simp) ?_
    refine AllReady.cons (o:={ dst:=some 31,op:=.call { callee:=.builtin .append,args:=#[.tmp 28,.tmp 30],argTypes:=#[80,80] },type:=80,pos:= "cluster.go:48",after:=#[{ on:=4,ground:=.data },{ on:=6,ground:=.data }],guard:=none }) rfl (fun K hK=>?_) ?_
    · obtain ⟨i,h1,h2,h3,h4⟩:=slot100
      refine append_step base 80 100 i (.pointer none) 1 8 und80 h1 h2 h3 h4 (by rfl) (by omega) (.tmp 28) (.tmp 30) rfl rfl sl k xs (by rfl) (hown.alloc _) ⟨w.heap.size,0,none⟩ 1 1 (by rfl) [.pointer (some ⟨s,0,none⟩)] (by rfl) (fun j u hu=>?_) (by simp [Value.oneCell']) (by simp only [maxLen];omega) (by omega) (by rw [alloc_size];omega) fun v' w' hrow hgr=>hK _ _ (any_cast (stabcdefgh v' w' hrow hgr) (by kernel_rfl) (by rfl) (by rfl))
      rcases j with _|j
      · have:u=.pointer (some ⟨s,0,none⟩):=by simpa using hu.symm
        subst this
        exact box_cell' w _ 100
      · simp at hu
    exact AllReady.nil
  have stabcdef:wpAny Tryz.L .any ops8 Q 5 #[true,true,true,true,true,true,false,false,false,false,false] ⟨#[n,J 1,J 2,J 3,(.pointer (some ⟨cb,0,none⟩)),J 5,(.pointer (some ⟨sb,0,none⟩)),J 7,J 8,J 9,J 10,J 11,J 12,J 13,J 14,J 15,J 16,n,kv,J 19,J 20,J 21,J 22,J 23,(.pointer (some ⟨c,0,none⟩)),(.pointer (some ⟨c,0,none⟩)),(.pointer (some ⟨c,0,none⟩)),(.pointer (some ⟨c,2,none⟩)),sl,(.pointer (some ⟨s,0,none⟩)),J 30,J 31,J 32,J 33,J 34,J 35,J 36,J 37,J 38,J 39,J 40],[]⟩ w:=by
    refine wpAny_ready (rs:=[6]) (by kernel_rfl) (by simp) ?_
    refine AllReady.cons (o:={ dst:=some 30,op:=.buildSlice 80 1 #[(0,.tmp 29)],type:=80,pos:= "cluster.go:48",after:=#[{ on:=5,ground:=.data }],guard:=none }) rfl (fun K hK=>?_) ?_
    · go_simp
      refine hK _ _ ?_
      exact (any_cast (stabcdefg) (by kernel_rfl) (by rfl) (by rfl))
    exact AllReady.nil
  have stabcde:wpAny Tryz.L .any ops8 Q 6 #[true,true,true,true,true,false,false,false,false,false,false] ⟨#[n,J 1,J 2,J 3,(.pointer (some ⟨cb,0,none⟩)),J 5,(.pointer (some ⟨sb,0,none⟩)),J 7,J 8,J 9,J 10,J 11,J 12,J 13,J 14,J 15,J 16,n,kv,J 19,J 20,J 21,J 22,J 23,(.pointer (some ⟨c,0,none⟩)),(.pointer (some ⟨c,0,none⟩)),(.pointer (some ⟨c,0,none⟩)),(.pointer (some ⟨c,2,none⟩)),sl,J 29,J 30,J 31,J 32,J 33,J 34,J 35,J 36,J 37,J 38,J 39,J 40],[]⟩ w:=by
    refine wpAny_ready (rs:=[5]) (by kernel_rfl) (by simp) ?_
    refine AllReady.cons (o:={ dst:=some 29,op:=.load 100 (.tmp 6),type:=100,pos:= "cluster.go:48",after:=#[],guard:=none }) rfl (fun K hK=>?_) ?_
    · go_simp
      refine hK _ _ ?_
      exact (any_cast (stabcdef) (by kernel_rfl) (by rfl) (by rfl))
    exact AllReady.nil
  have stabcdfg:wpAny Tryz.L .any ops8 Q 5 #[true,true,true,true,false,true,true,false,false,false,false] ⟨#[n,J 1,J 2,J 3,(.pointer (some ⟨cb,0,none⟩)),J 5,(.pointer (some ⟨sb,0,none⟩)),J 7,J 8,J 9,J 10,J 11,J 12,J 13,J 14,J 15,J 16,n,kv,J 19,J 20,J 21,J 22,J 23,(.pointer (some ⟨c,0,none⟩)),(.pointer (some ⟨c,0,none⟩)),(.pointer (some ⟨c,0,none⟩)),(.pointer (some ⟨c,2,none⟩)),J 28,(.pointer (some ⟨s,0,none⟩)),(.slice (some ⟨w.heap.size,0,none⟩) 1 1),J 31,J 32,J 33,J 34,J 35,J 36,J 37,J 38,J 39,J 40],[]⟩ (w.alloc (.cells #[.pointer (some ⟨s,0,none⟩)] 100)):=by
    refine wpAny_ready (rs:=[4]) (by kernel_rfl) (by simp) ?_
    refine AllReady.cons (o:={ dst:=some 28,op:=.load 80 (.tmp 27),type:=80,pos:= "cluster.go:48",after:=#[{ on:=3,ground:=.data }],guard:=none }) rfl (fun K hK=>?_) ?_
    · go_simp
      refine hK _ _ ?_
      exact (any_cast (stabcdefg) (by kernel_rfl) (by rfl) (by rfl))
    exact AllReady.nil
  have stabcdf:wpAny Tryz.L .any ops8 Q 6 #[true,true,true,true,false,true,false,false,false,false,false] ⟨#[n,J 1,J 2,J 3,(.pointer (some ⟨cb,0,none⟩)),J 5,(.pointer (some ⟨sb,0,none⟩)),J 7,J 8,J 9,J 10,J 11,J 12,J 13,J 14,J 15,J 16,n,kv,J 19,J 20,J 21,J 22,J 23,(.pointer (some ⟨c,0,none⟩)),(.pointer (some ⟨c,0,none⟩)),(.pointer (some ⟨c,0,none⟩)),(.pointer (some ⟨c,2,none⟩)),J 28,(.pointer (some ⟨s,0,none⟩)),J 30,J 31,J 32,J 33,J 34,J 35,J 36,J 37,J 38,J 39,J 40],[]⟩ w:=by
    refine wpAny_ready (rs:=[4,6]) (by kernel_rfl) (by simp) ?_
    refine AllReady.cons (o:={ dst:=some 28,op:=.load 80 (.tmp 27),type:=80,pos:= "cluster.go:48",after:=#[{ on:=3,ground:=.data }],guard:=none }) rfl (fun K hK=>?_) ?_
    · go_simp
      refine hK _ _ ?_
      exact (any_cast (stabcdef) (by kernel_rfl) (by rfl) (by rfl))
    refine AllReady.cons (o:={ dst:=some 30,op:=.buildSlice 80 1 #[(0,.tmp 29)],type:=80,pos:= "cluster.go:48",after:=#[{ on:=5,ground:=.data }],guard:=none }) rfl (fun K hK=>?_) ?_
    · go_simp
      refine hK _ _ ?_
      exact (any_cast (stabcdfg) (by kernel_rfl) (by rfl) (by rfl))
    exact AllReady.nil
  have stabcd:wpAny Tryz.L .any ops8 Q 7 #[true,true,true,true,false,false,false,false,false,false,false] ⟨#[n,J 1,J 2,J 3,(.pointer (some ⟨cb,0,none⟩)),J 5,(.pointer (some ⟨sb,0,none⟩)),J 7,J 8,J 9,J 10,J 11,J 12,J 13,J 14,J 15,J 16,n,kv,J 19,J 20,J 21,J 22,J 23,(.pointer (some ⟨c,0,none⟩)),(.pointer (some ⟨c,0,none⟩)),(.pointer (some ⟨c,0,none⟩)),(.pointer (some ⟨c,2,none⟩)),J 28,J 29,J 30,J 31,J 32,J 33,J 34,J 35,J 36,J 37,J 38,J 39,J 40],[]⟩ w:=by
    refine wpAny_ready (rs:=[4,5]) (by kernel_rfl) (by simp) ?_
    refine AllReady.cons (o:={ dst:=some 28,op:=.load 80 (.tmp 27),type:=80,pos:= "cluster.go:48",after:=#[{ on:=3,ground:=.data }],guard:=none }) rfl (fun K hK=>?_) ?_
    · go_simp
      refine hK _ _ ?_
      exact (any_cast (stabcde) (by kernel_rfl) (by rfl) (by rfl))
    refine AllReady.cons (o:={ dst:=some 29,op:=.load 100 (.tmp 6),type:=100,pos:= "cluster.go:48",after:=#[],guard:=none }) rfl (fun K hK=>?_) ?_
    · go_simp
      refine hK _ _ ?_
      exact (any_cast (stabcdf) (by kernel_rfl) (by rfl) (by rfl))
    exact AllReady.nil
  have stabcfg:wpAny Tryz.L .any ops8 Q 6 #[true,true,true,false,false,true,true,false,false,false,false] ⟨#[n,J 1,J 2,J 3,(.pointer (some ⟨cb,0,none⟩)),J 5,(.pointer (some ⟨sb,0,none⟩)),J 7,J 8,J 9,J 10,J 11,J 12,J 13,J 14,J 15,J 16,n,kv,J 19,J 20,J 21,J 22,J 23,(.pointer (some ⟨c,0,none⟩)),(.pointer (some ⟨c,0,none⟩)),(.pointer (some ⟨c,0,none⟩)),J 27,J 28,(.pointer (some ⟨s,0,none⟩)),(.slice (some ⟨w.heap.size,0,none⟩) 1 1),J 31,J 32,J 33,J 34,J 35,J 36,J 37,J 38,J 39,J 40],[]⟩ (w.alloc (.cells #[.pointer (some ⟨s,0,none⟩)] 100)):=by
    refine wpAny_ready (rs:=[3]) (by kernel_rfl) (by simp) ?_
    refine AllReady.cons (o:={ dst:=some 27,op:=.fieldAddr 94 (.tmp 26) 1,type:=0,pos:= "cluster.go:48",after:=#[{ on:=2,ground:=.data }],guard:=none }) rfl (fun K hK=>?_) ?_
    · go_simp
      refine hK _ _ ?_
      exact (any_cast (stabcdfg) (by kernel_rfl) (by rfl) (by rfl))
    exact AllReady.nil
  have stabcf:wpAny Tryz.L .any ops8 Q 7 #[true,true,true,false,false,true,false,false,false,false,false] ⟨#[n,J 1,J 2,J 3,(.pointer (some ⟨cb,0,none⟩)),J 5,(.pointer (some ⟨sb,0,none⟩)),J 7,J 8,J 9,J 10,J 11,J 12,J 13,J 14,J 15,J 16,n,kv,J 19,J 20,J 21,J 22,J 23,(.pointer (some ⟨c,0,none⟩)),(.pointer (some ⟨c,0,none⟩)),(.pointer (some ⟨c,0,none⟩)),J 27,J 28,(.pointer (some ⟨s,0,none⟩)),J 30,J 31,J 32,J 33,J 34,J 35,J 36,J 37,J 38,J 39,J 40],[]⟩ w:=by
    refine wpAny_ready (rs:=[3,6]) (by kernel_rfl) (by simp) ?_
    refine AllReady.cons (o:={ dst:=some 27,op:=.fieldAddr 94 (.tmp 26) 1,type:=0,pos:= "cluster.go:48",after:=#[{ on:=2,ground:=.data }],guard:=none }) rfl (fun K hK=>?_) ?_
    · go_simp
      refine hK _ _ ?_
      exact (any_cast (stabcdf) (by kernel_rfl) (by rfl) (by rfl))
    refine AllReady.cons (o:={ dst:=some 30,op:=.buildSlice 80 1 #[(0,.tmp 29)],type:=80,pos:= "cluster.go:48",after:=#[{ on:=5,ground:=.data }],guard:=none }) rfl (fun K hK=>?_) ?_
    · go_simp
      refine hK _ _ ?_
      exact (any_cast (stabcfg) (by kernel_rfl) (by rfl) (by rfl))
    exact AllReady.nil
  have stabc:wpAny Tryz.L .any ops8 Q 8 #[true,true,true,false,false,false,false,false,false,false,false] ⟨#[n,J 1,J 2,J 3,(.pointer (some ⟨cb,0,none⟩)),J 5,(.pointer (some ⟨sb,0,none⟩)),J 7,J 8,J 9,J 10,J 11,J 12,J 13,J 14,J 15,J 16,n,kv,J 19,J 20,J 21,J 22,J 23,(.pointer (some ⟨c,0,none⟩)),(.pointer (some ⟨c,0,none⟩)),(.pointer (some ⟨c,0,none⟩)),J 27,J 28,J 29,J 30,J 31,J 32,J 33,J 34,J 35,J 36,J 37,J 38,J 39,J 40],[]⟩ w:=by
    refine wpAny_ready (rs:=[3,5]) (by kernel_rfl) (by simp) ?_
    refine AllReady.cons (o:={ dst:=some 27,op:=.fieldAddr 94 (.tmp 26) 1,type:=0,pos:= "cluster.go:48",after:=#[{ on:=2,ground:=.data }],guard:=none }) rfl (fun K hK=>?_) ?_
    · go_simp
      refine hK _ _ ?_
      exact (any_cast (stabcd) (by kernel_rfl) (by rfl) (by rfl))
    refine AllReady.cons (o:={ dst:=some 29,op:=.load 100 (.tmp 6),type:=100,pos:= "cluster.go:48",after:=#[],guard:=none }) rfl (fun K hK=>?_) ?_
    · go_simp
      refine hK _ _ ?_
      exact (any_cast (stabcf) (by kernel_rfl) (by rfl) (by rfl))
    exact AllReady.nil
  have stabfg:wpAny Tryz.L .any ops8 Q 7 #[true,true,false,false,false,true,true,false,false,false,false] ⟨#[n,J 1,J 2,J 3,(.pointer (some ⟨cb,0,none⟩)),J 5,(.pointer (some ⟨sb,0,none⟩)),J 7,J 8,J 9,J 10,J 11,J 12,J 13,J 14,J 15,J 16,n,kv,J 19,J 20,J 21,J 22,J 23,(.pointer (some ⟨c,0,none⟩)),(.pointer (some ⟨c,0,none⟩)),J 26,J 27,J 28,(.pointer (some ⟨s,0,none⟩)),(.slice (some ⟨w.heap.size,0,none⟩) 1 1),J 31,J 32,J 33,J 34,J 35,J 36,J 37,J 38,J 39,J 40],[]⟩ (w.alloc (.cells #[.pointer (some ⟨s,0,none⟩)] 100)):=by
    refine wpAny_ready (rs:=[2]) (by kernel_rfl) (by simp) ?_
    refine AllReady.cons (o:={ dst:=some 26,op:=.nilCheck (.tmp 25),type:=0,pos:= "cluster.go:48",after:=#[{ on:=1,ground:=.data }],guard:=none }) rfl (fun K hK=>?_) ?_
    · go_simp
      refine hK _ _ ?_
      exact (any_cast (stabcfg) (by kernel_rfl) (by rfl) (by rfl))
    exact AllReady.nil
  have stabf:wpAny Tryz.L .any ops8 Q 8 #[true,true,false,false,false,true,false,false,false,false,false] ⟨#[n,J 1,J 2,J 3,(.pointer (some ⟨cb,0,none⟩)),J 5,(.pointer (some ⟨sb,0,none⟩)),J 7,J 8,J 9,J 10,J 11,J 12,J 13,J 14,J 15,J 16,n,kv,J 19,J 20,J 21,J 22,J 23,(.pointer (some ⟨c,0,none⟩)),(.pointer (some ⟨c,0,none⟩)),J 26,J 27,J 28,(.pointer (some ⟨s,0,none⟩)),J 30,J 31,J 32,J 33,J 34,J 35,J 36,J 37,J 38,J 39,J 40],[]⟩ w:=by
    refine wpAny_ready (rs:=[2,6]) (by kernel_rfl) (by simp) ?_
    refine AllReady.cons (o:={ dst:=some 26,op:=.nilCheck (.tmp 25),type:=0,pos:= "cluster.go:48",after:=#[{ on:=1,ground:=.data }],guard:=none }) rfl (fun K hK=>?_) ?_
    · go_simp
      refine hK _ _ ?_
      exact (any_cast (stabcf) (by kernel_rfl) (by rfl) (by rfl))
    refine AllReady.cons (o:={ dst:=some 30,op:=.buildSlice 80 1 #[(0,.tmp 29)],type:=80,pos:= "cluster.go:48",after:=#[{ on:=5,ground:=.data }],guard:=none }) rfl (fun K hK=>?_) ?_
    · go_simp
      refine hK _ _ ?_
      exact (any_cast (stabfg) (by kernel_rfl) (by rfl) (by rfl))
    exact AllReady.nil
  have stab:wpAny Tryz.L .any ops8 Q 9 #[true,true,false,false,false,false,false,false,false,false,false] ⟨#[n,J 1,J 2,J 3,(.pointer (some ⟨cb,0,none⟩)),J 5,(.pointer (some ⟨sb,0,none⟩)),J 7,J 8,J 9,J 10,J 11,J 12,J 13,J 14,J 15,J 16,n,kv,J 19,J 20,J 21,J 22,J 23,(.pointer (some ⟨c,0,none⟩)),(.pointer (some ⟨c,0,none⟩)),J 26,J 27,J 28,J 29,J 30,J 31,J 32,J 33,J 34,J 35,J 36,J 37,J 38,J 39,J 40],[]⟩ w:=by
    refine wpAny_ready (rs:=[2,5]) (by kernel_rfl) (by simp) ?_
    refine AllReady.cons (o:={ dst:=some 26,op:=.nilCheck (.tmp 25),type:=0,pos:= "cluster.go:48",after:=#[{ on:=1,ground:=.data }],guard:=none }) rfl (fun K hK=>?_) ?_
    · go_simp
      refine hK _ _ ?_
      exact (any_cast (stabc) (by kernel_rfl) (by rfl) (by rfl))
    refine AllReady.cons (o:={ dst:=some 29,op:=.load 100 (.tmp 6),type:=100,pos:= "cluster.go:48",after:=#[],guard:=none }) rfl (fun K hK=>?_) ?_
    · go_simp
      refine hK _ _ ?_
      exact (any_cast (stabf) (by kernel_rfl) (by rfl) (by rfl))
    exact AllReady.nil
  have stafg:wpAny Tryz.L .any ops8 Q 8 #[true,false,false,false,false,true,true,false,false,false,false] ⟨#[n,J 1,J 2,J 3,(.pointer (some ⟨cb,0,none⟩)),J 5,(.pointer (some ⟨sb,0,none⟩)),J 7,J 8,J 9,J 10,J 11,J 12,J 13,J 14,J 15,J 16,n,kv,J 19,J 20,J 21,J 22,J 23,(.pointer (some ⟨c,0,none⟩)),J 25,J 26,J 27,J 28,(.pointer (some ⟨s,0,none⟩)),(.slice (some ⟨w.heap.size,0,none⟩) 1 1),J 31,J 32,J 33,J 34,J 35,J 36,J 37,J 38,J 39,J 40],[]⟩ (w.alloc (.cells #[.pointer (some ⟨s,0,none⟩)] 100)):=by
    refine wpAny_ready (rs:=[1]) (by kernel_rfl) (by simp) ?_
    refine AllReady.cons (o:={ dst:=some 25,op:=.load 23 (.tmp 4),type:=23,pos:= "cluster.go:48",after:=#[],guard:=none }) rfl (fun K hK=>?_) ?_
    · go_simp
      refine hK _ _ ?_
      exact (any_cast (stabfg) (by kernel_rfl) (by rfl) (by rfl))
    exact AllReady.nil
  have staf:wpAny Tryz.L .any ops8 Q 9 #[true,false,false,false,false,true,false,false,false,false,false] ⟨#[n,J 1,J 2,J 3,(.pointer (some ⟨cb,0,none⟩)),J 5,(.pointer (some ⟨sb,0,none⟩)),J 7,J 8,J 9,J 10,J 11,J 12,J 13,J 14,J 15,J 16,n,kv,J 19,J 20,J 21,J 22,J 23,(.pointer (some ⟨c,0,none⟩)),J 25,J 26,J 27,J 28,(.pointer (some ⟨s,0,none⟩)),J 30,J 31,J 32,J 33,J 34,J 35,J 36,J 37,J 38,J 39,J 40],[]⟩ w:=by
    refine wpAny_ready (rs:=[1,6]) (by kernel_rfl) (by simp) ?_
    refine AllReady.cons (o:={ dst:=some 25,op:=.load 23 (.tmp 4),type:=23,pos:= "cluster.go:48",after:=#[],guard:=none }) rfl (fun K hK=>?_) ?_
    · go_simp
      refine hK _ _ ?_
      exact (any_cast (stabf) (by kernel_rfl) (by rfl) (by rfl))
    refine AllReady.cons (o:={ dst:=some 30,op:=.buildSlice 80 1 #[(0,.tmp 29)],type:=80,pos:= "cluster.go:48",after:=#[{ on:=5,ground:=.data }],guard:=none }) rfl (fun K hK=>?_) ?_
    · go_simp
      refine hK _ _ ?_
      exact (any_cast (stafg) (by kernel_rfl) (by rfl) (by rfl))
    exact AllReady.nil
  have sta:wpAny Tryz.L .any ops8 Q 10 #[true,false,false,false,false,false,false,false,false,false,false] ⟨#[n,J 1,J 2,J 3,(.pointer (some ⟨cb,0,none⟩)),J 5,(.pointer (some ⟨sb,0,none⟩)),J 7,J 8,J 9,J 10,J 11,J 12,J 13,J 14,J 15,J 16,n,kv,J 19,J 20,J 21,J 22,J 23,(.pointer (some ⟨c,0,none⟩)),J 25,J 26,J 27,J 28,J 29,J 30,J 31,J 32,J 33,J 34,J 35,J 36,J 37,J 38,J 39,J 40],[]⟩ w:=by
    refine wpAny_ready (rs:=[1,5]) (by kernel_rfl) (by simp) ?_
    refine AllReady.cons (o:={ dst:=some 25,op:=.load 23 (.tmp 4),type:=23,pos:= "cluster.go:48",after:=#[],guard:=none }) rfl (fun K hK=>?_) ?_
    · go_simp
      refine hK _ _ ?_
      exact (any_cast (stab) (by kernel_rfl) (by rfl) (by rfl))
    refine AllReady.cons (o:={ dst:=some 29,op:=.load 100 (.tmp 6),type:=100,pos:= "cluster.go:48",after:=#[],guard:=none }) rfl (fun K hK=>?_) ?_
    · go_simp
      refine hK _ _ ?_
      exact (any_cast (staf) (by kernel_rfl) (by rfl) (by rfl))
    exact AllReady.nil
  have stbcdefgh:∀ sl' w',w'.ownsRow base 100 1 sl' (k+1) (xs ++ [.pointer (some ⟨s,0,none⟩)])->(w.alloc (.cells #[.pointer (some ⟨s,0,none⟩)] 100)).grownBy w' sl.ownBlock->wpAny Tryz.L .any ops8 Q 4 #[false,true,true,true,true,true,true,true,false,false,false] ⟨#[n,J 1,J 2,J 3,(.pointer (some ⟨cb,0,none⟩)),J 5,(.pointer (some ⟨sb,0,none⟩)),J 7,J 8,J 9,J 10,J 11,J 12,J 13,J 14,J 15,J 16,n,kv,J 19,J 20,J 21,J 22,J 23,J 24,(.pointer (some ⟨c,0,none⟩)),(.pointer (some ⟨c,0,none⟩)),(.pointer (some ⟨c,2,none⟩)),sl,(.pointer (some ⟨s,0,none⟩)),(.slice (some ⟨w.heap.size,0,none⟩) 1 1),sl',J 32,J 33,J 34,J 35,J 36,J 37,J 38,J 39,J 40],[]⟩ w':=by
    intro sl' w' hrow hgr
    have hcb':=hgr.cell hcb1 (a:=⟨cb,0,none⟩) (fun e=>by have h0:base<=cb:=(hown.lt _ e.symm).1;omega)
    refine wpAny_ready (rs:=[0]) (by kernel_rfl) (by simp) ?_
    refine AllReady.cons (o:={ dst:=some 24,op:=.load 23 (.tmp 4),type:=23,pos:= "cluster.go:48",after:=#[],guard:=none }) rfl (fun K hK=>?_) ?_
    · go_simp
      refine hK _ _ ?_
      exact (any_cast (stabcdefgh sl' w' hrow hgr) (by kernel_rfl) (by rfl) (by rfl))
    exact AllReady.nil
  have stbcdefg:wpAny Tryz.L .any ops8 Q 5 #[false,true,true,true,true,true,true,false,false,false,false] ⟨#[n,J 1,J 2,J 3,(.pointer (some ⟨cb,0,none⟩)),J 5,(.pointer (some ⟨sb,0,none⟩)),J 7,J 8,J 9,J 10,J 11,J 12,J 13,J 14,J 15,J 16,n,kv,J 19,J 20,J 21,J 22,J 23,J 24,(.pointer (some ⟨c,0,none⟩)),(.pointer (some ⟨c,0,none⟩)),(.pointer (some ⟨c,2,none⟩)),sl,(.pointer (some ⟨s,0,none⟩)),(.slice (some ⟨w.heap.size,0,none⟩) 1 1),J 31,J 32,J 33,J 34,J 35,J 36,J 37,J 38,J 39,J 40],[]⟩ (w.alloc (.cells #[.pointer (some ⟨s,0,none⟩)] 100)):=by
    refine wpAny_ready (rs:=[0,7]) (by kernel_rfl) (by simp) ?_
    refine AllReady.cons (o:={ dst:=some 24,op:=.load 23 (.tmp 4),type:=23,pos:= "cluster.go:48",after:=#[],guard:=none }) rfl (fun K hK=>?_) ?_
    · go_simp
      refine hK _ _ ?_
      exact (any_cast (stabcdefg) (by kernel_rfl) (by rfl) (by rfl))
    refine AllReady.cons (o:={ dst:=some 31,op:=.call { callee:=.builtin .append,args:=#[.tmp 28,.tmp 30],argTypes:=#[80,80] },type:=80,pos:= "cluster.go:48",after:=#[{ on:=4,ground:=.data },{ on:=6,ground:=.data }],guard:=none }) rfl (fun K hK=>?_) ?_
    · obtain ⟨i,h1,h2,h3,h4⟩:=slot100
      refine append_step base 80 100 i (.pointer none) 1 8 und80 h1 h2 h3 h4 (by rfl) (by omega) (.tmp 28) (.tmp 30) rfl rfl sl k xs (by rfl) (hown.alloc _) ⟨w.heap.size,0,none⟩ 1 1 (by rfl) [.pointer (some ⟨s,0,none⟩)] (by rfl) (fun j u hu=>?_) (by simp [Value.oneCell']) (by simp only [maxLen];omega) (by omega) (by rw [alloc_size];omega) fun v' w' hrow hgr=>hK _ _ (any_cast (stbcdefgh v' w' hrow hgr) (by kernel_rfl) (by rfl) (by rfl))
      rcases j with _|j
      · have:u=.pointer (some ⟨s,0,none⟩):=by simpa using hu.symm
        subst this
        exact box_cell' w _ 100
      · simp at hu
    exact AllReady.nil
  have stbcdef:wpAny Tryz.L .any ops8 Q 6 #[false,true,true,true,true,true,false,false,false,false,false] ⟨#[n,J 1,J 2,J 3,(.pointer (some ⟨cb,0,none⟩)),J 5,(.pointer (some ⟨sb,0,none⟩)),J 7,J 8,J 9,J 10,J 11,J 12,J 13,J 14,J 15,J 16,n,kv,J 19,J 20,J 21,J 22,J 23,J 24,(.pointer (some ⟨c,0,none⟩)),(.pointer (some ⟨c,0,none⟩)),(.pointer (some ⟨c,2,none⟩)),sl,(.pointer (some ⟨s,0,none⟩)),J 30,J 31,J 32,J 33,J 34,J 35,J 36,J 37,J 38,J 39,J 40],[]⟩ w:=by
    refine wpAny_ready (rs:=[0,6]) (by kernel_rfl) (by simp) ?_
    refine AllReady.cons (o:={ dst:=some 24,op:=.load 23 (.tmp 4),type:=23,pos:= "cluster.go:48",after:=#[],guard:=none }) rfl (fun K hK=>?_) ?_
    · go_simp
      refine hK _ _ ?_
      exact (any_cast (stabcdef) (by kernel_rfl) (by rfl) (by rfl))
    refine AllReady.cons (o:={ dst:=some 30,op:=.buildSlice 80 1 #[(0,.tmp 29)],type:=80,pos:= "cluster.go:48",after:=#[{ on:=5,ground:=.data }],guard:=none }) rfl (fun K hK=>?_) ?_
    · go_simp
      refine hK _ _ ?_
      exact (any_cast (stbcdefg) (by kernel_rfl) (by rfl) (by rfl))
    exact AllReady.nil
  have stbcde:wpAny Tryz.L .any ops8 Q 7 #[false,true,true,true,true,false,false,false,false,false,false] ⟨#[n,J 1,J 2,J 3,(.pointer (some ⟨cb,0,none⟩)),J 5,(.pointer (some ⟨sb,0,none⟩)),J 7,J 8,J 9,J 10,J 11,J 12,J 13,J 14,J 15,J 16,n,kv,J 19,J 20,J 21,J 22,J 23,J 24,(.pointer (some ⟨c,0,none⟩)),(.pointer (some ⟨c,0,none⟩)),(.pointer (some ⟨c,2,none⟩)),sl,J 29,J 30,J 31,J 32,J 33,J 34,J 35,J 36,J 37,J 38,J 39,J 40],[]⟩ w:=by
    refine wpAny_ready (rs:=[0,5]) (by kernel_rfl) (by simp) ?_
    refine AllReady.cons (o:={ dst:=some 24,op:=.load 23 (.tmp 4),type:=23,pos:= "cluster.go:48",after:=#[],guard:=none }) rfl (fun K hK=>?_) ?_
    · go_simp
      refine hK _ _ ?_
      exact (any_cast (stabcde) (by kernel_rfl) (by rfl) (by rfl))
    refine AllReady.cons (o:={ dst:=some 29,op:=.load 100 (.tmp 6),type:=100,pos:= "cluster.go:48",after:=#[],guard:=none }) rfl (fun K hK=>?_) ?_
    · go_simp
      refine hK _ _ ?_
      exact (any_cast (stbcdef) (by kernel_rfl) (by rfl) (by rfl))
    exact AllReady.nil
  have stbcdfg:wpAny Tryz.L .any ops8 Q 6 #[false,true,true,true,false,true,true,false,false,false,false] ⟨#[n,J 1,J 2,J 3,(.pointer (some ⟨cb,0,none⟩)),J 5,(.pointer (some ⟨sb,0,none⟩)),J 7,J 8,J 9,J 10,J 11,J 12,J 13,J 14,J 15,J 16,n,kv,J 19,J 20,J 21,J 22,J 23,J 24,(.pointer (some ⟨c,0,none⟩)),(.pointer (some ⟨c,0,none⟩)),(.pointer (some ⟨c,2,none⟩)),J 28,(.pointer (some ⟨s,0,none⟩)),(.slice (some ⟨w.heap.size,0,none⟩) 1 1),J 31,J 32,J 33,J 34,J 35,J 36,J 37,J 38,J 39,J 40],[]⟩ (w.alloc (.cells #[.pointer (some ⟨s,0,none⟩)] 100)):=by
    refine wpAny_ready (rs:=[0,4]) (by kernel_rfl) (by simp) ?_
    refine AllReady.cons (o:={ dst:=some 24,op:=.load 23 (.tmp 4),type:=23,pos:= "cluster.go:48",after:=#[],guard:=none }) rfl (fun K hK=>?_) ?_
    · go_simp
      refine hK _ _ ?_
      exact (any_cast (stabcdfg) (by kernel_rfl) (by rfl) (by rfl))
    refine AllReady.cons (o:={ dst:=some 28,op:=.load 80 (.tmp 27),type:=80,pos:= "cluster.go:48",after:=#[{ on:=3,ground:=.data }],guard:=none }) rfl (fun K hK=>?_) ?_
    · go_simp
      refine hK _ _ ?_
      exact (any_cast (stbcdefg) (by kernel_rfl) (by rfl) (by rfl))
    exact AllReady.nil
  have stbcdf:wpAny Tryz.L .any ops8 Q 7 #[false,true,true,true,false,true,false,false,false,false,false] ⟨#[n,J 1,J 2,J 3,(.pointer (some ⟨cb,0,none⟩)),J 5,(.pointer (some ⟨sb,0,none⟩)),J 7,J 8,J 9,J 10,J 11,J 12,J 13,J 14,J 15,J 16,n,kv,J 19,J 20,J 21,J 22,J 23,J 24,(.pointer (some ⟨c,0,none⟩)),(.pointer (some ⟨c,0,none⟩)),(.pointer (some ⟨c,2,none⟩)),J 28,(.pointer (some ⟨s,0,none⟩)),J 30,J 31,J 32,J 33,J 34,J 35,J 36,J 37,J 38,J 39,J 40],[]⟩ w:=by
    refine wpAny_ready (rs:=[0,4,6]) (by kernel_rfl) (by simp) ?_
    refine AllReady.cons (o:={ dst:=some 24,op:=.load 23 (.tmp 4),type:=23,pos:= "cluster.go:48",after:=#[],guard:=none }) rfl (fun K hK=>?_) ?_
    · go_simp
      refine hK _ _ ?_
      exact (any_cast (stabcdf) (by kernel_rfl) (by rfl) (by rfl))
    refine AllReady.cons (o:={ dst:=some 28,op:=.load 80 (.tmp 27),type:=80,pos:= "cluster.go:48",after:=#[{ on:=3,ground:=.data }],guard:=none }) rfl (fun K hK=>?_) ?_
    · go_simp
      refine hK _ _ ?_
      exact (any_cast (stbcdef) (by kernel_rfl) (by rfl) (by rfl))
    refine AllReady.cons (o:={ dst:=some 30,op:=.buildSlice 80 1 #[(0,.tmp 29)],type:=80,pos:= "cluster.go:48",after:=#[{ on:=5,ground:=.data }],guard:=none }) rfl (fun K hK=>?_) ?_
    · go_simp
      refine hK _ _ ?_
      exact (any_cast (stbcdfg) (by kernel_rfl) (by rfl) (by rfl))
    exact AllReady.nil
  have stbcd:wpAny Tryz.L .any ops8 Q 8 #[false,true,true,true,false,false,false,false,false,false,false] ⟨#[n,J 1,J 2,J 3,(.pointer (some ⟨cb,0,none⟩)),J 5,(.pointer (some ⟨sb,0,none⟩)),J 7,J 8,J 9,J 10,J 11,J 12,J 13,J 14,J 15,J 16,n,kv,J 19,J 20,J 21,J 22,J 23,J 24,(.pointer (some ⟨c,0,none⟩)),(.pointer (some ⟨c,0,none⟩)),(.pointer (some ⟨c,2,none⟩)),J 28,J 29,J 30,J 31,J 32,J 33,J 34,J 35,J 36,J 37,J 38,J 39,J 40],[]⟩ w:=by
    refine wpAny_ready (rs:=[0,4,5]) (by kernel_rfl) (by simp) ?_
    refine AllReady.cons (o:={ dst:=some 24,op:=.load 23 (.tmp 4),type:=23,pos:= "cluster.go:48",after:=#[],guard:=none }) rfl (fun K hK=>?_) ?_
    · go_simp
      refine hK _ _ ?_
      exact (any_cast (stabcd) (by kernel_rfl) (by rfl) (by rfl))
    refine AllReady.cons (o:={ dst:=some 28,op:=.load 80 (.tmp 27),type:=80,pos:= "cluster.go:48",after:=#[{ on:=3,ground:=.data }],guard:=none }) rfl (fun K hK=>?_) ?_
    · go_simp
      refine hK _ _ ?_
      exact (any_cast (stbcde) (by kernel_rfl) (by rfl) (by rfl))
    refine AllReady.cons (o:={ dst:=some 29,op:=.load 100 (.tmp 6),type:=100,pos:= "cluster.go:48",after:=#[],guard:=none }) rfl (fun K hK=>?_) ?_
    · go_simp
      refine hK _ _ ?_
      exact (any_cast (stbcdf) (by kernel_rfl) (by rfl) (by rfl))
    exact AllReady.nil
  have stbcfg:wpAny Tryz.L .any ops8 Q 7 #[false,true,true,false,false,true,true,false,false,false,false] ⟨#[n,J 1,J 2,J 3,(.pointer (some ⟨cb,0,none⟩)),J 5,(.pointer (some ⟨sb,0,none⟩)),J 7,J 8,J 9,J 10,J 11,J 12,J 13,J 14,J 15,J 16,n,kv,J 19,J 20,J 21,J 22,J 23,J 24,(.pointer (some ⟨c,0,none⟩)),(.pointer (some ⟨c,0,none⟩)),J 27,J 28,(.pointer (some ⟨s,0,none⟩)),(.slice (some ⟨w.heap.size,0,none⟩) 1 1),J 31,J 32,J 33,J 34,J 35,J 36,J 37,J 38,J 39,J 40],[]⟩ (w.alloc (.cells #[.pointer (some ⟨s,0,none⟩)] 100)):=by
    refine wpAny_ready (rs:=[0,3]) (by kernel_rfl) (by simp) ?_
    refine AllReady.cons (o:={ dst:=some 24,op:=.load 23 (.tmp 4),type:=23,pos:= "cluster.go:48",after:=#[],guard:=none }) rfl (fun K hK=>?_) ?_
    · go_simp
      refine hK _ _ ?_
      exact (any_cast (stabcfg) (by kernel_rfl) (by rfl) (by rfl))
    refine AllReady.cons (o:={ dst:=some 27,op:=.fieldAddr 94 (.tmp 26) 1,type:=0,pos:= "cluster.go:48",after:=#[{ on:=2,ground:=.data }],guard:=none }) rfl (fun K hK=>?_) ?_
    · go_simp
      refine hK _ _ ?_
      exact (any_cast (stbcdfg) (by kernel_rfl) (by rfl) (by rfl))
    exact AllReady.nil
  have stbcf:wpAny Tryz.L .any ops8 Q 8 #[false,true,true,false,false,true,false,false,false,false,false] ⟨#[n,J 1,J 2,J 3,(.pointer (some ⟨cb,0,none⟩)),J 5,(.pointer (some ⟨sb,0,none⟩)),J 7,J 8,J 9,J 10,J 11,J 12,J 13,J 14,J 15,J 16,n,kv,J 19,J 20,J 21,J 22,J 23,J 24,(.pointer (some ⟨c,0,none⟩)),(.pointer (some ⟨c,0,none⟩)),J 27,J 28,(.pointer (some ⟨s,0,none⟩)),J 30,J 31,J 32,J 33,J 34,J 35,J 36,J 37,J 38,J 39,J 40],[]⟩ w:=by
    refine wpAny_ready (rs:=[0,3,6]) (by kernel_rfl) (by simp) ?_
    refine AllReady.cons (o:={ dst:=some 24,op:=.load 23 (.tmp 4),type:=23,pos:= "cluster.go:48",after:=#[],guard:=none }) rfl (fun K hK=>?_) ?_
    · go_simp
      refine hK _ _ ?_
      exact (any_cast (stabcf) (by kernel_rfl) (by rfl) (by rfl))
    refine AllReady.cons (o:={ dst:=some 27,op:=.fieldAddr 94 (.tmp 26) 1,type:=0,pos:= "cluster.go:48",after:=#[{ on:=2,ground:=.data }],guard:=none }) rfl (fun K hK=>?_) ?_
    · go_simp
      refine hK _ _ ?_
      exact (any_cast (stbcdf) (by kernel_rfl) (by rfl) (by rfl))
    refine AllReady.cons (o:={ dst:=some 30,op:=.buildSlice 80 1 #[(0,.tmp 29)],type:=80,pos:= "cluster.go:48",after:=#[{ on:=5,ground:=.data }],guard:=none }) rfl (fun K hK=>?_) ?_
    · go_simp
      refine hK _ _ ?_
      exact (any_cast (stbcfg) (by kernel_rfl) (by rfl) (by rfl))
    exact AllReady.nil
  have stbc:wpAny Tryz.L .any ops8 Q 9 #[false,true,true,false,false,false,false,false,false,false,false] ⟨#[n,J 1,J 2,J 3,(.pointer (some ⟨cb,0,none⟩)),J 5,(.pointer (some ⟨sb,0,none⟩)),J 7,J 8,J 9,J 10,J 11,J 12,J 13,J 14,J 15,J 16,n,kv,J 19,J 20,J 21,J 22,J 23,J 24,(.pointer (some ⟨c,0,none⟩)),(.pointer (some ⟨c,0,none⟩)),J 27,J 28,J 29,J 30,J 31,J 32,J 33,J 34,J 35,J 36,J 37,J 38,J 39,J 40],[]⟩ w:=by
    refine wpAny_ready (rs:=[0,3,5]) (by kernel_rfl) (by simp) ?_
    refine AllReady.cons (o:={ dst:=some 24,op:=.load 23 (.tmp 4),type:=23,pos:= "cluster.go:48",after:=#[],guard:=none }) rfl (fun K hK=>?_) ?_
    · go_simp
      refine hK _ _ ?_
      exact (any_cast (stabc) (by kernel_rfl) (by rfl) (by rfl))
    refine AllReady.cons (o:={ dst:=some 27,op:=.fieldAddr 94 (.tmp 26) 1,type:=0,pos:= "cluster.go:48",after:=#[{ on:=2,ground:=.data }],guard:=none }) rfl (fun K hK=>?_) ?_
    · go_simp
      refine hK _ _ ?_
      exact (any_cast (stbcd) (by kernel_rfl) (by rfl) (by rfl))
    refine AllReady.cons (o:={ dst:=some 29,op:=.load 100 (.tmp 6),type:=100,pos:= "cluster.go:48",after:=#[],guard:=none }) rfl (fun K hK=>?_) ?_
    · go_simp
      refine hK _ _ ?_
      exact (any_cast (stbcf) (by kernel_rfl) (by rfl) (by rfl))
    exact AllReady.nil
  have stbfg:wpAny Tryz.L .any ops8 Q 8 #[false,true,false,false,false,true,true,false,false,false,false] ⟨#[n,J 1,J 2,J 3,(.pointer (some ⟨cb,0,none⟩)),J 5,(.pointer (some ⟨sb,0,none⟩)),J 7,J 8,J 9,J 10,J 11,J 12,J 13,J 14,J 15,J 16,n,kv,J 19,J 20,J 21,J 22,J 23,J 24,(.pointer (some ⟨c,0,none⟩)),J 26,J 27,J 28,(.pointer (some ⟨s,0,none⟩)),(.slice (some ⟨w.heap.size,0,none⟩) 1 1),J 31,J 32,J 33,J 34,J 35,J 36,J 37,J 38,J 39,J 40],[]⟩ (w.alloc (.cells #[.pointer (some ⟨s,0,none⟩)] 100)):=by
    refine wpAny_ready (rs:=[0,2]) (by kernel_rfl) (by simp) ?_
    refine AllReady.cons (o:={ dst:=some 24,op:=.load 23 (.tmp 4),type:=23,pos:= "cluster.go:48",after:=#[],guard:=none }) rfl (fun K hK=>?_) ?_
    · go_simp
      refine hK _ _ ?_
      exact (any_cast (stabfg) (by kernel_rfl) (by rfl) (by rfl))
    refine AllReady.cons (o:={ dst:=some 26,op:=.nilCheck (.tmp 25),type:=0,pos:= "cluster.go:48",after:=#[{ on:=1,ground:=.data }],guard:=none }) rfl (fun K hK=>?_) ?_
    · go_simp
      refine hK _ _ ?_
      exact (any_cast (stbcfg) (by kernel_rfl) (by rfl) (by rfl))
    exact AllReady.nil
  have stbf:wpAny Tryz.L .any ops8 Q 9 #[false,true,false,false,false,true,false,false,false,false,false] ⟨#[n,J 1,J 2,J 3,(.pointer (some ⟨cb,0,none⟩)),J 5,(.pointer (some ⟨sb,0,none⟩)),J 7,J 8,J 9,J 10,J 11,J 12,J 13,J 14,J 15,J 16,n,kv,J 19,J 20,J 21,J 22,J 23,J 24,(.pointer (some ⟨c,0,none⟩)),J 26,J 27,J 28,(.pointer (some ⟨s,0,none⟩)),J 30,J 31,J 32,J 33,J 34,J 35,J 36,J 37,J 38,J 39,J 40],[]⟩ w:=by
    refine wpAny_ready (rs:=[0,2,6]) (by kernel_rfl) (by simp) ?_
    refine AllReady.cons (o:={ dst:=some 24,op:=.load 23 (.tmp 4),type:=23,pos:= "cluster.go:48",after:=#[],guard:=none }) rfl (fun K hK=>?_) ?_
    · go_simp
      refine hK _ _ ?_
      exact (any_cast (stabf) (by kernel_rfl) (by rfl) (by rfl))
    refine AllReady.cons (o:={ dst:=some 26,op:=.nilCheck (.tmp 25),type:=0,pos:= "cluster.go:48",after:=#[{ on:=1,ground:=.data }],guard:=none }) rfl (fun K hK=>?_) ?_
    · go_simp
      refine hK _ _ ?_
      exact (any_cast (stbcf) (by kernel_rfl) (by rfl) (by rfl))
    refine AllReady.cons (o:={ dst:=some 30,op:=.buildSlice 80 1 #[(0,.tmp 29)],type:=80,pos:= "cluster.go:48",after:=#[{ on:=5,ground:=.data }],guard:=none }) rfl (fun K hK=>?_) ?_
    · go_simp
      refine hK _ _ ?_
      exact (any_cast (stbfg) (by kernel_rfl) (by rfl) (by rfl))
    exact AllReady.nil
  have stb:wpAny Tryz.L .any ops8 Q 10 #[false,true,false,false,false,false,false,false,false,false,false] ⟨#[n,J 1,J 2,J 3,(.pointer (some ⟨cb,0,none⟩)),J 5,(.pointer (some ⟨sb,0,none⟩)),J 7,J 8,J 9,J 10,J 11,J 12,J 13,J 14,J 15,J 16,n,kv,J 19,J 20,J 21,J 22,J 23,J 24,(.pointer (some ⟨c,0,none⟩)),J 26,J 27,J 28,J 29,J 30,J 31,J 32,J 33,J 34,J 35,J 36,J 37,J 38,J 39,J 40],[]⟩ w:=by
    refine wpAny_ready (rs:=[0,2,5]) (by kernel_rfl) (by simp) ?_
    refine AllReady.cons (o:={ dst:=some 24,op:=.load 23 (.tmp 4),type:=23,pos:= "cluster.go:48",after:=#[],guard:=none }) rfl (fun K hK=>?_) ?_
    · go_simp
      refine hK _ _ ?_
      exact (any_cast (stab) (by kernel_rfl) (by rfl) (by rfl))
    refine AllReady.cons (o:={ dst:=some 26,op:=.nilCheck (.tmp 25),type:=0,pos:= "cluster.go:48",after:=#[{ on:=1,ground:=.data }],guard:=none }) rfl (fun K hK=>?_) ?_
    · go_simp
      refine hK _ _ ?_
      exact (any_cast (stbc) (by kernel_rfl) (by rfl) (by rfl))
    refine AllReady.cons (o:={ dst:=some 29,op:=.load 100 (.tmp 6),type:=100,pos:= "cluster.go:48",after:=#[],guard:=none }) rfl (fun K hK=>?_) ?_
    · go_simp
      refine hK _ _ ?_
      exact (any_cast (stbf) (by kernel_rfl) (by rfl) (by rfl))
    exact AllReady.nil
  have stfg:wpAny Tryz.L .any ops8 Q 9 #[false,false,false,false,false,true,true,false,false,false,false] ⟨#[n,J 1,J 2,J 3,(.pointer (some ⟨cb,0,none⟩)),J 5,(.pointer (some ⟨sb,0,none⟩)),J 7,J 8,J 9,J 10,J 11,J 12,J 13,J 14,J 15,J 16,n,kv,J 19,J 20,J 21,J 22,J 23,J 24,J 25,J 26,J 27,J 28,(.pointer (some ⟨s,0,none⟩)),(.slice (some ⟨w.heap.size,0,none⟩) 1 1),J 31,J 32,J 33,J 34,J 35,J 36,J 37,J 38,J 39,J 40],[]⟩ (w.alloc (.cells #[.pointer (some ⟨s,0,none⟩)] 100)):=by
    refine wpAny_ready (rs:=[0,1]) (by kernel_rfl) (by simp) ?_
    refine AllReady.cons (o:={ dst:=some 24,op:=.load 23 (.tmp 4),type:=23,pos:= "cluster.go:48",after:=#[],guard:=none }) rfl (fun K hK=>?_) ?_
    · go_simp
      refine hK _ _ ?_
      exact (any_cast (stafg) (by kernel_rfl) (by rfl) (by rfl))
    refine AllReady.cons (o:={ dst:=some 25,op:=.load 23 (.tmp 4),type:=23,pos:= "cluster.go:48",after:=#[],guard:=none }) rfl (fun K hK=>?_) ?_
    · go_simp
      refine hK _ _ ?_
      exact (any_cast (stbfg) (by kernel_rfl) (by rfl) (by rfl))
    exact AllReady.nil
  have stf:wpAny Tryz.L .any ops8 Q 10 #[false,false,false,false,false,true,false,false,false,false,false] ⟨#[n,J 1,J 2,J 3,(.pointer (some ⟨cb,0,none⟩)),J 5,(.pointer (some ⟨sb,0,none⟩)),J 7,J 8,J 9,J 10,J 11,J 12,J 13,J 14,J 15,J 16,n,kv,J 19,J 20,J 21,J 22,J 23,J 24,J 25,J 26,J 27,J 28,(.pointer (some ⟨s,0,none⟩)),J 30,J 31,J 32,J 33,J 34,J 35,J 36,J 37,J 38,J 39,J 40],[]⟩ w:=by
    refine wpAny_ready (rs:=[0,1,6]) (by kernel_rfl) (by simp) ?_
    refine AllReady.cons (o:={ dst:=some 24,op:=.load 23 (.tmp 4),type:=23,pos:= "cluster.go:48",after:=#[],guard:=none }) rfl (fun K hK=>?_) ?_
    · go_simp
      refine hK _ _ ?_
      exact (any_cast (staf) (by kernel_rfl) (by rfl) (by rfl))
    refine AllReady.cons (o:={ dst:=some 25,op:=.load 23 (.tmp 4),type:=23,pos:= "cluster.go:48",after:=#[],guard:=none }) rfl (fun K hK=>?_) ?_
    · go_simp
      refine hK _ _ ?_
      exact (any_cast (stbf) (by kernel_rfl) (by rfl) (by rfl))
    refine AllReady.cons (o:={ dst:=some 30,op:=.buildSlice 80 1 #[(0,.tmp 29)],type:=80,pos:= "cluster.go:48",after:=#[{ on:=5,ground:=.data }],guard:=none }) rfl (fun K hK=>?_) ?_
    · go_simp
      refine hK _ _ ?_
      exact (any_cast (stfg) (by kernel_rfl) (by rfl) (by rfl))
    exact AllReady.nil
  have st:wpAny Tryz.L .any ops8 Q 11 #[false,false,false,false,false,false,false,false,false,false,false] ⟨#[n,J 1,J 2,J 3,(.pointer (some ⟨cb,0,none⟩)),J 5,(.pointer (some ⟨sb,0,none⟩)),J 7,J 8,J 9,J 10,J 11,J 12,J 13,J 14,J 15,J 16,n,kv,J 19,J 20,J 21,J 22,J 23,J 24,J 25,J 26,J 27,J 28,J 29,J 30,J 31,J 32,J 33,J 34,J 35,J 36,J 37,J 38,J 39,J 40],[]⟩ w:=by
    refine wpAny_ready (rs:=[0,1,5]) (by kernel_rfl) (by simp) ?_
    refine AllReady.cons (o:={ dst:=some 24,op:=.load 23 (.tmp 4),type:=23,pos:= "cluster.go:48",after:=#[],guard:=none }) rfl (fun K hK=>?_) ?_
    · go_simp
      refine hK _ _ ?_
      exact (any_cast (sta) (by kernel_rfl) (by rfl) (by rfl))
    refine AllReady.cons (o:={ dst:=some 25,op:=.load 23 (.tmp 4),type:=23,pos:= "cluster.go:48",after:=#[],guard:=none }) rfl (fun K hK=>?_) ?_
    · go_simp
      refine hK _ _ ?_
      exact (any_cast (stb) (by kernel_rfl) (by rfl) (by rfl))
    refine AllReady.cons (o:={ dst:=some 29,op:=.load 100 (.tmp 6),type:=100,pos:= "cluster.go:48",after:=#[],guard:=none }) rfl (fun K hK=>?_) ?_
    · go_simp
      refine hK _ _ ?_
      exact (any_cast (stf) (by kernel_rfl) (by rfl) (by rfl))
    exact AllReady.nil
  exact any_cast st (by kernel_rfl) rfl rfl
end
end
section
variable {Ω:World}
structure ShardAt (u:World) (i N:Nat) (x:Member) (m R lo hi:Nat):Prop where
  cells:u.heap[x.s]? = some (.cells (newCells i N m x.W R) 154 (16,17))
  maps:∀ j,j<6->u.heap[m+j]? = some emptyMap
  work:u.heap[x.W]? = some (.chan 0 #[] false 0 0 false)
  worked:u.heap[R]? = some (.chan 0 #[] false 0 0 false)
  two:x.W≠R
  ge:lo<=x.s/\lo<=m/\lo<=x.W/\lo<=R
  lt:x.s<hi/\m+6<=hi/\x.W<hi/\R<hi
def clusterCells (mu:Int) (sl txs bag:Value) (D:Nat):Array Value:=#[.int .i32 mu,.int .u32 0,sl,txs,bag,.chan (some D)]
structure NewAt (v u:World) (N k cb c D:Nat) (ms:List Member) (pos:Nat->Nat):Prop where
  len:ms.length=k
  cbox:u.heap[cb]? = some (.cells #[.pointer (some ⟨c,0,none⟩)] 23 (0,1))
  cell:∃ sl,u.heap[c]? = some (.cells (clusterCells 0 sl (.slice none 0 0) (.slice none 0 0) D) 94 (5,6))/\u.ownsRow (v.heap.size+3) 100 1 sl k (ms.map fun x=>.pointer (some ⟨x.s,0,none⟩))/\(k=0->sl=.slice none 0 0)
  done:u.heap[D]? = some (.chan 0 #[] false 0 0 false)
  shards:∀ i x,ms[i]? = some x->∃ m R,ShardAt u i N x m R (pos i) (pos (i+1))
  mono:∀ i,i<k->pos i<=pos (i+1)
  first:v.heap.size+3<=pos 0
  last:pos k<=u.heap.size
  size:v.heap.size+3<=u.heap.size
  old:∀ i,i<v.heap.size->u.heap[i]? = v.heap[i]?
  os:u.os=v.os
theorem own_more {u w:World}{base base':Nat}{e:TypeId}{size n:Nat}{sl:Value}{xs:List Value}(h:u.ownsRow base e size sl n xs)(hb:base'<=base)(hw:∀ g,sl.ownBlock=some g->w.heap[g]? = u.heap[g]?):w.ownsRow base' e size sl n xs:=by
  refine ⟨h.1,?_⟩
  rcases h.2 with h|⟨g,cap,cur,rfl,h2,h3,h4⟩
  · exact .inl h
  · exact .inr ⟨g,cap,cur,rfl,Nat.le_trans hb h2,by rw [hw g rfl];exact h3,h4⟩
section
variable {v u u1 u2 w':World}{N k cb c D:Nat}{ms:List Member}{pos:Nat->Nat}{s m W R base j:Nat}{sl sl':Value}{xs:List Value}
theorem NewAt.next (h:NewAt v u N k cb c D ms pos)(hc:c=v.heap.size+1)(hcb:cb=v.heap.size+2)(hD:D=v.heap.size)(hcell:u.heap[c]? = some (.cells (clusterCells 0 sl (.slice none 0 0) (.slice none 0 0) D) 94 (5,6)))(hxs:xs=ms.map fun x=>.pointer (some ⟨x.s,0,none⟩))
    (hown:u.ownsRow (v.heap.size+3) 100 1 sl k xs) (hs:NewShard u u1 k N s m W R) (hu2:u2.heap=(u1.alloc (.cells #[.pointer (some ⟨s,0,none⟩)] 100)).heap) (hos2:u2.os=u1.os)
    (hb:v.heap.size+3<=base) (hb0:k=0->u1.heap.size<base) (hrow:w'.ownsRow base 100 1 sl' (k+1) (xs ++ [.pointer (some ⟨s,0,none⟩)])) (hgr:(u2.alloc (.cells #[.pointer (some ⟨s,0,none⟩)] 100)).grownBy w' sl.ownBlock) :
    NewAt v (Tame.World.ice (Tame.World.ice (w'.setCell ⟨c,2,none⟩ sl') u1.heap.size 0 1) s 16 17) N (k+1) cb c D (ms ++ [⟨j,u1.heap.size,s,W⟩]) (fun i=>if i<=k then pos i else u1.heap.size) /\
      (w'.setCell ⟨c,2,none⟩ sl').heap[u1.heap.size]? = some (.cells #[.pointer (some ⟨s,0,none⟩)] 100)/\(w'.setCell ⟨c,2,none⟩ sl').heap[s]? = some (.cells (newCells k N m W R) 154)/\s<u1.heap.size:=by
  have hlt1:∀ {x:Nat} {o:Obj},u1.heap[x]? = some o->x<u1.heap.size:=fun hx=>(Array.getElem?_eq_some_iff.1 hx).1
  have hltu:∀ {x:Nat} {o:Obj},u.heap[x]? = some o->x<u.heap.size:=fun hx=>(Array.getElem?_eq_some_iff.1 hx).1
  have u2old:∀ {x:Nat} {o:Obj},u1.heap[x]? = some o->u2.heap[x]? = some o:=fun {x o} hx=>by
    rw [hu2,alloc_get,if_neg (Nat.ne_of_lt (hlt1 hx))]
    exact hx
  have uold:∀ {x:Nat} {o:Obj},u.heap[x]? = some o->u2.heap[x]? = some o:=fun {x o} hx=>u2old (by rw [hs.old x (hltu hx)];exact hx)
  have u2sb:u2.heap[u1.heap.size]? = some (.cells #[.pointer (some ⟨s,0,none⟩)] 100):=by rw [hu2,alloc_get,if_pos rfl]
  have size2:u2.heap.size=u1.heap.size+1:=by rw [hu2,alloc_size]
  have hsle:=hs.le
  have own:∀ g,sl.ownBlock=some g->∃ cur,u2.heap[g]? = some (.cells cur 100 (0,0))/\g<u.heap.size:=fun g hg=>by
    rcases hown.2 with ⟨rfl,_⟩|⟨g',cap,cur,rfl,h2,h3,h4⟩
    · cases hg
    · cases hg
      exact ⟨cur,uold h3,hltu h3⟩
  have wold:∀ {x:Nat} {o:Obj},u2.heap[x]? = some o->(∀ g cur,sl.ownBlock=some g->x=g->o=.cells cur 100 (0,0)->False)->w'.heap[x]? = some o:=fun {x o} hx hne=>by
    have hlt:x<u2.heap.size:=(Array.getElem?_eq_some_iff.1 hx).1
    rw [hgr.block x (by rw [alloc_size];omega) fun e=>?_,alloc_get,if_neg (Nat.ne_of_lt hlt)]
    · exact hx
    · obtain ⟨cur,h1,_⟩:=own x e.symm
      rw [hx] at h1
      exact hne x cur e.symm rfl (Option.some.inj h1)
  have fin:∀ {x:Nat} {o:Obj},w'.heap[x]? = some o->x≠c->x≠u1.heap.size->x≠s->(Tame.World.ice (Tame.World.ice (w'.setCell ⟨c,2,none⟩ sl') u1.heap.size 0 1) s 16 17).heap[x]? = some o:=fun {x o} hx n1 n2 n3=>by
    rw [ice_ne n3,ice_ne n2]
    have:(w'.setCell ⟨c,2,none⟩ sl').heap[x]? = w'.heap[x]?:=by
      simp only [World.setCell,Array.getElem?_modify]
      rw [if_neg (show ¬ c=x from fun e=>n1 e.symm)]
    rw [this]
    exact hx
  have hsge:=hs.ge
  have hslt:=hlt1 hs.cells
  have husz:=h.size
  have hnes:∀ {x:Nat},x<u.heap.size->x≠s/\x≠u1.heap.size:=fun {x} hx=>⟨by omega,by omega⟩
  have both:∀ {x:Nat} {o:Obj},u.heap[x]? = some o->x≠c->(∀ cur,o≠.cells cur 100 (0,0))->(Tame.World.ice (Tame.World.ice (w'.setCell ⟨c,2,none⟩ sl') u1.heap.size 0 1) s 16 17).heap[x]? = some o:=fun {x o} hx n1 hno=>
    fin (wold (uold hx) fun g cur _ _ e=>hno cur e) n1 (hnes (hltu hx)).2 (hnes (hltu hx)).1
  have both1:∀ {x:Nat} {o:Obj},u1.heap[x]? = some o->x≠c->x≠s->(∀ cur,o≠.cells cur 100 (0,0))->(Tame.World.ice (Tame.World.ice (w'.setCell ⟨c,2,none⟩ sl') u1.heap.size 0 1) s 16 17).heap[x]? = some o:=fun {x o} hx n1 n2 hno=>
    fin (wold (u2old hx) fun g cur _ _ e=>hno cur e) n1 (Nat.ne_of_lt (hlt1 hx)) n2
  have hc':=wold (uold hcell) (fun g cur _ _ e=>by cases e)
  have hsz:(Tame.World.ice (Tame.World.ice (w'.setCell ⟨c,2,none⟩ sl') u1.heap.size 0 1) s 16 17).heap.size=w'.heap.size:=by
    rw [ice_size,ice_size]
    simp [World.setCell]
  have hw'sz:u1.heap.size+2<=w'.heap.size:=by
    have:=hgr.size
    rw [alloc_size] at this
    omega
  have hclt:=hltu hcell
  have set_ne:∀ {x:Nat},x≠c->(w'.setCell ⟨c,2,none⟩ sl').heap[x]? = w'.heap[x]?:=fun {x} hx=>by
    simp only [World.setCell,Array.getElem?_modify]
    rw [if_neg (show ¬ c=x from fun e=>hx e.symm)]
  refine ⟨?_,by rw [set_ne (by omega)];exact wold u2sb (fun g cur h1 h2 _=>by obtain ⟨_,_,h3⟩:=own g h1;omega),by rw [set_ne (by omega)];exact wold (u2old hs.cells) (fun g cur _ _ e=>by cases e),hslt⟩
  refine ⟨by rw [List.length_append,h.len];rfl,both h.cbox (by omega) (fun cur e=>by cases e),⟨sl',?_,?_,fun e=>by omega⟩,both h.done (by omega) (fun cur e=>by cases e),fun i x hx=>?_,fun i hi=>?_,?_,?_,by rw [hsz];omega,fun i hi=>?_,?_⟩
  · rw [ice_ne (hnes hclt).1,ice_ne (hnes hclt).2]
    simp only [World.setCell,Array.getElem?_modify,if_true,hc']
    rfl
  · rw [List.map_append,← hxs]
    refine own_more hrow hb fun g hg=>?_
    obtain ⟨hg1,hg2⟩:=hrow.lt g hg
    have e1:g≠c:=by omega
    have hgc:∃ cap cur,w'.heap[g]? = some (.cells cur 100 (0,0))/\k+1<=cap/\cur.size=cap:=by
      rcases hrow.2 with ⟨rfl,_⟩|⟨g',cap,cur,rfl,h2,h3,h4,h5,h6,_⟩
      · cases hg
      · cases hg
        exact ⟨cap,cur,h3,h4,by omega⟩
    obtain ⟨cap,cur,hg3,hg4,hg5⟩:=hgc
    have e2:g≠u1.heap.size:=fun e=>by
      by_cases hk:k=0
      · have:=hb0 hk
        omega
      · have:=wold u2sb (fun g' cur' h1 h2 _=>by
          obtain ⟨_,_,h3⟩:=own g' h1
          omega)
        rw [← e,hg3] at this
        injection this with this
        injection this with this
        have hz:cur.size=1:=by rw [this];rfl
        omega
    have e3:g≠s:=fun e=>by
      have:=wold (u2old hs.cells) (fun g' cur' _ _ e=>by cases e)
      rw [← e,hg3] at this
      cases this
    rw [ice_ne e3,ice_ne e2]
    simp only [World.setCell,Array.getElem?_modify]
    rw [if_neg (show ¬ c=g from fun e=>e1 e.symm)]
  · rcases Nat.lt_or_ge i ms.length with hi|hi
    · rw [List.getElem?_append_left hi] at hx
      have hik:i<k:=h.len ▸ hi
      obtain ⟨m',R',k1,k2,k3,k4,k5,k6,k7⟩:=h.shards i x hx
      have hp0:∀ i,i<=k->v.heap.size+3<=pos i:=fun i=>by
        induction i with
        | zero=>intro _;exact h.first
        | succ i ih=>intro hi;have:=h.mono i (by omega);have:=ih (by omega);omega
      have:=hp0 i (by omega)
      refine ⟨m',R',both k1 (by omega) (fun cur e=>by cases e),fun j hj=>both (k2 j hj) (by omega) (fun cur e=>by cases e),both k3 (by omega) (fun cur e=>by cases e),both k4 (by omega) (fun cur e=>by cases e),k5,?_,?_⟩
      · try dsimp only
        rw [if_pos (show i<=k by omega)];exact k6
      · try dsimp only
        rw [if_pos (show i+1<=k by omega)];exact k7
    · rw [List.getElem?_append_right hi] at hx
      have hi0:i - ms.length=0:=by
        rcases Nat.eq_zero_or_pos (i - ms.length) with h|h
        · exact h
        · rw [List.getElem?_eq_none (by simp;omega)] at hx
          cases hx
      rw [hi0] at hx
      cases hx
      have hik:i=k:=by have:=h.len;omega
      subst hik
      have hWlt:=hlt1 hs.work
      have hRlt:=hlt1 hs.worked
      have hmlt:=hlt1 (hs.maps 5 (by omega))
      have hmaps:∀ j,j<6->m+j≠s:=fun j hj e=>by
        have:=hs.maps j hj
        rw [e,hs.cells] at this
        cases this
      have hWs:W≠s:=fun e=>by
        have:=hs.work
        rw [e,hs.cells] at this
        cases this
      have hRs:R≠s:=fun e=>by
        have:=hs.worked
        rw [e,hs.cells] at this
        cases this
      refine ⟨m,R,?_,fun j hj=>both1 (hs.maps j hj) (by omega) (hmaps j hj) (fun cur e=>by cases e),both1 hs.work (by dsimp only;omega) hWs (fun cur e=>by cases e),both1 hs.worked (by omega) hRs (fun cur e=>by cases e),hs.two,?_,?_⟩
      · have h1:=wold (u2old hs.cells) (fun g' cur' _ _ e=>by cases e)
        have h2:(Tame.World.ice (w'.setCell ⟨c,2,none⟩ sl') u1.heap.size 0 1).heap[s]? = some (.cells (newCells i N m W R) 154):=by
          rw [ice_ne (Nat.ne_of_lt hslt)]
          simp only [World.setCell,Array.getElem?_modify]
          rw [if_neg (show ¬ c=s by omega)]
          exact h1
        exact ice_self h2
      · try dsimp only
        rw [if_pos (Nat.le_refl _)]
        have:=h.last
        omega
      · try dsimp only
        rw [if_neg (by omega)]
        omega
  · try dsimp only
    rw [if_pos (show i<=k by omega)]
    split
    · exact h.mono i (by omega)
    · have:i=k:=by omega
      subst this
      have:=h.last
      omega
  · try dsimp only
    rw [if_pos (Nat.zero_le _)]
    exact h.first
  · try dsimp only
    rw [if_neg (by omega),hsz]
    omega
  · have hi':i<u.heap.size:=by omega
    have hbase:∀ g,sl.ownBlock=some g->v.heap.size+3<=g:=fun g hg=>(hown.lt g hg).1
    have h1:w'.heap[i]? = u.heap[i]?:=by
      rw [hgr.block i (by rw [alloc_size];omega) fun e=>by have:=hbase i e.symm;omega,alloc_get,if_neg (by omega),hu2,alloc_get,if_neg (by omega),hs.old i hi']
    rw [← h.old i hi,← h1,ice_ne (hnes hi').1,ice_ne (hnes hi').2]
    simp only [World.setCell,Array.getElem?_modify]
    rw [if_neg (show ¬ c=i by omega)]
  · show (w'.setCell ⟨c,2,none⟩ sl').os=_
    rw [← h.os,← hs.os,← hos2]
    have:(w'.setCell ⟨c,2,none⟩ sl').os=w'.os:=rfl
    rw [this]
    exact hgr.os
end
end
section
variable {Ω:World}
def slots (n kv:Value) (cb:Nat) (six:Value) (J:Nat->Value):Array Value:=#[n,J 1,J 2,J 3,.pointer (some ⟨cb,0,none⟩),J 5,six,J 7,J 8,J 9,J 10,J 11,J 12,J 13,J 14,J 15,J 16,n,kv,J 19,J 20,J 21,J 22,J 23,J 24,J 25,J 26,J 27,J 28,J 29,J 30,J 31,J 32,J 33,J 34,J 35,J 36,J 37,J 38,J 39,J 40]
theorem results_two {fn:Func}{x y:Tmp}(h:fn.results=#[.tmp x,.tmp y])(tmps:Array Value)(P:Program)(w:World):(results fn tmps).run P w=.ok (.tuple #[tmps.getD x undef,tmps.getD y undef]) w/\(results fn tmps).events P w #[] = #[]:=by
  unfold results
  rw [h,Array.mapM_eq_mapM_toList,map_eq_pure_bind]
  show Sem.run P (((do
    let __do_lift ← List.mapM _ [ResultVar.tmp x,ResultVar.tmp y]
    pure __do_lift.toArray):Sem (Array Value)) >>= _) w=_/\_
  simp only [List.mapM_cons,List.mapM_nil]
  exact ⟨rfl,rfl⟩
theorem slots_of {A:Array Value}{n kv:Value}{cb:Nat}(h:A=slots n kv cb (A.getD 6 undef) fun i=>A.getD i undef):∃ six J,(⟨A,[]⟩:Act)=⟨slots n kv cb six J,[]⟩:=⟨_,_,congrArg (fun t=>(⟨t,[]⟩:Act)) h⟩
theorem new_append' {c cb sb s base k:Nat}{n kv sl:Value}{w:World}{xs:List Value}{Q:_root_.Go.Exit->Act->World->Prop}{A:Array Value}(hA:A=slots n kv cb (.pointer (some ⟨sb,0,none⟩)) fun i=>A.getD i undef)
    (hcb:w.cell? ⟨cb,0,none⟩=some (.pointer (some ⟨c,0,none⟩))) (hsb:w.cell? ⟨sb,0,none⟩=some (.pointer (some ⟨s,0,none⟩))) (hc2:w.cell? ⟨c,2,none⟩=some sl) (hz:w.frozen? ⟨c,2,none⟩=false) (hown:w.ownsRow base 100 1 sl k xs) (hk:k<=3) (hb:base<=w.heap.size) (hcl:c<base) (hcbl:cb<base)
    (hQ:∀ J sl' w',w'.ownsRow base 100 1 sl' (k+1) (xs ++ [.pointer (some ⟨s,0,none⟩)])->(w.alloc (.cells #[.pointer (some ⟨s,0,none⟩)] 100)).grownBy w' sl.ownBlock->Q .normal ⟨slots n kv cb (.pointer (some ⟨sb,0,none⟩)) J,[]⟩ (w'.setCell ⟨c,2,none⟩ sl')) :
    wpAny Tryz.L .any ops8 Q 11 (Array.replicate 11 false) ⟨A,[]⟩ w:=by
  rw [hA]
  generalize (fun i=>A.getD i undef)=J
  refine new_append hcb hsb hc2 hz hown hk hb hcl hcbl fun sl' w' h1 h2=>?_
  exact hQ (fun i=>if i=24 then .pointer (some ⟨c,0,none⟩) else if i=25 then .pointer (some ⟨c,0,none⟩) else if i=26 then .pointer (some ⟨c,0,none⟩) else if i=27 then .pointer (some ⟨c,2,none⟩) else if i=28 then sl else if i=29 then .pointer (some ⟨s,0,none⟩) else if i=30 then .slice (some ⟨w.heap.size,0,none⟩) 1 1 else if i=31 then sl' else if i=32 then .pointer (some ⟨c,0,none⟩) else if i=33 then .pointer (some ⟨c,2,none⟩) else J i) sl' w' h1 h2
section
variable {g:List Rec}{v:World}{N:Nat}
theorem NewAt.same {u u':World}{k cb c D:Nat}{ms:List Member}{pos:Nat->Nat}(h:NewAt v u N k cb c D ms pos)(hu:u'.heap=u.heap)(ho:u'.os=u.os):NewAt v u' N k cb c D ms pos:=by
  obtain ⟨h1,h2,⟨sl,h3,h4,h5⟩,h6,h7,h8,h9,h10,h11,h12,h13⟩:=h
  refine ⟨h1,by rw [hu];exact h2,⟨sl,by rw [hu];exact h3,own_more h4 (Nat.le_refl _) fun g _=>by rw [hu],h5⟩,by rw [hu];exact h6,fun i x hx=>?_,h8,h9,by rw [hu];exact h10,by rw [hu];exact h11,fun i hi=>by rw [hu];exact h12 i hi,ho.trans h13⟩
  obtain ⟨m,R,k1,k2,k3,k4,k5,k6,k7⟩:=h7 i x hx
  exact ⟨m,R,by rw [hu];exact k1,fun j hj=>by rw [hu];exact k2 j hj,by rw [hu];exact k3,by rw [hu];exact k4,k5,k6,k7⟩
set_option maxHeartbeats 4000000 in
theorem zz_new (hΩ:Ω.heap.size<=v.heap.size)(h1:1<=N)(h4:N<=4)(hb:Below g v.heap.size) :
    CWCall (ZZ Ω) g 25 #[.int .i64 N] v fun g' y v'=>∃ ms pos,g'=⟨v.heap.size+2,v.heap.size+1,v.heap.size,ms,N,true⟩ :: g/\y=.tuple #[.pointer (some ⟨v.heap.size+1,0,none⟩),.nilIface]/\NewAt v v' N N (v.heap.size+2) (v.heap.size+1) v.heap.size ms pos:=by
  refine ZZ.body (tmps:=#[.int .i64 N,undef,undef,undef,undef,undef,undef,undef,undef,undef,undef,undef,undef,undef,undef,undef,undef,undef,undef,undef,undef,undef,undef,undef,undef,undef,undef,undef,undef,undef,undef,undef,undef,undef,undef,undef,undef,undef,undef,undef,undef]) Tryz.func25 (by rfl) (by kernel_rfl) ?_
  intro b cs
  refine CW.seq ZZ.ok (ZZ.plain (by kernel_rfl) (by simp [base]) fun Q u0 hu0 ho0 hQ=>?_)
  go_wp2
  refine CW.seq ZZ.ok (CW.seq ZZ.ok (ZZ.plain (by kernel_rfl) (by simp [base]) fun Q u1 hu1 ho1 hQ=>?_))
  go_wp2
  refine CW.cond (t:=false) ZZ.ok ?_ ?_
  · show Value.bool (decide ((N:Int)<1) || decide (4<(N:Int)))=Value.bool false
    rw [decide_eq_false (by omega),decide_eq_false (by omega)]
    rfl
  simp only [if_false,Bool.false_eq_true]
  refine CW.skip ZZ.ok (CW.seq ZZ.ok (ZZ.plain (by kernel_rfl) (by simp [base]) fun Q u2 hu2 ho2 hQ=>?_))
  have hs2:u2.heap.size=v.heap.size:=by rw [hu2,hu1,hu0]
  have hh2:u2.heap=v.heap:=by rw [hu2,hu1,hu0]
  have hos2:u2.os=v.os:=by rw [ho2,ho1,ho0]
  go_wp2
  clear hu0 hu1 hu2 ho0 ho1 ho2
  generalize hcbE:v.heap.size+1+1=cb
  generalize hcE:v.heap.size+1=c
  generalize hw3:(((u2.alloc (Obj.chan 0 #[] false 0 0 false)).alloc (Obj.cells #[Value.int IntKind.i32 0,Value.int IntKind.u32 0,Value.slice none 0 0,Value.slice none 0 0,Value.slice none 0 0,Value.chan (some v.heap.size),Value.int IntKind.u64 0,Value.int IntKind.u32 0] 94)).alloc (Obj.cells #[Value.pointer (some { block:=c,off:=0 })] 23))=w3
  have g0:w3.heap[v.heap.size]? = some (.chan 0 #[] false 0 0 false):=by
    rw [← hw3]
    simp only [alloc_get,alloc_size,hs2]
    rw [if_neg (by omega),if_neg (by omega),if_pos trivial]
  have g1:w3.heap[c]? = some (.cells #[Value.int IntKind.i32 0,Value.int IntKind.u32 0,Value.slice none 0 0,Value.slice none 0 0,Value.slice none 0 0,Value.chan (some v.heap.size),Value.int IntKind.u64 0,Value.int IntKind.u32 0] 94 (0,0)):=by
    rw [← hw3,← hcE]
    simp only [alloc_get,alloc_size,hs2]
    simp
  have g2:w3.heap[cb]? = some (.cells #[Value.pointer (some { block:=c,off:=0 })] 23 (0,0)):=by
    rw [← hw3,← hcbE]
    simp only [alloc_get,alloc_size,hs2]
    simp
  have g3:w3.heap.size=v.heap.size+3:=by
    rw [← hw3]
    simp only [alloc_size,hs2]
  have g4:∀ i,i<v.heap.size->w3.heap[i]? = v.heap[i]?:=fun i hi=>by
    rw [← hw3]
    simp only [alloc_get,alloc_size,hs2]
    rw [if_neg (by omega),if_neg (by omega),if_neg (by omega),hh2]
  have g5:w3.os=v.os:=by rw [← hw3];exact hos2
  have hne:cb≠c:=by omega
  refine zz_ghost (n:=v.heap.size) (cb:=cb) (c:=c) (D:=v.heap.size) (by omega) hb (by omega) (Nat.le_refl _) hne g1 (by rfl) (by rfl) g2 ?_
  have hNA:NewAt v (Tame.World.ice (Tame.World.cut w3 c 6 5 6) cb 0 1) N 0 cb c v.heap.size [] (fun _=>v.heap.size+3):=by
    refine ⟨rfl,ice_self (by rw [cut_ne hne];exact g2),⟨.slice none 0 0,?_,World.ownsRow_nil _ _ _ _,fun _=>rfl⟩,?_,fun i x hx=>by simp at hx,fun i hi=>by omega,Nat.le_refl _,?_,?_,fun i hi=>?_,g5⟩
    · rw [ice_ne (Ne.symm hne)]
      exact cut_self g1
    · rw [ice_ne (by omega),cut_ne (by omega)]
      exact g0
    · rw [ice_size,cut_size]
      omega
    · rw [ice_size,cut_size]
      omega
    · rw [ice_ne (by omega),cut_ne (by omega)]
      exact g4 i hi
  refine CW.seq ZZ.ok (CW.seq ZZ.ok (ZZ.plain (by kernel_rfl) (by simp [base]) fun Q u3 hu3 ho3 hQ=>?_))
  have hN0:=hNA.same hu3 ho3
  clear hNA hu3 ho3
  go_wp2
  refine CW.block ZZ.ok (CW.loopI ZZ.ok (fun n g' a v'=>∃ k ms pos,n=N - k/\k<=N/\g'=⟨cb,c,v.heap.size,ms,k,true⟩ :: g/\(∃ six J,a=⟨slots (.int .i64 N) (.int .i64 k) cb six J,[]⟩)/\NewAt v v' N k cb c v.heap.size ms pos) (fun n ih g' a v' hI=>?_) N _ _ _ ⟨0,[],_,rfl,Nat.zero_le _,rfl,slots_of (by kernel_rfl),hN0⟩)
  · obtain ⟨k,ms,pos,rfl,hk,rfl,⟨six,J,rfl⟩,hn⟩:=hI
    refine CW.seq ZZ.ok (ZZ.plain (by kernel_rfl) (by simp [base]) fun Q u hu ho hQ=>?_)
    simp only [slots]
    have hn:=hn.same hu ho
    clear hu ho
    go_wp2
    refine CW.seq ZZ.ok ?_
    by_cases hkN:k<N
    · refine CW.cond (t:=true) ZZ.ok ?_ ?_
      · show Value.bool (decide (k<N))=_
        rw [decide_eq_true hkN]
      simp only [if_true]
      refine CW.skip ZZ.ok (CW.seq ZZ.ok (CW.block ZZ.ok (CW.seq ZZ.ok (ZZ.plain (by kernel_rfl) (by simp [base]) fun Q u4 hu4 ho4 hQ=>?_))))
      have hn:=hn.same hu4 ho4
      clear hu4 ho4
      go_wp2
      refine CW.seq ZZ.ok (ZZ.pre [_,_] [_,_,_] (by kernel_rfl) (by simp [base]) fun Q u5 hu5 ho5 hQ=>?_)
      have hn:=hn.same hu5 ho5
      clear hu5 ho5
      go_wp2
      refine .enter ZZ.ok (i:=2) rfl (by simp [Region.wanted]) (by simp [base]) (fun w=>call_enters (f:=37) (first:=#[]) (captured:=#[]) (args:=#[.int .i64 k,.int .i64 N]) rfl rfl rfl (by simp [Act.eval]) Tryz.func37 (by kernel_rfl) (by kernel_rfl) w) (.calls ZZ.ok (fun h=>?_) (by kernel_rfl) fun t0 _=>Calls.mono (lone_newShard (v:=retape u5 t0) k N) ?_)
      · rcases h with h|h|h
        · cases h
        · cases h
        · revert h;decide
      rintro e u6 ⟨s,m,W,R,rfl,hs⟩
      refine ⟨_,rfl,?_⟩
      rw [Frame.finish_at]
      obtain ⟨sl,hcell,hown,hsl0⟩:=hn.cell
      refine ZZ.rest rfl (by kernel_rfl) (by simp [base]) fun Q u7 hu7 ho7 hQ=>?_
      have hs7:u7.heap.size=u6.heap.size:=by rw [hu7]
      go_wp2
      refine CW.seq ZZ.ok (CW.regionDraw ZZ.ok (by simp [base]) (ops_all (by kernel_rfl)) Tryz.mixed fun t d=>?_)
      generalize hu8:World.mk (u7.alloc (Obj.cells #[Value.pointer (some { block:=s,off:=0 })] 100)).heap t d (u7.alloc (Obj.cells #[Value.pointer (some { block:=s,off:=0 })] 100)).os (u7.alloc (Obj.cells #[Value.pointer (some { block:=s,off:=0 })] 100)).output=u8
      have hn5:=hn.same (u':=retape u5 t0) rfl rfl
      have e8:u8.heap=(u6.alloc (Obj.cells #[Value.pointer (some { block:=s,off:=0 })] 100)).heap:=by
        rw [← hu8]
        show u7.heap.push _=u6.heap.push _
        rw [hu7]
      have o8:u8.os=u6.os:=by
        rw [← hu8]
        exact ho7
      clear hu8 hu7 ho7 hs7
      have z8:u8.heap.size=u6.heap.size+1:=by rw [e8,alloc_size]
      have z6:u5.heap.size<=u6.heap.size:=hs.le
      have z5:=hn.size
      have low:∀ x,x<u5.heap.size->u8.heap[x]? = u5.heap[x]?:=fun x hx=>by
        rw [e8,alloc_get,if_neg (by omega)]
        exact hs.old x hx
      have cb8:u8.heap[cb]? = some (.cells #[.pointer (some ⟨c,0,none⟩)] 23 (0,1)):=by rw [low cb (by omega)];exact hn.cbox
      have sb8:u8.heap[u6.heap.size]? = some (.cells #[.pointer (some ⟨s,0,none⟩)] 100 (0,0)):=by rw [e8,alloc_get,if_pos rfl]
      have c8:u8.heap[c]? = some (.cells (clusterCells 0 sl (.slice none 0 0) (.slice none 0 0) v.heap.size) 94 (5,6)):=by rw [low c (by omega)];exact hcell
      obtain ⟨bs,hb1,hb2,hb3,hown8⟩:∃ bs,v.heap.size+3<=bs/\(k=0->u6.heap.size<bs)/\bs<=u8.heap.size/\u8.ownsRow bs 100 1 sl k (ms.map fun x=>.pointer (some ⟨x.s,0,none⟩)):=by
        by_cases hk0:k=0
        · subst hk0
          have hm0:ms = []:=List.eq_nil_of_length_eq_zero hn.len
          rw [hsl0 rfl,hm0]
          exact ⟨u8.heap.size,by omega,fun _=>by omega,Nat.le_refl _,World.ownsRow_nil _ _ _ _⟩
        · refine ⟨v.heap.size+3,Nat.le_refl _,fun h=>absurd h hk0,by omega,own_more hown (Nat.le_refl _) fun x hx=>low x (hown.lt x hx).2⟩
      refine any_cast (new_append' (c:=c) (cb:=cb) (sb:=u6.heap.size) (s:=s) (base:=bs) (k:=k) (n:=.int .i64 N) (kv:=.int .i64 k) (sl:=sl) (xs:=ms.map fun x=>.pointer (some ⟨x.s,0,none⟩)) (by kernel_rfl) ?_ ?_ ?_ ?_ hown8 (by omega) hb3 (by omega) (by omega) fun J' sl' w' hrow hgr=>⟨rfl,?_⟩) rfl rfl rfl
      · unfold World.cell?
        rw [cb8]
        rfl
      · unfold World.cell?
        rw [sb8]
        rfl
      · unfold World.cell?
        rw [c8]
        rfl
      · unfold World.frozen?
        rw [c8]
        rfl
      have hnx:=fun j=>NewAt.next (j:=j) hn5 hcE.symm (by omega) rfl hcell rfl hown hs e8 o8 hb1 hb2 hrow hgr
      obtain ⟨_,ksb,ks,kslt⟩:=hnx 0
      replace hnx:=fun j=>(hnx j).1
      generalize w'.setCell ⟨c,2,none⟩ sl'=w9 at *
      clear hgr hrow
      have hgeW:u5.heap.size<=s/\u5.heap.size<=m/\u5.heap.size<=W/\u5.heap.size<=R:=hs.ge
      have hclt:c<u6.heap.size:=by omega
      have hcb9:w9.heap[cb]? = some (.cells #[.pointer (some ⟨c,0,none⟩)] 23 (0,1)):=by
        have:=(hnx 0).cbox
        rw [ice_ne (by omega),ice_ne (by omega)] at this
        exact this
      obtain ⟨sl9,hc9⟩:∃ sl9,w9.heap[c]? = some (.cells (clusterCells 0 sl9 (.slice none 0 0) (.slice none 0 0) v.heap.size) 94 (5,6)):=by
        obtain ⟨sl9,h,_⟩:=(hnx 0).cell
        rw [ice_ne (by omega),ice_ne (by omega)] at h
        exact ⟨sl9,h⟩
      have hD9:w9.heap[v.heap.size]? = some (.chan 0 #[] false 0 0 false):=by
        have:=(hnx 0).done
        rw [ice_ne (by omega),ice_ne (by omega)] at this
        exact this
      have hWs:W≠s:=fun e=>by
        have:=hs.work
        rw [e,hs.cells] at this
        cases this
      have hWlt:W<u6.heap.size:=(Array.getElem?_eq_some_iff.1 hs.work).1
      have hW9:w9.heap[W]? = some (.chan 0 #[] false 0 0 false):=by
        obtain ⟨m',R',h⟩:=(hnx 0).shards k ⟨0,u6.heap.size,s,W⟩ (by rw [List.getElem?_append_right (by rw [hn.len];omega),hn.len];simp)
        have:=h.work
        dsimp only at this
        rw [ice_ne hWs,ice_ne (by omega)] at this
        exact this
      refine CW.seq ZZ.ok (ZZ.pre [_,_,_] [_] (by kernel_rfl) (by simp [base]) fun Q u9 hu9 ho9 hQ=>?_)
      simp only [slots]
      have hcbc:u9.cell? ⟨cb,0,none⟩=some (.pointer (some ⟨c,0,none⟩)):=by
        unfold World.cell?
        rw [hu9,hcb9]
        rfl
      go_wp2
      refine .enter ZZ.ok (i:=3) rfl (by simp [Region.wanted]) (by simp [base]) (fun w=>call_enters (f:=38) (first:=#[]) (captured:=#[]) (args:=#[.pointer (some ⟨c,6,none⟩),.int .i64 1]) rfl rfl rfl (by simp [Act.eval]) Tryz.func38 (by kernel_rfl) (by kernel_rfl) w) (zz_add hb (by omega) (by omega) ?_)
      rw [Frame.finish_at]
      refine .regionEnd ZZ.ok (ZZ.pre [_] [_] (by kernel_rfl) (by simp [base]) fun Q u10 hu10 ho10 hQ=>?_)
      go_wp2
      rw [← hu9,← hu10] at hcb9 ksb hc9 ks hD9 hW9
      refine zz_go (n:=v.heap.size) (i:=1) (rest:=[]) (sb:=u6.heap.size) (s:=s) (W:=W) (sr:=(0,0)) (sr':=(0,0)) hb (by omega) (Nat.le_refl _) (by have:u5.heap.size<=W:=hgeW.2.2.1;omega) (by have:u5.heap.size<=W:=hgeW.2.2.1;omega) (by rw [hn.len];omega) ⟨by omega,by have:u5.heap.size<=s:=hgeW.1;omega,by have:u5.heap.size<=s:=hgeW.1;omega,by omega,by omega⟩ (by have:u5.heap.size<=s:=hgeW.1;omega) rfl (by simp [Region.wanted]) (by simp [base])
        (fun w=>spawn_runs (f:=.func 39) (first:=#[]) (captured:=#[.pointer (some ⟨cb,0,none⟩),.pointer (some ⟨u6.heap.size,0,none⟩)]) (args:=#[]) rfl rfl (by rfl) (by simp) w) hcb9 ksb hc9 (by rfl) ks (by rfl) hD9 hW9 fun j=>?_
      refine .regionEnd ZZ.ok (.inBlock ZZ.ok (ZZ.plain (by kernel_rfl) (by simp [base]) fun Q u11 hu11 ho11 hQ=>?_))
      go_wp2
      refine ih (N - (k+1)) (by omega) _ _ _ ⟨k+1,ms ++ [⟨j,u6.heap.size,s,W⟩],_,rfl,by omega,rfl,slots_of (by kernel_rfl),(hnx j).same ?_ ?_⟩
      · rw [hu11]
        show (Tame.World.ice (Tame.World.ice u10 u6.heap.size 0 1) s 16 17).heap=_
        simp only [Tame.World.ice]
        rw [hu10,hu9]
      · rw [ho11]
        show u10.os=w9.os
        rw [ho10,ho9]
    · have hkN':k=N:=by omega
      subst hkN'
      refine CW.cond (t:=false) ZZ.ok ?_ ?_
      · show Value.bool (decide (k<k))=_
        rw [decide_eq_false (by omega)]
      simp only [if_false,Bool.false_eq_true]
      refine CW.exit ZZ.ok rfl (CW.seq ZZ.ok (ZZ.plain (by kernel_rfl) (by simp [base]) fun Q u4 hu4 ho4 hQ=>?_))
      have hn:=hn.same hu4 ho4
      clear hu4 ho4
      have hcbc:u4.cell? ⟨cb,0,none⟩=some (.pointer (some ⟨c,0,none⟩)):=by
        unfold World.cell?
        rw [hn.cbox]
        rfl
      go_wp2
      refine CW.ret ZZ.ok rfl rfl Tryz.func25 (y:=.tuple #[.pointer (some ⟨c,0,none⟩),.nilIface]) (fun w=>results_two (fn:=Tryz.f25) (x:=2) (y:=3) rfl _ _ w) (.done ⟨rfl,_,rfl,ms,pos,rfl,rfl,hn⟩)
end
end
section
variable {Ω:World}
section
variable {g:List Rec}{v:World}{N:Nat}
theorem NewAt.base {u v u':World}{k cb c D:Nat}{ms:List Member}{pos:Nat->Nat}(h:NewAt u u' N k cb c D ms pos)(hh:u.heap=v.heap)(ho:u.os=v.os):NewAt v u' N k cb c D ms pos:=by
  obtain ⟨h1,h2,h3,h6,h7,h8,h9,h10,h11,h12,h13⟩:=h
  rw [hh] at h3 h9 h11 h12
  exact ⟨h1,h2,h3,h6,h7,h8,h9,h10,h11,h12,h13.trans ho⟩
set_option maxHeartbeats 1000000 in
theorem zz_pnew (hΩ:Ω.heap.size<=v.heap.size)(h1:1<=N)(h4:N<=4)(hb:Below g v.heap.size) :
    CWCall (ZZ Ω) g 14 #[.int .i64 N] v fun g' y v'=>∃ ms pos,g'=⟨v.heap.size+2,v.heap.size+1,v.heap.size,ms,N,true⟩ :: g/\y=.tuple #[.pointer (some ⟨v.heap.size+1,0,none⟩),.int .i64 0]/\NewAt v v' N N (v.heap.size+2) (v.heap.size+1) v.heap.size ms pos:=by
  refine ZZ.body (tmps:=#[.int .i64 N,undef,undef,undef,undef,undef,undef,undef,undef,undef,undef,undef,undef,undef,undef,undef,undef,undef,undef,undef,undef]) Tryz.func14 (by rfl) (by kernel_rfl) ?_
  intro b cs
  refine CW.seq ZZ.ok (ZZ.plain (by kernel_rfl) (by simp [base]) fun Q u0 hu0 ho0 hQ=>?_)
  go_wp2
  refine CW.seq ZZ.ok (ZZ.pre [_] [_,_,_,_,_,_] (by kernel_rfl) (by simp [base]) fun Q u1 hu1 ho1 hQ=>?_)
  go_wp2
  have e1:u1.heap=v.heap:=by rw [hu1,hu0]
  have o1:u1.os=v.os:=by rw [ho1,ho0]
  have hN:=zz_new (Ω:=Ω) (g:=g) (v:=u1) (N:=N) (by rw [e1];exact hΩ) h1 h4 (by rw [e1];exact hb)
  rw [e1] at hN
  refine CW.callAt ZZ.ok (i:=1) (f:=25) (first:=#[]) (captured:=#[]) (args:=#[.int .i64 N]) rfl rfl (by simp [base]) rfl rfl (by rfl) (by simp [Act.eval]) Tryz.func25 (by kernel_rfl) (by kernel_rfl) hN fun g' y v' hR=>?_
  obtain ⟨ms,pos,rfl,rfl,hA⟩:=hR
  refine ZZ.rest rfl (by kernel_rfl) (by simp [base]) fun Q u2 hu2 ho2 hQ=>?_
  have hA2:=(hA.same hu2 ho2).base e1 o1
  clear hA hN hu2 ho2
  go_wp2
  refine CW.seq ZZ.ok (CW.block ZZ.ok (CW.seq ZZ.ok (ZZ.plain (by kernel_rfl) (by simp [base]) fun Q u3 hu3 ho3 hQ=>?_)))
  have hA3:=hA2.same hu3 ho3
  go_wp2
  refine CW.cond (t:=true) ZZ.ok (by rfl) ?_
  simp only [if_true]
  refine CW.seq ZZ.ok (ZZ.plain (by kernel_rfl) (by simp [base]) fun Q u4 hu4 ho4 hQ=>?_)
  have hA4:=hA3.same hu4 ho4
  go_wp2
  exact CW.ret ZZ.ok rfl rfl Tryz.func14 (y:=.tuple #[.pointer (some ⟨v.heap.size+1,0,none⟩),.int .i64 0]) (fun w=>results_two (fn:=Tryz.f14) (x:=2) (y:=3) rfl _ _ w) (.done ⟨rfl,_,rfl,ms,pos,rfl,rfl,hA4⟩)
end
end
section
variable {Ω:World}
section
variable {g:List Rec}{v:World}{cs:List Frame}{X:List Rec->Frame->List Frame->World->Prop}{b:Frame}{a:Act}{k:List Item}
theorem ZZ.mid (pre mid post:List Oper){rest rest':List Nat}(hr:rest=List.range' pre.length mid.length++rest')(hops:(mid.all fun o=>valOp o.op && okOp Tryz.prog o.op)=true)(hk:b.kind≠.early)
    (h:∀ (Q:_root_.Go.Exit->Act->World->Prop) (u:World),u.heap=v.heap->u.os=v.os->(∀ a' v',CW (ZZ Ω) g (b.at a' (.inRegion (pre++(mid++post)).toArray rest' :: k)) cs v' X->Q .normal a' v')->wpList Tryz.L (pre++(mid++post)).toArray Q mid a u):CW (ZZ Ω) g (b.at a (.inRegion (pre++(mid++post)).toArray rest :: k)) cs v X:=by
  rw [hr]
  refine CW.preK ZZ.ok hk mid pre.length a v (fun j hj=>?_) (fun o ho=>?_) fun t _=>h _ (retape v t) rfl rfl fun a' v' hx=>⟨rfl,hx⟩
  · rw [List.getElem?_toArray,List.getElem?_append_right (by omega),show pre.length+j - pre.length=j by omega,List.getElem?_append_left hj]
  · have:=List.all_eq_true.1 hops o ho
    simpa using this
theorem ZZ.lone {ops:Array Oper}{i:Nat}{rest:List Nat}{o:Oper}{c:Call}{x:Operand}{f:FuncId}{fn:Func}{first captured args:Array Value}{R:Value->World->Prop}(ho:ops[i]? = some o)(hw:o.guard=none)(hk:b.kind≠.early)
    (hop:o.op=.call c) (hc:c.callee=.value x) (hx:a.eval x=.func (.func f) first captured) (ha:first++c.args.map a.eval++captured=args) (hf:Tryz.prog.funcs[f]? = some fn) (hb:fn.body.isNone=false) (hn:(fn.name == "runtime.NumGoroutine")=false)
    (hsp:spB f=false) (hbl:((Tryz.FL)[f]?).any (fun fn=>!fn.body.isNone)=true)
    (hcl:∀ u:World,u.heap=v.heap->u.os=v.os->Calls Tryz.L f args u fun e w'=>∃ y,e=.returned y/\R y w')
    (hK:∀ y v',R y v'->CW (ZZ Ω) g (b.at (a.put o.dst y) (.inRegion ops rest :: k)) cs v' X):CW (ZZ Ω) g (b.at a (.inRegion ops (i :: rest) :: k)) cs v X:=by
  refine .enter ZZ.ok ho (by simp [Region.wanted,hw]) hk (fun w=>call_enters hop hc hx ha hf hb hn w) (.calls ZZ.ok (fun h=>?_) hbl fun t0 _=>Calls.mono (hcl (retape v t0) rfl rfl) ?_)
  · have h':f=90∨f=91∨deadFn f=true:=h
    have:spB f=true:=by
      unfold spB
      rcases h' with rfl|rfl|h'
      · rfl
      · rfl
      · rw [h'];simp
    rw [hsp] at this
    cases this
  · rintro e u ⟨y,rfl,hR⟩
    refine ⟨y,rfl,?_⟩
    rw [Frame.finish_at,ho]
    exact hK y u hR
end
end
end Go.Proofs.Shardlog
namespace Go.Tame
open Go.Conc
section
def waitsDone (ops:Array Oper) (d:Nat->Bool) (i:Nat):Bool:=((ops[i]?).map (·.after.all fun e=>!Region.binds .any e || d e.on)).getD false
def updB (d:Nat->Bool) (i:Nat):Nat->Bool:=fun x=>if x=i then true else d x
section
variable {ops:Array Oper}{C:(Nat->Bool)->List Nat->Prop}
theorem go_acc:∀ (fuel t:Nat) (listed:Array Bool) (acc:List Nat),Region.linearise.go .any ops fuel t listed acc=acc.reverse++Region.linearise.go .any ops fuel t listed []
  | 0,_,_,_=>by simp [Region.linearise.go]
  | fuel+1,t,listed,acc=>by
    unfold Region.linearise.go
    dsimp only
    split
    · rename_i i _
      rw [go_acc fuel _ _ (i :: acc),go_acc fuel _ _ [i]]
      simp
    · simp
def openN (ops:Array Oper) (listed:Array Bool):Nat:=((List.range ops.size).filter fun i=>!listed.getD i true).length
theorem go_ind (hdeps:∀ i o e,ops[i]? = some o->e ∈ o.after->Region.binds .any e=true->e.on<i)
    (hend:∀ d,(∀ i,i<ops.size->d i=true)->C d []) (hstep:∀ d i rest,i<ops.size->d i=false->waitsDone ops d i=true->C (updB d i) rest->C d (i :: rest)) :
    ∀ (fuel t:Nat) (listed:Array Bool),listed.size=ops.size->openN ops listed<=fuel->C (fun i=>listed.getD i false) (Region.linearise.go .any ops fuel t listed [])
  | 0,t,listed,hs,hn=>by
    refine hend _ fun i hi=>?_
    have h0:(List.range ops.size).filter (fun i=>!listed.getD i true) = []:=List.eq_nil_of_length_eq_zero (by unfold openN at hn;omega)
    have:=List.filter_eq_nil_iff.1 h0 i (List.mem_range.2 hi)
    have hl:i<listed.size:=by omega
    simp [Array.getD,hl] at this ⊢
    exact this
  | fuel+1,t,listed,hs,hn=>by
    unfold Region.linearise.go
    dsimp only
    split
    · rename_i i hi
      have hm:=List.mem_filter.1 (List.mem_of_getElem? hi)
      have hlt:i<ops.size:=List.mem_range.1 hm.1
      have hl:i<listed.size:=by omega
      have hp:=hm.2
      rw [Bool.and_eq_true] at hp
      have hi0:listed.getD i false=false:=by
        have:=hp.1
        simp [Array.getD,hl] at this ⊢
        exact this
      rw [go_acc fuel _ _ [i]]
      refine hstep _ i _ hlt hi0 ?_ ?_
      · exact hp.2
      · have hup:updB (fun j=>listed.getD j false) i=fun j=>(listed.setIfInBounds i true).getD j false:=by
          funext j
          unfold updB
          by_cases e:j=i
          · subst e
            simp [Array.getD,hl]
          · rw [if_neg e]
            show listed.getD j false=_
            rw [Array.getD_eq_getD_getElem?,Array.getD_eq_getD_getElem?,Array.getElem?_setIfInBounds_ne (Ne.symm e)]
        rw [hup]
        refine go_ind hdeps hend hstep fuel _ _ (by simp [hs]) ?_
        have hlen:openN ops (listed.setIfInBounds i true)<openN ops listed:=by
          unfold openN
          have hsub:((List.range ops.size).filter fun j=>!(listed.setIfInBounds i true).getD j true)=((List.range ops.size).filter fun j=>!listed.getD j true).filter fun j=>j != i:=by
            rw [List.filter_filter]
            refine List.filter_congr fun j hj=>?_
            have hjl:j<listed.size:=by rw [hs];exact List.mem_range.1 hj
            by_cases e:j=i
            · subst e
              simp [Array.getD,hl]
            · simp [Array.getD,hjl,Array.getElem_setIfInBounds,Ne.symm e,e]
          rw [hsub]
          refine List.length_filter_lt_length_iff_exists.2 ⟨i,List.mem_filter.2 ⟨hm.1,hp.1⟩,by simp⟩
        omega
    · rename_i hnone
      refine hend _ fun i hi=>Classical.byContradiction fun hne=>?_
      have hex:∃ j,j<ops.size/\¬ listed.getD j false=true:=⟨i,hi,hne⟩
      obtain ⟨j,⟨hj,hjo⟩,hmin⟩:∃ j,(j<ops.size/\¬ listed.getD j false=true)/\∀ k,k<j->¬ (k<ops.size/\¬ listed.getD k false=true):=by
        refine Classical.byContradiction fun hno=>?_
        have hall:∀ n,∀ k,k<n->¬ (k<ops.size/\¬ listed.getD k false=true):=by
          intro n
          induction n with
          | zero=>intro k hk;omega
          | succ n ih=>
            intro k hk hb
            rcases Nat.lt_or_ge k n with h|h
            · exact ih k h hb
            · obtain rfl:k=n:=by omega
              exact hno ⟨k,hb,ih⟩
        exact hall (i+1) i (by omega) ⟨hi,hne⟩
      have hjl:j<listed.size:=by omega
      have hjm:j ∈ (List.range ops.size).filter fun i=>!listed.getD i true && ((ops[i]?).map (·.after.all fun e=>!Region.binds .any e || listed.getD e.on false)).getD false:=by
        refine List.mem_filter.2 ⟨List.mem_range.2 hj,?_⟩
        rw [Bool.and_eq_true]
        refine ⟨by simp [Array.getD,hjl] at hjo ⊢;exact hjo,?_⟩
        rw [Array.getElem?_eq_getElem hj]
        simp only [Option.map_some,Option.getD_some,Array.all_eq_true_iff_forall_mem]
        intro e he
        cases hb:Region.binds .any e with
        | false=>rfl
        | true=>
          have hlt:=hdeps j _ e (Array.getElem?_eq_getElem hj) he hb
          have:=hmin e.on hlt
          simp only [not_and,Classical.not_not] at this
          have:=this (by omega)
          simp [this]
      have hpos:=List.length_pos_of_mem hjm
      have:=List.getElem?_eq_none_iff.1 hnone
      have hmod:=Nat.mod_lt t hpos
      omega
theorem schedule_ind (hdeps:∀ i o e,ops[i]? = some o->e ∈ o.after->Region.binds .any e=true->e.on<i)
    (hend:∀ d,(∀ i,i<ops.size->d i=true)->C d []) (hstep:∀ d i rest,i<ops.size->d i=false->waitsDone ops d i=true->C (updB d i) rest->C d (i :: rest)) {mixed:Bool} (hm:mixed=true) (t:Nat):C (fun _=>false) (Region.schedule mixed ops t):=by
  subst hm
  simp only [Region.schedule,Bool.true_or,if_true]
  have:=go_ind (C:=C) hdeps hend hstep ops.size t (Array.replicate ops.size false) (by simp) (by unfold openN;exact Nat.le_trans (List.length_filter_le _ _) (by simp))
  have e:(fun i=>(Array.replicate ops.size false).getD i false)=fun _=>false:=by
    funext i
    simp [Array.getD]
  rw [e] at this
  exact this
end
end
end Go.Tame
namespace Go.Proofs.Shardlog
open Go Go.Conc Go.Tame Go.Proofs
section
variable {Ω:World}
section
variable {g:List Rec}{v:World}{cs:List Frame}{X:List Rec->Frame->List Frame->World->Prop}{b:Frame}{a:Act}{k:List Item}{id:Nat}{ops:Array Oper}
theorem ZZ.sched (St:(Nat->Bool)->List Rec->Act->World->Prop)(hdeps:(ops.toList.zipIdx.all fun p=>p.1.after.all fun e=>!Region.binds .any e || decide (e.on<p.2))=true)(h0:∀ u:World,u.heap=v.heap->u.os=v.os->St (fun _=>false) g a u)
    (hend:∀ d g' a' v',(∀ i,i<ops.size->d i=true)->St d g' a' v'->CW (ZZ Ω) g' (b.at a' k) cs v' X)
    (hstep:∀ d i rest g' a' v',i<ops.size->d i=false->waitsDone ops d i=true->St d g' a' v'->(∀ g2 a2 v2,St (updB d i) g2 a2 v2->CW (ZZ Ω) g2 (b.at a2 (.inRegion ops rest :: k)) cs v2 X)->CW (ZZ Ω) g' (b.at a' (.inRegion ops (i :: rest) :: k)) cs v' X) :
    CW (ZZ Ω) g (b.at a (.code (.region id ops true) :: k)) cs v X:=by
  have hd:∀ i o e,ops[i]? = some o->e ∈ o.after->Region.binds .any e=true->e.on<i:=fun i o e ho he hb=>by
    have h1:=List.all_eq_true.1 hdeps (o,i) (by rw [List.mem_zipIdx_iff_getElem?];simpa using ho)
    have h2:=(Array.all_eq_true_iff_forall_mem.1 h1) e he
    rw [hb] at h2
    simpa using h2
  have hall:∀ t,∀ g' a' v',St (fun _=>false) g' a' v'->CW (ZZ Ω) g' (b.at a' (.inRegion ops (Region.schedule (Tryz.prog.follows .mixedOrders) ops t) :: k)) cs v' X:=fun t=>
    schedule_ind (C:=fun d l=>∀ g' a' v',St d g' a' v'->CW (ZZ Ω) g' (b.at a' (.inRegion ops l :: k)) cs v' X) hd (fun d hdn g' a' v' hs=>.regionEnd ZZ.ok (hend d g' a' v' hdn hs)) (fun d i rest hi h1 h2 ih g' a' v' hs=>hstep d i rest g' a' v' hi h1 h2 hs ih) Tryz.mixed t
  refine .own ZZ.ok fun w hl=>⟨b.at a (.inRegion ops (Region.schedule (Tryz.prog.follows .mixedOrders) ops (w.tape w.drawn (.order b.fn id))) :: k),cs,{ w with drawn:=w.drawn+1 },{ v with drawn:=0 },#[],?_,kept_draw w,by simp,hl.draw _ _,hall _ _ _ _ (h0 _ rfl rfl)⟩
  simp [stepG,stepG.exec,Frame.at,G,choose,Sem.run,Question.forced,Question.cut]
end
end
section
section
variable {v:World}{c D cap s r:Nat}
@[go_sem] theorem LL.chanNil (u:World):Sem.run Tryz.L (binOp .eql 85 (.chan (some D)) (.chan none)) u=.ok (.bool false) u:=by kernel_rfl
theorem lone_live (hc:v.cell? ⟨c,5,none⟩=some (.chan (some D)))(hd:v.heap[D]? = some (.chan cap #[] false s r false)) :
    Calls Tryz.L 33 #[.pointer (some ⟨c,0,none⟩)] v fun e v'=>e=.returned (.bool false)/\v'=v:=by
  refine calls_of_loneTo fun cs=>?_
  have e:Frame.enter Tryz.L 33 #[.pointer (some ⟨c,0,none⟩)] .normal=(base 33).at ⟨#[.pointer (some ⟨c,0,none⟩),undef,undef,undef,undef,undef,undef,undef,undef,undef,undef,undef,undef,undef,undef],[]⟩ [.code (Tryz.f33.body.getD .skip)]:=by
    simp [Frame.enter,Frame.at,LL.func33,base,Tryz.ntmps33]
    rfl
  rw [e]
  clear e
  refine LoneTo.goes (n:=40) ?_
  simp only [Tryz.f33,Option.getD_some]
  s_c stepG_seq
  s_reg
  s_op
  s_c stepG_region_end
  s_c stepG_seq
  s_c stepG_seq
  s_reg
  s_op
  s_op
  s_op
  s_op
  s_op
  s_c stepG_region_end
  s_cond false
  s_c stepG_skip
  s_c stepG_seq
  s_reg
  s_op
  s_op
  s_op
  s_op
  s_c stepG_region_end
  s_c stepG_seq
  s_reg
  s_stop
  refine LoneTo.step (step_lone_select_default (c:=D) (z:=.agg #[]) (cap:=cap) (s:=s) (r:=r) (tm:=false) (stepG_comm (cases:=#[rcase D (.agg #[])]) (blocking:=false) (shape:=.select) (w':=v) rfl rfl (by decide) (by simp [go_sem,execOp,rcase,Act.eval])) hd) ?_
  rw [Frame.finish_at]
  walk_nrm
  refine LoneTo.goes (n:=11) ?_
  s_op
  s_op
  s_c stepG_region_end
  s_c stepG_block
  s_cond false
  s_c stepG_seq
  s_reg
  s_op
  s_c stepG_region_end
  s_c stepG_ret'
  s_stop
  exact LoneTo.done ⟨.returned (.bool false),_,rfl,⟨rfl,rfl⟩,rfl,rfl,rfl,rfl,_,LL.func33,by simp [results,Tryz.f33,Frame.at]⟩
theorem lone_shut (hc:v.cell? ⟨c,5,none⟩=some (.chan (some D)))(hd:v.heap[D]? = some (.chan cap #[] true s r false)) :
    Calls Tryz.L 33 #[.pointer (some ⟨c,0,none⟩)] v fun e v'=>e=.returned (.bool true)/\v'=v:=by
  refine calls_of_loneTo fun cs=>?_
  have e:Frame.enter Tryz.L 33 #[.pointer (some ⟨c,0,none⟩)] .normal=(base 33).at ⟨#[.pointer (some ⟨c,0,none⟩),undef,undef,undef,undef,undef,undef,undef,undef,undef,undef,undef,undef,undef,undef],[]⟩ [.code (Tryz.f33.body.getD .skip)]:=by
    simp [Frame.enter,Frame.at,LL.func33,base,Tryz.ntmps33]
    rfl
  rw [e]
  clear e
  refine LoneTo.goes (n:=40) ?_
  simp only [Tryz.f33,Option.getD_some]
  s_c stepG_seq
  s_reg
  s_op
  s_c stepG_region_end
  s_c stepG_seq
  s_c stepG_seq
  s_reg
  s_op
  s_op
  s_op
  s_op
  s_op
  s_c stepG_region_end
  s_cond false
  s_c stepG_skip
  s_c stepG_seq
  s_reg
  s_op
  s_op
  s_op
  s_op
  s_c stepG_region_end
  s_c stepG_seq
  s_reg
  s_stop
  refine LoneTo.step (step_lone_select_recv_shut (c:=D) (z:=.agg #[]) (cap:=cap) (s:=s) (r:=r) (tm:=false) (stepG_comm (cases:=#[rcase D (.agg #[])]) (blocking:=false) (shape:=.select) (w':=v) rfl rfl (by decide) (by simp [go_sem,execOp,rcase,Act.eval])) hd) ?_
  rw [Frame.finish_at]
  walk_nrm
  refine LoneTo.goes (n:=11) ?_
  s_op
  s_op
  s_c stepG_region_end
  s_c stepG_block
  s_cond true
  s_c stepG_seq
  s_reg
  s_op
  s_c stepG_region_end
  s_c stepG_ret'
  s_stop
  exact LoneTo.done ⟨.returned (.bool true),_,rfl,⟨rfl,rfl⟩,rfl,rfl,rfl,rfl,_,LL.func33,by simp [results,Tryz.f33,Frame.at]⟩
end
end
section
variable {Ω:World}
noncomputable def shut1:Array Oper:=
  #[{ dst:=some 3,op:=.load 23 (.tmp 0),type:=23,pos:= "cluster.go:157",after:=#[],guard:=none },{ dst:=some 4,op:=.nilCheck (.tmp 3),type:=0,pos:= "cluster.go:157",after:=#[{ on:=0,ground:=.data }],guard:=none },
    { dst:=some 5,op:=.fieldAddr 94 (.tmp 4) 4,type:=0,pos:= "cluster.go:157",after:=#[{ on:=1,ground:=.data }],guard:=none },{ dst:=some 6,op:=.load 85 (.tmp 5),type:=85,pos:= "cluster.go:157",after:=#[{ on:=2,ground:=.data }],guard:=none },
    { dst:=none,op:=.call { callee:=.builtin .close,args:=#[.tmp 6],argTypes:=#[85] },type:=0,pos:= "cluster.go:157",after:=#[{ on:=3,ground:=.data }],guard:=none }]
section
variable {g:List Rec}{fr:Frame}{cs:List Frame}{v:World}{X:List Rec->Frame->List Frame->World->Prop}{b:Frame}{a:Act}{k:List Item}{c o B D cap s rr:Nat}{r:Rec}
theorem zz_live (hc:v.cell? ⟨c,5,none⟩=some (.chan (some D)))(hd:v.heap[D]? = some (.chan cap #[] false s rr false))(h:∀ u:World,u.heap=v.heap->u.os=v.os->CW (ZZ Ω) g (b.finish (.bool false)) cs u X) :
    CW (ZZ Ω) g (Frame.enter Tryz.prog 33 #[.pointer (some ⟨c,0,none⟩)] .normal) (b :: cs) v X:=by
  refine .calls ZZ.ok (fun h=>?_) (by kernel_rfl) fun t _=>?_
  · rcases h with h|h|h
    · cases h
    · cases h
    · revert h;decide
  · refine Calls.mono (lone_live (v:=retape v t) hc hd) ?_
    rintro e v' ⟨rfl,rfl⟩
    exact ⟨_,rfl,h _ rfl rfl⟩
theorem zz_firm {w:World}{In:Nat->Option Chair}(hr:r ∈ g)(hlv:r.live=true)(hn:r.cnt=r.ms.length)(hB:v.cell? ⟨B,0,none⟩=some (.pointer (some ⟨r.c,0,none⟩)))(hd:v.heap[r.D]? = some (.chan cap #[] false s rr false))(hl:Like (protOf Ω g) w v)(hj:Held g w In){ops:Array Oper}{gg:Goroutine}(hw:mayWake Tryz.prog gg=true)
    (hst:∀ (d:Nat) (k:Nat × Nat),w.heap[r.D]? = some (.chan cap #[] false k.1 k.2 false)->stepG Tryz.prog true gg (w.at d)=.go (G ((base 32).at ⟨shutTmps r.c B r.D undef undef undef,[]⟩ [.inRegion ops [],.code (.region 2 shut2 false)]) (b :: cs)) ((w.at d).setChan r.D cap #[] true k.1 k.2 false) (closeEvents r.D)) :
    ∃ (K:World->Prop) (st sm:Addr) (Head:Goroutine->Prop) (own:Addr->Prop) (D:Nat) (js:List Nat) (cq m:Nat) (k:Nat × Nat) (a':Goroutine),Firm Tryz.prog (protOf Ω g) K st sm (qf r.c B r.D) (b :: cs) Head own D js In/\w.heap[D]? = some (.chan cq #[] false k.1 k.2 false) /\
      (∀ d,stepG Tryz.prog true gg (w.at d)=.go a' ((w.at d).setChan D cq #[] true k.1 k.2 false) (closeEvents D))/\a'.status=.running/\mayWake Tryz.prog gg=true/\0 ∉ js/\(∀ j ∈ js,∃ c,In j=some c)/\(∀ j c,In j=some c->c.seat.has D->j ∈ js) /\
      K ((w.at 0).setChan D cq #[] true k.1 k.2 false)/\w.cell? st=some (.int .u64 ((js.length:Int)*4294967296))/\w.cell? sm=some (.int .u32 0)/\w.frozen? st=false/\w.frozen? sm=false/\WayD Tryz.prog true K (E0 own) (fun d g=>d=1/\Head g) m 0 a' /\
      ∀ w',Tame.Shut st sm D cq k w w'->Like (protOf Ω g) w' (v.setChan r.D cap #[] true s rr false)/\Held (shutRec r.D g) w' (left In js):=by
  obtain ⟨k,hk⟩:=hl.chanOf hd
  have g6:(protOf Ω g).gone ⟨r.c,6,none⟩:=⟨r,hr,.inl rfl⟩
  have g7:(protOf Ω g).gone ⟨r.c,7,none⟩:=⟨r,hr,.inr rfl⟩
  obtain ⟨c6,c7⟩:=hj.count r hr hlv
  obtain ⟨⟨y,e,f,hy,hlt⟩,f7⟩:=hl.warm g7 c7
  obtain ⟨_,f6⟩:=hl.warm g6 c6
  have hne:r.D≠r.c:=fun e=>by
    rw [e] at hk
    rw [hk] at hy
    cases hy
  refine ⟨shutK B r.c,⟨r.c,6,none⟩,⟨r.c,7,none⟩,_,fun a=>a=⟨B,0,none⟩,r.D,r.ms.map (·.j),cap,13,k,_,shut_firm hr hlv hj (hl.notGone hB),hk,fun d=>hst d k hk,rfl,hw,fun h=>?_,fun j h=>?_,fun j ch h1 h2=>?_,?_,?_,c7,f6,f7,shut_way (fun w h=>h.2) rfl,fun w' hs=>⟨hl.shut g6 g7 hk hd hs,hj.shut hr hlv hk hs⟩⟩
  · obtain ⟨x,hx,e⟩:=List.mem_map.1 h
    exact (hj.nodup r hr hlv).2.1 x hx e
  · obtain ⟨x,hx,rfl⟩:=List.mem_map.1 h
    exact ⟨_,hj.sits r hr hlv x hx⟩
  · obtain ⟨r',hr',hl',x,hx,rfl,rfl⟩:=hj.who j ch h1
    rcases seat_has h2 with h|h
    · obtain rfl:=(hj.apart r hr r' hr' hlv hl').1 h
      exact List.mem_map.2 ⟨x,hx,rfl⟩
    · exact absurd h ((hj.apart r hr r' hr' hlv hl').2.2 x hx)
  · refine ⟨⟨y,e,f,?_,hlt⟩,?_⟩
    · rw [heap_setChan_ne _ _ _ _ _ _ _ hne]
      exact hy
    · rw [setChan_cell (w:=w.at 0) hk]
      exact hl.cell hB
  · rw [List.length_map,← hn]
    exact c6
theorem zz_close {cs0:List Frame}(hr:r ∈ g)(hlv:r.live=true)(hn:r.cnt=r.ms.length)(hB:v.cell? ⟨B,0,none⟩=some (.pointer (some ⟨r.c,0,none⟩)))(hd:v.heap[r.D]? = some (.chan cap #[] false s rr false))(hw:mayWake Tryz.prog (G fr cs0)=true)
    (hst:∀ (w:World) (d:Nat) (k:Nat × Nat),w.heap[r.D]? = some (.chan cap #[] false k.1 k.2 false)->stepG Tryz.prog true (G fr cs0) (w.at d)=.go (G ((base 32).at ⟨shutTmps r.c B r.D undef undef undef,[]⟩ [.inRegion shut1 [],.code (.region 2 shut2 false)]) (b :: cs)) ((w.at d).setChan r.D cap #[] true k.1 k.2 false) (closeEvents r.D))
    (hX:CW (ZZ Ω) (shutRec r.D g) ((qf r.c B r.D).finish (.tuple #[])) (b :: cs) (v.setChan r.D cap #[] true s rr false) X):CW (ZZ Ω) g fr cs0 v X:=by
  exact CW.stops (g':=shutRec r.D g) (b:=qf r.c B r.D) (cs':=b :: cs) (v':=v.setChan r.D cap #[] true s rr false) protOf_shut (fun w In hl hj=>zz_firm (gg:=G fr cs0) hr hlv hn hB hd hl hj hw fun d k hk=>hst w d k hk) hX
theorem zz_shut (hr:r ∈ g)(hlv:r.live=true)(hn:r.cnt=r.ms.length)(hB:v.cell? ⟨B,0,none⟩=some (.pointer (some ⟨r.c,0,none⟩)))(hc:v.cell? ⟨r.c,5,none⟩=some (.chan (some r.D)))(hd:v.heap[r.D]? = some (.chan cap #[] false s rr false)) :
    CWCall (ZZ Ω) g 32 #[.pointer (some ⟨B,0,none⟩)] v fun g' _ v'=>g'=shutRec r.D g/\∃ u:World,u.heap=v.heap/\u.os=v.os/\v'=u.setChan r.D cap #[] true s rr false:=by
  obtain ⟨rcb,c,D,rms,rcnt,rlive⟩:=r
  dsimp only at hlv hn hB hc hd ⊢
  refine ZZ.body (tmps:=#[.pointer (some ⟨B,0,none⟩),undef,undef,undef,undef,undef,undef,undef,undef,undef,undef]) Tryz.func32 (by rfl) (by rfl) ?_
  intro b cs
  refine CW.seq ZZ.ok (CW.seq ZZ.ok (ZZ.pre [_] [_] (by kernel_rfl) (by simp [base]) fun Q u hu ho hQ=>?_))
  rw [← cell_heap hu] at hc hB
  rw [← hu] at hd
  go_wp2
  refine .enter ZZ.ok (i:=1) rfl (by simp [Region.wanted]) (by simp [base]) (fun w=>call_enters (f:=33) (first:=#[]) (captured:=#[]) (args:=#[.pointer (some ⟨c,0,none⟩)]) rfl rfl rfl (by simp [Act.eval]) Tryz.func33 (by kernel_rfl) (by kernel_rfl) w) (zz_live hc hd fun u1 hu1 ho1=>?_)
  rw [Frame.finish_at]
  rw [← cell_heap hu1] at hc hB
  rw [← hu1] at hd
  refine .regionEnd ZZ.ok (CW.cond (t:=false) ZZ.ok (by rfl) ?_)
  simp only [if_false,Bool.false_eq_true]
  refine CW.skip ZZ.ok (CW.seq ZZ.ok (ZZ.pre [_,_,_,_] [_] (by kernel_rfl) (by simp [base]) fun Q u2 hu2 ho2 hQ=>?_))
  rw [← cell_heap hu2] at hc hB
  rw [← hu2] at hd
  go_wp2
  refine zz_close (r:=⟨rcb,c,D,rms,rcnt,rlive⟩) (b:=b) (cs:=cs) (B:=B) hr hlv hn hB hd (by rfl) (fun w d k hk=>?_) ?_
  · exact stepG_close (P:=Tryz.prog) (w:=w.at d) (ops:=shut1) (b:=base 32) (a:=⟨shutTmps c B D undef undef undef,[]⟩) (i:=4) (rest:=[]) (x:=.tmp 6) rfl (by rfl) (by simp [base]) rfl (by rfl) hk (by kernel_rfl)
  · unfold qf
    rw [Frame.finish_at]
    refine .regionEnd ZZ.ok (.atEnd ZZ.ok (.leave ZZ.ok (fn:=Tryz.f32) (y:=.tuple #[]) rfl rfl (.inl rfl) Tryz.func32 (fun w _=>⟨results_none rfl _ _ _,fun e he=>by simp [results] at he⟩) (.done ⟨rfl,_,rfl,rfl,u2,?_,?_,rfl⟩)))
    · rw [hu2,hu1,hu]
    · rw [ho2,ho1,ho]
end
end
section
variable {Ω:World}
section
variable {g:List Rec}{v:World}{cap s rr:Nat}{r:Rec}
structure Halted (v v':World) (D cap s rr:Nat):Prop where
  chan:v'.heap[D]? = some (.chan cap #[] true s rr false)
  old:∀ x,x<v.heap.size->x≠D->v'.heap[x]? = v.heap[x]?
  size:v.heap.size<=v'.heap.size
  os:v'.os=v.os
theorem setCell_ne {u:World}{a:Addr}{y:Value}{i:Nat}(h:i≠a.block):(u.setCell a y).heap[i]? = u.heap[i]?:=by
  simp only [World.setCell,Array.getElem?_modify]
  rw [if_neg (Ne.symm h)]
theorem setCell_size (u:World)(a:Addr)(y:Value):(u.setCell a y).heap.size=u.heap.size:=by simp [World.setCell]
theorem setCell_back {u u':World}{a:Addr}{x y:Value}(hc:u.cell? a=some x)(h:u'.heap[a.block]? = (u.setCell a y).heap[a.block]?):(u'.setCell a x).heap[a.block]? = u.heap[a.block]?:=by
  unfold World.cell? at hc
  simp only [World.setCell,Array.getElem?_modify,if_true] at h ⊢
  rw [h]
  cases hb:u.heap[a.block]? with
  | none=>rfl
  | some o=>
    rw [hb] at hc
    cases o with
    | cells c e f=>
      by_cases hs:a.spot.isSome=true
      · simp [hs] at hc
      · simp only [hs,Bool.false_eq_true,if_false] at hc
        simp only [Option.map_some,hs,Bool.false_eq_true,if_false]
        congr 2
        apply Array.ext_getElem?
        intro i
        rw [Array.getElem?_setIfInBounds,Array.getElem?_setIfInBounds]
        by_cases hi:a.off=i
        · subst hi
          have hlt:=(Array.getElem?_eq_some_iff.1 hc).1
          rw [hc]
          simp [hlt]
        · simp [hi]
    | _=>rfl
theorem setCell_same_cell {u:World}{a:Addr}{x y:Value}(hc:u.cell? a=some x):(u.setCell a y).cell? a=some y:=World.cell?_setCell_same _ _ _ hc
theorem setCell_frozen (u:World)(a b:Addr)(y:Value):(u.setCell a y).frozen? b=u.frozen? b:=by
  unfold World.frozen?
  simp only [World.setCell,Array.getElem?_modify]
  by_cases h:a.block=b.block
  · simp only [h,if_true]
    cases u.heap[b.block]? with
    | none=>rfl
    | some o=>cases o <;> rfl
  · simp [h]
theorem zz_stop (hr:r ∈ g)(hlv:r.live=true)(hn:r.cnt=r.ms.length)(hm:v.cell? ⟨r.c,0,none⟩=some (.int .i32 0))(hz:v.frozen? ⟨r.c,0,none⟩=false)(hc:v.cell? ⟨r.c,5,none⟩=some (.chan (some r.D)))(hd:v.heap[r.D]? = some (.chan cap #[] false s rr false)) :
    CWCall (ZZ Ω) g 21 #[.pointer (some ⟨r.c,0,none⟩)] v fun g' y v'=>g'=shutRec r.D g/\y=.tuple #[]/\Halted v v' r.D cap s rr:=by
  obtain ⟨rcb,c,D,rms,rcnt,rlive⟩:=r
  dsimp only at hlv hn hm hz hc hd ⊢
  have hlt:c<v.heap.size:=by
    unfold World.cell? at hc
    rcases Nat.lt_or_ge c v.heap.size with h|h
    · exact h
    · rw [Array.getElem?_eq_none_iff.2 h] at hc
      simp at hc
  have hDlt:D<v.heap.size:=(Array.getElem?_eq_some_iff.1 hd).1
  have hDc:D≠c:=fun e=>by
    subst e
    unfold World.cell? at hc
    rw [hd] at hc
    cases hc
  refine ZZ.body (tmps:=#[.pointer (some ⟨c,0,none⟩),undef,undef,undef,undef]) Tryz.func21 (by rfl) (by rfl) ?_
  intro b cs
  refine CW.seq ZZ.ok (ZZ.plain (by kernel_rfl) (by simp [base]) fun Q u hu ho hQ=>?_)
  go_wp2
  refine ZZ.pre [_,_] [_] (by kernel_rfl) (by simp [base]) fun Q u1 hu1 ho1 hQ=>?_
  have gr:Grown v u1:=(Grown.same hu ho).trans ((Grown.alloc u _).trans (Grown.same hu1 ho1))
  have hB:u1.cell? ⟨u.heap.size,0,none⟩=some (.pointer (some ⟨c,0,none⟩)):=by
    rw [cell_heap hu1]
    exact box_cell u _ 23
  have huv:u.heap.size=v.heap.size:=by rw [hu]
  rw [huv] at hB
  have hm1:=gr.cell hm
  have hc1:=gr.cell hc
  have hz1:u1.frozen? ⟨c,0,none⟩=false:=by
    rw [← hz]
    unfold World.frozen?
    rw [gr.heap c hlt]
  have hd1:u1.heap[D]? = some (.chan cap #[] false s rr false):=by rw [gr.heap D hDlt,hd]
  go_wp2
  refine CW.callAt (R:=fun g' y v'=>g'=shutRec D g/\y=.tuple #[]/\Halted v v' D cap s rr) ZZ.ok (i:=2) (rest:=[]) (f:=31) (first:=#[]) (captured:=#[]) (args:=#[.pointer (some ⟨c,0,none⟩),.func (.func 32) #[] #[.pointer (some ⟨v.heap.size,0,none⟩)]]) rfl rfl (by simp [base]) rfl rfl (by rfl) (by simp [Act.eval]) Tryz.func31 (by kernel_rfl) (by kernel_rfl)
    (zz_alone (K:=fun g' u'=>g'=shutRec D g/\∃ u2:World,u2.heap=(u1.setCell ⟨c,0,none⟩ (.int .i32 1)).heap/\u2.os=u1.os/\u'.heap=(u2.setChan D cap #[] true s rr false).heap/\u'.os=u2.os) Tryz.func32 (by kernel_rfl) (by kernel_rfl) hm1 hz1 (fun u2 hu2 ho2=>?_) (fun g' u' hK=>?_)) fun g' y v' hR=>?_
  · intro b' cs'
    refine (zz_shut (r:=⟨rcb,c,D,rms,rcnt,rlive⟩) (cap:=cap) (s:=s) (rr:=rr) (B:=v.heap.size) hr hlv hn ?_ ?_ ?_ b' cs').mono fun g' fr' cs' v' h=>?_
    · rw [cell_heap hu2,World.cell?_setCell_other _ _ _ _ (by simp <;> omega)]
      exact hB
    · rw [cell_heap hu2,World.cell?_setCell_other _ _ _ _ (by simp)]
      exact hc1
    · rw [hu2,setCell_ne hDc]
      exact hd1
    · obtain ⟨h1,y,h2,h3,u3,h4,h5,h6⟩:=h
      refine ⟨h1,y,h2,h3,u3,h4.trans hu2,h5.trans ho2,by rw [h6],by rw [h6];rfl⟩
  · obtain ⟨rfl,u2,k1,k2,k3,k4⟩:=hK
    have hd2:u2.heap[D]? = some (.chan cap #[] false s rr false):=by
      rw [k1,setCell_ne hDc]
      exact hd1
    refine ⟨?_,?_,fun u'' h1 h2=>⟨rfl,rfl,?_,fun x hx hxD=>?_,?_,?_⟩⟩
    · rw [cell_heap k3,setChan_cell hd2,cell_heap k1]
      exact setCell_same_cell hm1
    · rw [frozen_heap k3,setChan_frozen hd2,frozen_heap k1,setCell_frozen]
      exact hz1
    · rw [setCell_ne hDc,h1,k3]
      exact heap_setChan_self _ hd2 _ _ _ _ _ _
    · rw [← gr.heap x hx]
      by_cases hxc:x=c
      · subst hxc
        refine setCell_back (a:=⟨x,0,none⟩) (y:=.int .i32 1) hm1 ?_
        show u''.heap[x]? = _
        rw [h1,k3,heap_setChan_ne _ _ _ _ _ _ _ hDc,k1]
      · rw [setCell_ne hxc,h1,k3,heap_setChan_ne _ _ _ _ _ _ _ (Ne.symm hxD),k1,setCell_ne hxc]
    · rw [setCell_size,h1,k3]
      have:(u2.setChan D cap #[] true s rr false).heap.size=u2.heap.size:=by simp [World.setChan]
      rw [this,k1,setCell_size]
      exact gr.size
    · rw [setCell_os,h2,k4,k2]
      exact gr.os
  · exact .regionEnd ZZ.ok (.atEnd ZZ.ok (.leave ZZ.ok (fn:=Tryz.f21) (y:=.tuple #[]) rfl rfl (.inl rfl) Tryz.func21 (fun w _=>⟨results_none rfl _ _ _,fun e he=>by simp [results] at he⟩) (.done ⟨rfl,_,rfl,hR.1,rfl,hR.2.2⟩)))
end
end
end Go.Proofs.Shardlog
namespace Go.Mem
open Go
section
abbrev Role:=Nat × Nat × Nat
abbrev Lab:=Nat->Role
def still:Role:=(0,0,0)
structure Fr (Λ Λ':Lab) (M:Role->Prop) (w w':World):Prop where
  size:w.heap.size<=w'.heap.size
  old:∀ x,x<w.heap.size->¬ M (Λ x)->w'.heap[x]? = w.heap[x]?
  lab:∀ x,x<w.heap.size->Λ' x=Λ x
  os:w'.os=w.os
section
variable {Λ Λ' Λ₂:Lab}{M M':Role->Prop}{w w' w₂:World}
theorem Fr.refl (Λ:Lab)(M:Role->Prop)(w:World):Fr Λ Λ M w w:=⟨Nat.le_refl _,fun _ _ _=>rfl,fun _ _=>rfl,rfl⟩
theorem Fr.trans (h:Fr Λ Λ' M w w')(k:Fr Λ' Λ₂ M w' w₂):Fr Λ Λ₂ M w w₂:=
  ⟨Nat.le_trans h.size k.size,fun x hx hm=>(k.old x (by have:=h.size;omega) (by rw [h.lab x hx];exact hm)).trans (h.old x hx hm),fun x hx=>(k.lab x (by have:=h.size;omega)).trans (h.lab x hx),k.os.trans h.os⟩
theorem Fr.mono (h:Fr Λ Λ' M w w')(hm:∀ r,M r->M' r):Fr Λ Λ' M' w w':=⟨h.size,fun x hx hn=>h.old x hx fun z=>hn (hm _ z),h.lab,h.os⟩
theorem Fr.same (hh:w'.heap=w.heap)(ho:w'.os=w.os):Fr Λ Λ M w w':=⟨by rw [hh];exact Nat.le_refl _,fun _ _ _=>by rw [hh],fun _ _=>rfl,ho⟩
theorem Fr.drew (h:Fr Λ Λ' M w w'):Fr Λ Λ' M w w'.drew:=⟨h.size,h.old,h.lab,h.os⟩
theorem alloc_size (w:World)(o:Obj):(w.alloc o).heap.size=w.heap.size+1:=by show (w.heap.push o).size=_;rw [Array.size_push]
theorem alloc_get (w:World)(o:Obj)(i:Nat):(w.alloc o).heap[i]? = if i=w.heap.size then some o else w.heap[i]?:=by
  show (w.heap.push o)[i]? = _
  rw [Array.getElem?_push]
theorem Fr.alloc' (w:World)(o:Obj):Fr Λ Λ M w (w.alloc o):=⟨by rw [alloc_size];omega,fun x hx _=>by rw [alloc_get,if_neg (by omega)],fun _ _=>rfl,rfl⟩
theorem Fr.alloc (h:Fr Λ Λ' M w w')(o:Obj):Fr Λ Λ' M w (w'.alloc o):=h.trans (Fr.alloc' _ _)
theorem setCell_size (w:World)(a:Addr)(y:Value):(w.setCell a y).heap.size=w.heap.size:=by simp [World.setCell]
theorem setCell_ne {w:World}{a:Addr}{y:Value}{i:Nat}(h:i≠a.block):(w.setCell a y).heap[i]? = w.heap[i]?:=by
  simp only [World.setCell,Array.getElem?_modify]
  rw [if_neg (Ne.symm h)]
theorem setCell_os (w:World)(a:Addr)(y:Value):(w.setCell a y).os=w.os:=rfl
theorem Fr.set' {a:Addr}{y:Value}(hm:M (Λ a.block)):Fr Λ Λ M w (w.setCell a y):=⟨by rw [setCell_size];exact Nat.le_refl _,fun x _ hn=>setCell_ne fun e=>hn (e ▸ hm),fun _ _=>rfl,rfl⟩
theorem Fr.set (h:Fr Λ Λ' M w w'){a:Addr}{y:Value}(hm:M (Λ' a.block)):Fr Λ Λ' M w (w'.setCell a y):=h.trans (Fr.set' hm)
theorem Fr.grown {row:Option Nat}(h:w.grownBy w' row)(hr:∀ b,row=some b->M (Λ b)):Fr Λ Λ M w w':=
  ⟨h.size,fun x hx hm=>h.block x hx fun e=>hm (hr x e.symm),fun _ _=>rfl,h.os⟩
theorem Fr.relab (h:Fr Λ Λ' M w w')(hl:∀ x,x<w.heap.size->Λ₂ x=Λ' x):Fr Λ Λ₂ M w w':=⟨h.size,h.old,fun x hx=>(hl x hx).trans (h.lab x hx),h.os⟩
structure At (w:World) (Λ:Lab) (ρ:Role) (b:Nat) (o:Obj):Prop where
  obj:w.heap[b]? = some o
  lab:Λ b=ρ
section
variable {ρ:Role}{b:Nat}{o:Obj}
theorem At.lt (h:At w Λ ρ b o):b<w.heap.size:=(Array.getElem?_eq_some_iff.1 h.obj).1
theorem At.fr (h:At w Λ ρ b o)(f:Fr Λ Λ' M w w')(hm:¬ M ρ):At w' Λ' ρ b o:=⟨(f.old b h.lt (by rw [h.lab];exact hm)).trans h.obj,(f.lab b h.lt).trans h.lab⟩
theorem At.ne {ρ':Role}{b':Nat}{o':Obj}(h:At w Λ ρ b o)(k:At w' Λ ρ' b' o')(hn:ρ≠ρ'):b≠b':=fun e=>hn (by rw [← h.lab,e,k.lab])
theorem At.cell {c:Array Value}{e:TypeId}{f:Nat × Nat}(h:At w Λ ρ b (.cells c e f)){i:Nat}{v:Value}(hv:c[i]? = some v):w.cell? ⟨b,i,none⟩=some v:=by
  unfold World.cell?
  rw [h.obj]
  simpa using hv
theorem At.thaw {c:Array Value}{e:TypeId}{f:Nat × Nat}(h:At w Λ ρ b (.cells c e f)){i:Nat}(hi:¬ (f.1<=i/\i<f.2)):w.frozen? ⟨b,i,none⟩=false:=by
  unfold World.frozen?
  rw [h.obj]
  obtain ⟨lo,hi'⟩:=f
  dsimp only at hi ⊢
  rw [Bool.and_eq_false_iff,decide_eq_false_iff_not,decide_eq_false_iff_not]
  omega
theorem At.set {c:Array Value}{e:TypeId}{f:Nat × Nat}(h:At w Λ ρ b (.cells c e f))(i:Nat)(v:Value):At (w.setCell ⟨b,i,none⟩ v) Λ ρ b (.cells (c.setIfInBounds i v) e f):=by
  refine ⟨?_,h.lab⟩
  simp only [World.setCell,Array.getElem?_modify,if_true,h.obj]
  rfl
theorem At.new (w:World)(Λ:Lab)(o:Obj):At (w.alloc o) (fun x=>if x=w.heap.size then ρ else Λ x) ρ w.heap.size o:=⟨by rw [alloc_get,if_pos rfl],by simp⟩
end
structure Row (w:World) (Λ:Lab) (ρ:Role) (e:TypeId) (size:Nat) (v:Value) (n:Nat) (xs:List Value):Prop where
  own:w.ownsRow 0 e size v n xs
  lab:∀ b,v.ownBlock=some b->Λ b=ρ
section
variable {ρ:Role}{e:TypeId}{size n:Nat}{v:Value}{xs:List Value}
theorem own_keep {base:Nat}(h:w.ownsRow base e size v n xs)(hb:∀ b,v.ownBlock=some b->w'.heap[b]? = w.heap[b]?):w'.ownsRow base e size v n xs:=by
  obtain ⟨h1,h2⟩:=h
  refine ⟨h1,?_⟩
  rcases h2 with h2|⟨g,cap,cur,rfl,h3,h4,h5⟩
  · exact .inl h2
  · exact .inr ⟨g,cap,cur,rfl,h3,by rw [hb g rfl];exact h4,h5⟩
theorem own_lt {base:Nat}(h:w.ownsRow base e size v n xs){b:Nat}(hb:v.ownBlock=some b):b<w.heap.size:=by
  rcases h.2 with ⟨rfl,_⟩|⟨g,cap,cur,rfl,h3,h4,h5⟩
  · cases hb
  · cases hb;exact (Array.getElem?_eq_some_iff.1 h4).1
theorem own_zero {base:Nat}(h:w.ownsRow base e size v n xs):w.ownsRow 0 e size v n xs:=by
  obtain ⟨h1,h2⟩:=h
  refine ⟨h1,?_⟩
  rcases h2 with h2|⟨g,cap,cur,rfl,h3,h4,h5⟩
  · exact .inl h2
  · exact .inr ⟨g,cap,cur,rfl,Nat.zero_le _,h4,h5⟩
theorem Row.nil (w:World)(Λ:Lab)(ρ:Role)(e:TypeId)(size:Nat):Row w Λ ρ e size (.slice none 0 0) 0 []:=⟨World.ownsRow_nil _ _ _ _,fun b h=>by cases h⟩
theorem Row.fr (h:Row w Λ ρ e size v n xs)(f:Fr Λ Λ' M w w')(hm:¬ M ρ):Row w' Λ' ρ e size v n xs:=
  ⟨own_keep h.own fun b hb=>f.old b (own_lt h.own hb) (by rw [h.lab b hb];exact hm),fun b hb=>(f.lab b (own_lt h.own hb)).trans (h.lab b hb)⟩
theorem Row.slice (h:Row w Λ ρ e size v n xs):∃ o c,v=.slice o n c:=by
  rcases h.own.2 with ⟨rfl,rfl⟩|⟨g,cap,cur,rfl,_⟩
  · exact ⟨_,_,rfl⟩
  · exact ⟨_,_,rfl⟩
theorem Row.len (h:Row w Λ ρ e size v n xs):xs.length=n*size:=h.own.1
theorem Row.some (h:Row w Λ ρ e size v n xs)(hn:0<n):∃ g cap,v=.slice (some ⟨g,0,none⟩) n cap/\n<=cap/\cap<=maxLen/\g<w.heap.size/\Λ g=ρ:=by
  rcases h.own.2 with ⟨_,rfl⟩|⟨g,cap,cur,rfl,h3,h4,h5,h6,_⟩
  · omega
  · exact ⟨g,cap,rfl,h5,h6,(Array.getElem?_eq_some_iff.1 h4).1,h.lab g rfl⟩
theorem Row.cell (h:Row w Λ ρ e size v n xs){g:Nat}(hg:v.ownBlock=Option.some g){j:Nat}{u:Value}(hu:xs[j]? = Option.some u):w.cell? ⟨g,j,none⟩=Option.some u:=by
  have:=h.own.cells hg j u hu
  have hadd:(⟨g,0,none⟩:Addr).add j=⟨g,j,none⟩:=by unfold Addr.add;split <;> simp_all
  rw [hadd] at this
  exact this
theorem Row.append {m:Nat}{news:List Value}{v':Value}(h:Row w Λ ρ e size v n xs)(hr:w'.ownsRow 0 e size v' (n+m) (xs++news))(hg:w.grownBy w' v.ownBlock)(hl:v'.ownBlock=v.ownBlock∨v'.ownBlock=Option.some w.heap.size) :
    ∃ Λ',Fr Λ Λ' (· = ρ) w w'/\Row w' Λ' ρ e size v' (n+m) (xs++news):=by
  have f:Fr Λ Λ (· = ρ) w w':=Fr.grown hg h.lab
  refine ⟨fun x=>if x=w.heap.size then ρ else Λ x,f.relab fun x hx=>if_neg (by omega),hr,fun b hb=>?_⟩
  by_cases e:b=w.heap.size
  · rw [if_pos e]
  · rw [if_neg e]
    rcases hl with z|z
    · exact h.lab b (z ▸ hb)
    · rw [z] at hb;cases hb;exact absurd rfl e
end
end
end
section
section
variable {P:Program}{w:World}
theorem alloc_setRow (w:World)(x y:Array Value)(e:TypeId):(w.alloc (.cells x e)).setRow w.heap.size y=w.alloc (.cells y e):=by
  show ({ w with heap:=(w.heap.push (.cells x e)).modify w.heap.size _ }:World)={ w with heap:=w.heap.push (.cells y e) }
  congr 1
  apply Array.ext_getElem?
  intro i
  rw [Array.getElem?_modify,Array.getElem?_push,Array.getElem?_push]
  by_cases h:i=w.heap.size
  · subst h;simp
  · rw [if_neg h,if_neg h,if_neg (Ne.symm h)]
theorem run_copy_rows {dT sT ty e:TypeId}{size n c c':Nat}{src:Addr}{x:Array Value}{cs:List Value}(hu:P.underlying dT=some (.slice e))(hs:(P.info? e).map (·.size)=some size)(hl:cs.length=n*size)(hx:x.size=n*size)
    (hc:∀ j v,cs[j]? = some v->(w.alloc (.cells x e)).cell? (src.add j)=some v) (h1:∀ v ∈ cs,v.oneCell'=true) :
    (Builtin.copy_ #[dT,sT] ty #[.slice (some ⟨w.heap.size,0,none⟩) n c,.slice (some src) n c']).run P (w.alloc (.cells x e))=.ok (goInt n) (w.alloc (.cells cs.toArray e)):=by
  have hld:=run_loadCells_list (P:=P) (w:=w.alloc (.cells x e)) src cs hc
  have hg:(w.alloc (.cells x e)).heap[w.heap.size]? = some (.cells x e (0,0)):=by rw [alloc_get,if_pos rfl]
  have hst:=run_storeCells_at P w.heap.size 0 e cs 0 x (w.alloc (.cells x e)) hg (by omega) h1
  have hfin:(w.alloc (.cells x e)).setRow w.heap.size (x.toList.take (0+0)++cs++x.toList.drop (0+0+cs.length)).toArray=w.alloc (.cells cs.toArray e):=by
    rw [alloc_setRow,Nat.zero_add,Nat.zero_add,List.take_zero,List.nil_append,hl,List.drop_of_length_le (by simp [hx]),List.append_nil]
  rw [hfin] at hst
  cases hq:P.info? e with
  | none=>simp [hq] at hs
  | some i=>
    have hi:i.size=size:=by simpa [hq] using hs
    simp [Builtin.copy_,run_underlying hu,Builtin.lenOf,Builtin.firstCells,sizeOf,typeInfo,hq,hi,← hl,hld,hst]
theorem wpList_make_rows {ops:Array Oper}{rest:List Oper}{o:Oper}{a:Act}{Q:Exit->Act->World->Prop}(hg:o.guard=none)(l c:Operand)(t:TypeId)(hop:o.op=Op.makeSlice t l c)
    (e:TypeId) (i:TypeInfo) (z:Value) (size n:Nat) (h1:P.underlying t=some (.slice e)) (h2:P.info? e=some i) (h3:i.zero=some z) (h4:i.size=size) (kl kc:IntKind) (hl:a.eval l=.int kl n) (hc:a.eval c=.int kc n) (b2:i.bytes*n<=281474976710656) (b3:n<=maxLen)
    (hK:wpList P ops Q rest (a.put o.dst (.slice (some ⟨w.heap.size,0,none⟩) n n)) (w.alloc (.cells (madeCells z.cells (n*size)) e))):wpList P ops Q (o :: rest) a w:=by
  refine wpList_plain hg fun K hK'=>?_
  have h63:(n:Int)<=9223372036854775807:=by unfold maxLen at b3;omega
  have hb:(i.bytes:Int)*(n:Int)<=281474976710656:=by
    have h:((i.bytes*n:Nat):Int)<=281474976710656:=by omega
    rwa [Int.natCast_mul] at h
  have hr:=run_make (P:=P) w t e i z h1 h2 h3 kl kc n n (by omega) (Int.le_refl _) hb h63
  simp only [Int.toNat_natCast,h4] at hr
  unfold Oper.wp
  simp [execOp,hop,hl,hc,hr,Result.andThen]
  exact hK' _ _ hK
theorem row_new {Λ:Lab}{ρ:Role}{e:TypeId}{size n:Nat}{xs:List Value}(hl:xs.length=n*size)(h63:n<=maxLen):Row (w.alloc (.cells xs.toArray e)) (fun x=>if x=w.heap.size then ρ else Λ x) ρ e size (.slice (some ⟨w.heap.size,0,none⟩) n n) n xs:=by
  refine ⟨⟨hl,.inr ⟨_,n,xs.toArray,rfl,Nat.zero_le _,by rw [alloc_get,if_pos rfl],Nat.le_refl _,h63,by simp [hl],?_⟩⟩,fun b hb=>by cases hb;simp⟩
  rw [← hl]
  simp
end
end
end Go.Mem
