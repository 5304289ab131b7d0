/- Several texts in one: LoneRight, Model, Rep. -/
import Derived.Test.YtblcigmggdiccaaGreatDoorPart06
import Derived.WalkKit
import Derived.Deep.RegionWith
import Derived.Test.YtblcigmggdiccaaGreatDoorPart11
import Derived.Deep.RegionLaw
set_option linter.unusedSectionVars false
set_option linter.unusedSimpArgs false
set_option linter.unusedVariables false
set_option maxRecDepth 100000
namespace Go.Proofs.Shardlog
open Go Go.Conc Go.Tame Go.Proofs Go.RowKit
section
structure OpD where
  wr:Bool
  key:Int
  val:Int
def OpD.good (o:OpD):Prop:=97<=o.key/\o.key<=122/\(o.wr=true∨o.val=0)
def firstOk (o:Nat->OpD) (k:Nat):Prop:=∀ i,i<k->(o i).good/\∀ j,j<i->(o j).key≠(o i).key
def isTx (n:Nat) (o:Nat->OpD):Prop:=1<=n/\n<=6/\firstOk o n
structure RefOps (w:World) (b off n:Nat) (o:Nat->OpD):Prop where
  wr:∀ i,i<n->w.cell? ⟨b,off+i*3,none⟩=some (.bool (o i).wr)
  key:∀ i,i<n->w.cell? ⟨b,off+i*3+1,none⟩=some (.int .i64 (o i).key)
  val:∀ i,i<n->w.cell? ⟨b,off+i*3+2,none⟩=some (.int .i64 (o i).val)
structure Same (w w':World):Prop where
  heap:w'.heap=w.heap
  os:w'.os=w.os
theorem Same.refl (w:World):Same w w:=⟨rfl,rfl⟩
theorem Same.cell {w w':World}(h:Same w w')(a:Addr):w'.cell? a=w.cell? a:=by
  unfold World.cell?
  rw [h.heap]
theorem Same.drew {w w':World}(h:Same w w'):Same w w'.drew:=⟨h.heap,h.os⟩
section
variable {b off n cap:Nat}{o:Nat->OpD}{w:World}
set_option maxHeartbeats 2000000 in
theorem lone_right (h:RefOps w b off n o)(hn:n<=5864062014805):Calls Tryz.L 29 #[.slice (some ⟨b,off,none⟩) n cap] w fun e w'=>Same w w'/\((isTx n o/\e=.returned (.bool true))∨(¬ isTx n o/\e=.returned (.bool false))):=by
  go_enter LL.func29,Tryz.ntmps29
  go_wp2
  go_loopw [3] (fun i wr=>∃ k:Nat,k<=n/\i=.int .i64 k/\firstOk o k/\Same w wr) (fun i _=>n - (intOf i).toNat)
  case atStart=>exact ⟨0,by omega,rfl,fun i hi=>by omega,Same.refl w⟩
  case round=>
    obtain ⟨k,hk,rfl,hok,hs⟩:=hrel
    by_cases hlt:k<n
    · have h1:=(hs.cell _).trans (h.wr k hlt)
      have h2:=(hs.cell _).trans (h.key k hlt)
      have h3:=(hs.cell _).trans (h.val k hlt)
      have hcase:((o k).key<97∨122<(o k).key∨((o k).wr=false/\¬ (o k).val=0))∨(¬ (o k).key<97/\¬ 122<(o k).key/\((o k).wr=true∨((o k).wr=false/\(o k).val=0))):=by
        cases (o k).wr <;> simp <;> omega
      have bad:¬ (o k).good->¬ isTx n o:=fun hg hx=>hg (hx.2.2 k hlt).1
      rcases hcase with hb|⟨e1,e2,hb⟩
      · have hng:¬ isTx n o:=bad fun hg=>by
          obtain ⟨g1,g2,g3⟩:=hg
          rcases hb with h|h|⟨h,h'⟩
          · omega
          · omega
          · rcases g3 with g|g
            · rw [h] at g;cases g
            · exact h' g
        rcases hb with e1|e2|⟨hw,e3⟩
        · go_wp2
          go_ret
          first|exact ⟨hs,.inr ⟨hng,rfl⟩⟩|exact ⟨hs,rfl⟩
        · have e1:¬ (o k).key<97:=by omega
          go_wp2
          go_ret
          first|exact ⟨hs,.inr ⟨hng,rfl⟩⟩|exact ⟨hs,rfl⟩
        · by_cases e1:(o k).key<97
          · go_wp2
            go_ret
            first|exact ⟨hs,.inr ⟨hng,rfl⟩⟩|exact ⟨hs,rfl⟩
          · by_cases e2:122<(o k).key
            · go_wp2
              go_ret
              first|exact ⟨hs,.inr ⟨hng,rfl⟩⟩|exact ⟨hs,rfl⟩
            · rw [hw] at h1
              go_wp2
              go_ret
              first|exact ⟨hs,.inr ⟨hng,rfl⟩⟩|exact ⟨hs,rfl⟩
      · have hg:(o k).good:=⟨by omega,by omega,hb.imp id (·.2)⟩
        rcases hb with hw|⟨hw,e3⟩
        all_goals
          rw [hw] at h1
          go_wp2
          go_loopw [4] (fun j wr'=>∃ m:Nat,m<=k/\j=.int .i64 m/\(∀ i,i<m->(o i).key≠(o k).key)/\Same w wr') (fun j _=>k - (intOf j).toNat)
          case atStart=>exact ⟨0,by omega,rfl,fun i hi=>by omega,hs⟩
          case round=>
            clear h1 h2 h3
            obtain ⟨m,hm,rfl,hdis,hs'⟩:=hrel
            by_cases hmk:m<k
            · have k1:=(hs'.cell _).trans (h.key m (by omega))
              have k2:=(hs'.cell _).trans (h.key k hlt)
              by_cases he:(o m).key=(o k).key
              · go_wp2
                go_region
                all_goals go_wp2
                all_goals go_ret
                all_goals exact ⟨hs'.drew,.inr ⟨fun hx=>(hx.2.2 k hlt).2 m hmk he,rfl⟩⟩
              · go_wp2
                go_region
                all_goals go_wp2
                all_goals go_roundw
                all_goals first
                  | exact ⟨m+1,by omega,by go_num,fun i hi=>by
                      by_cases hi':i=m
                      · rw [hi'];exact he
                      · exact hdis i (by omega),hs'.drew⟩
                  | (simp [intOf];omega)
            · go_wp2
              go_roundw
              case rel=>exact ⟨k+1,by omega,by go_num,fun i hi=>by
                by_cases hik:i=k
                · subst hik
                  exact ⟨hg,fun j hj=>hdis j (by omega)⟩
                · exact hok i (by omega),hs'⟩
              case measure=>simp [intOf];omega
    · have hkn:k=n:=by omega
      subst hkn
      by_cases e1:1<=k
      · by_cases e6:k<=6
        · have hx:isTx k o:=⟨e1,e6,hok⟩
          go_wp2
          go_ret
          first|exact ⟨hs,.inl ⟨hx,rfl⟩⟩|exact ⟨hs,rfl⟩|exact ⟨hs,.inl ⟨hx,by simp;omega⟩⟩
        · have hx:¬ isTx k o:=fun hx=>e6 hx.2.1
          go_wp2
          go_ret
          first|exact ⟨hs,.inr ⟨hx,rfl⟩⟩|exact ⟨hs,rfl⟩|exact ⟨hs,.inr ⟨hx,by simp;omega⟩⟩
      · have hx:¬ isTx k o:=fun hx=>e1 hx.1
        go_wp2
        go_ret
        first|exact ⟨hs,.inr ⟨hx,rfl⟩⟩|exact ⟨hs,rfl⟩|exact ⟨hs,.inr ⟨hx,by simp;omega⟩⟩
theorem lone_right' (h:RefOps w b off n o)(hn:n<=5864062014805):Calls Tryz.L 29 #[.slice (some ⟨b,off,none⟩) n cap] w fun e w'=>∃ t:Bool,e=.returned (.bool t)/\(t=true ↔ isTx n o)/\Same w w':=by
  refine (lone_right h hn).mono fun e w' hr=>?_
  obtain ⟨hs,⟨hx,rfl⟩|⟨hx,rfl⟩⟩:=hr
  · exact ⟨true,rfl,by simp [hx],hs⟩
  · exact ⟨false,rfl,by simp [hx],hs⟩
theorem isTx_zero:¬ isTx 0 o:=fun h=>by have:=h.1;omega
theorem lone_right_nil (a:Option Addr)(c:Nat):Calls Tryz.L 29 #[.slice a 0 c] w fun e w'=>∃ t:Bool,e=.returned (.bool t)/\(t=true ↔ isTx 0 o)/\Same w w':=by
  go_enter LL.func29,Tryz.ntmps29
  go_wp2
  refine wp_loop_rounds 1 ?_
  rw [rounds_succ]
  go_wp2
  go_ret
  exact ⟨false,rfl,by simp [isTx_zero],Same.refl w⟩
end
end
end Go.Proofs.Shardlog
namespace Go.Proofs.Shardlog
section
structure Msg where
  kind:Nat
  frm:Int
  to:Int
  tx:Nat
  yes:Bool:=false
  ops:List OpD:=[]
  reads:List Int:=[]
structure Rcd where
  kind:Nat
  tx:Nat
  yes:Bool:=false
  home:Int:=0
  ops:List OpD:=[]
  reads:List Int:=[]
structure Vote where
  frm:Int
  reads:List Int
structure Und where
  tx:Nat
  ops:List OpD
  votes:List Vote:=[]
  dec:Bool:=false
  yes:Bool:=false
  acks:List Int:=[]
structure Tmr where
  due:Nat
  again:Bool
  tx:Nat
structure Shd where
  me:Nat
  n:Nat
  up:Bool:=true
  log:List Rcd:=[]
  good:Nat:=0
  vals:List Int:=List.replicate 26 0
  locks:List (Int × Nat):=[]
  under:List Und:=[]
  tmrs:List Tmr:=[]
  waits:List Msg:=[]
  clock:Nat:=0
structure Txn where
  ops:List OpD
  state:Nat:=1
  reads:List Int:=[]
structure Wld where
  shards:List Shd
  bag:List Msg:=[]
  txs:List Txn:=[]
  stopped:Bool:=false
def plc (key:Int) (n:Nat):Nat:=(key - 97).toNat % n
def nthOp (l:List OpD) (i:Nat):OpD:=l.getD i ⟨false,0,0⟩
def TxL (l:List OpD):Prop:=isTx l.length (nthOp l)
end
end Go.Proofs.Shardlog
namespace Go.Proofs.Shardlog
open Go Go.Conc Go.Tame Go.Proofs Go.RowKit Go.Mem
section
def clL (l:List OpD):List Value:=l.flatMap fun o=>[.bool o.wr,.int .u8 o.key,.int .i32 o.val]
def refL (l:List OpD):List Value:=l.flatMap fun o=>[.bool o.wr,.int .i64 o.key,.int .i64 o.val]
theorem len_clL (l:List OpD):(clL l).length=l.length*3:=by
  induction l with
  | nil=>rfl
  | cons o l ih=>
    show ([Value.bool o.wr,.int .u8 o.key,.int .i32 o.val]++clL l).length=_
    rw [List.length_append,ih]
    simp
    omega
theorem len_refL (l:List OpD):(refL l).length=l.length*3:=by
  induction l with
  | nil=>rfl
  | cons o l ih=>
    show ([Value.bool o.wr,.int .i64 o.key,.int .i64 o.val]++refL l).length=_
    rw [List.length_append,ih]
    simp
    omega
theorem one_clL (l:List OpD):∀ u ∈ clL l,u.oneCell'=true:=by
  intro u hu
  obtain ⟨o,_,h⟩:=List.mem_flatMap.1 hu
  simp at h
  rcases h with rfl|rfl|rfl <;> rfl
theorem one_refL (l:List OpD):∀ u ∈ refL l,u.oneCell'=true:=by
  intro u hu
  obtain ⟨o,_,h⟩:=List.mem_flatMap.1 hu
  simp at h
  rcases h with rfl|rfl|rfl <;> rfl
theorem clL_get (l:List OpD)(i:Nat)(o:OpD)(h:l[i]? = some o):(clL l)[i*3]? = some (.bool o.wr)/\(clL l)[i*3+1]? = some (.int .u8 o.key)/\(clL l)[i*3+2]? = some (.int .i32 o.val):=by
  induction l generalizing i with
  | nil=>simp at h
  | cons x l ih=>
    cases i with
    | zero=>
      simp at h
      subst h
      exact ⟨rfl,rfl,rfl⟩
    | succ i=>
      simp at h
      obtain ⟨h1,h2,h3⟩:=ih i h
      have e:∀ j,(clL (x :: l))[(i+1)*3+j]? = (clL l)[i*3+j]?:=fun j=>by
        show ([Value.bool x.wr,.int .u8 x.key,.int .i32 x.val]++clL l)[(i+1)*3+j]? = _
        rw [List.getElem?_append_right (by simp;omega)]
        congr 1
        simp
        omega
      exact ⟨(e 0).trans h1,(e 1).trans h2,(e 2).trans h3⟩
theorem refL_get (l:List OpD)(i:Nat)(o:OpD)(h:l[i]? = some o):(refL l)[i*3]? = some (.bool o.wr)/\(refL l)[i*3+1]? = some (.int .i64 o.key)/\(refL l)[i*3+2]? = some (.int .i64 o.val):=by
  induction l generalizing i with
  | nil=>simp at h
  | cons x l ih=>
    cases i with
    | zero=>
      simp at h
      subst h
      exact ⟨rfl,rfl,rfl⟩
    | succ i=>
      simp at h
      obtain ⟨h1,h2,h3⟩:=ih i h
      have e:∀ j,(refL (x :: l))[(i+1)*3+j]? = (refL l)[i*3+j]?:=fun j=>by
        show ([Value.bool x.wr,.int .i64 x.key,.int .i64 x.val]++refL l)[(i+1)*3+j]? = _
        rw [List.getElem?_append_right (by simp;omega)]
        congr 1
        simp
        omega
      exact ⟨(e 0).trans h1,(e 1).trans h2,(e 2).trans h3⟩
structure Slot (t e:TypeId) (size bytes:Nat):Prop where
  und:Tryz.L.underlying t=some (.slice e)
  info:(Tryz.L.info? e).map (fun i=>(i.size,i.bytes,i.zero.map (·.cells.size)))=some (size,bytes,some size)
  pos:0<size
theorem Slot.get {t e:TypeId}{size bytes:Nat}(h:Slot t e size bytes):∃ i z,Tryz.L.info? e=some i/\i.zero=some z/\i.size=size/\i.bytes=bytes/\z.cells.size=size:=by
  obtain ⟨i,hi,hb⟩:=Option.map_eq_some_iff.1 h.info
  simp only [Prod.mk.injEq] at hb
  obtain ⟨z,hz,hc⟩:=Option.map_eq_some_iff.1 hb.2.2
  exact ⟨i,z,hi,hz,hb.1,hb.2.1,hc⟩
theorem append_types {P:Program}{t t' ty e e':TypeId}(h:P.underlying t=some (.slice e))(h':P.underlying t'=some (.slice e'))(a b:Value)(w:World):(Builtin.append_ #[t,t'] ty #[a,b]).run P w=(Builtin.append_ #[t,t] ty #[a,b]).run P w:=by
  unfold Builtin.append_
  simp only [List.getElem?_toArray,List.getElem?_cons_zero,List.getElem?_cons_succ,Sem.run_bind,run_underlying h,run_underlying h',Result.andThen_ok]
  cases a <;> simp only [Sem.run_bind,run_underlying h,run_underlying h',Result.andThen_ok]
section
variable {w:World}{Λ:Lab}{ρ:Role}{t t' e e':TypeId}{size bytes n m c:Nat}{v:Value}{xs news:List Value}{p:Addr}
theorem run_append_row (sl:Slot t e size bytes)(ht':Tryz.L.underlying t'=some (.slice e'))(hr:Row w Λ ρ e size v n xs)(hl:news.length=m*size)(hn:∀ j u,news[j]? = some u->w.cell? (p.add j)=some u)(h1:∀ u ∈ news,u.oneCell'=true)(hm:n+m<=maxLen)(hb:(n+m)*bytes<=140737488355328)(ty:TypeId) :
    ∃ v' w' Λ',(Builtin.append_ #[t,t'] ty #[v,.slice (some p) m c]).run Tryz.L w=.ok v' w'/\Fr Λ Λ' (· = ρ) w w'/\Row w' Λ' ρ e size v' (n+m) (xs++news):=by
  obtain ⟨i,z,s1,s2,s3,s4,s5⟩:=sl.get
  obtain ⟨v',w',h1,h2,h3,_,h5⟩:=run_append_own_at (P:=Tryz.L) w 0 t ty e i z size bytes sl.und s1 s2 s3 s4 s5 sl.pos v n xs hr.own p m c news hl hn h1 hm hb (Nat.zero_le _)
  obtain ⟨Λ',h6,h7⟩:=hr.append h2 h3 h5
  exact ⟨v',w',Λ',(append_types sl.und ht' _ _ _).trans h1,h6,h7⟩
theorem exec_append {ρ:Operand->Value}{o:Oper}{x y:Operand}{ty:TypeId}{v:Value}(hop:o.op=.call { callee:=.builtin .append,args:=#[x,y],argTypes:=#[t,t'] })(hx:ρ x=v)(hy:ρ y=.slice (some p) m c) :
    execOp ρ o=(do pure (Next.value (← Builtin.append_ #[t,t'] o.type #[v,.slice (some p) m c])):Sem Next):=by
  unfold execOp
  rw [hop]
  show builtin .append #[t,t'] o.type (#[x,y].map fun | .const _=>true|_=>false) (#[x,y].map ρ)=_
  have:(#[x,y].map ρ)=#[v,.slice (some p) m c]:=by simp [hx,hy]
  rw [this]
  rfl
theorem append_draw {ops:Array Oper}{o:Oper}{a:Act}{K:Act->World->Prop}{Q:Exit->Act->World->Prop}(sl:Slot t e size bytes)(ht':Tryz.L.underlying t'=some (.slice e'))(x y:Operand)(hop:o.op=.call { callee:=.builtin .append,args:=#[x,y],argTypes:=#[t,t'] })(hg:o.guard=none)
    (hr:Row w Λ ρ e size v n xs) (hx:a.eval x=v) (hy:a.eval y=.slice (some p) m c) (hl:news.length=m*size) (hn:∀ j u,news[j]? = some u->w.cell? (p.add j)=some u) (h1:∀ u ∈ news,u.oneCell'=true) (hm:n+m<=maxLen) (hb:(n+m)*bytes<=140737488355328)
    (hK:∀ v' w' Λ',Fr Λ Λ' (· = ρ) w w'->Row w' Λ' ρ e size v' (n+m) (xs++news)->K (a.put o.dst v') w') :
    (if Region.wanted o (yielded ops a.tmps)=true then Oper.wp Tryz.L o a w K Q else K (a.put o.dst undef) w):=by
  rw [if_pos (by simp [Region.wanted,hg])]
  obtain ⟨v',w',Λ',h1,h2,h3⟩:=run_append_row (c:=c) sl ht' hr hl hn h1 hm hb o.type
  unfold Oper.wp
  rw [exec_append (ty:=o.type) hop hx hy,Sem.run_bind,h1]
  exact hK v' w' Λ' h2 h3
theorem append_list {ops:Array Oper}{rest:List Oper}{o:Oper}{a:Act}{Q:Exit->Act->World->Prop}(sl:Slot t e size bytes)(ht':Tryz.L.underlying t'=some (.slice e'))(x y:Operand)(hg:o.guard=none)(hop:o.op=.call { callee:=.builtin .append,args:=#[x,y],argTypes:=#[t,t'] })
    (hr:Row w Λ ρ e size v n xs) (hx:a.eval x=v) (hy:a.eval y=.slice (some p) m c) (hl:news.length=m*size) (hn:∀ j u,news[j]? = some u->w.cell? (p.add j)=some u) (h1:∀ u ∈ news,u.oneCell'=true) (hm:n+m<=maxLen) (hb:(n+m)*bytes<=140737488355328)
    (hK:∀ v' w' Λ',Fr Λ Λ' (· = ρ) w w'->Row w' Λ' ρ e size v' (n+m) (xs++news)->wpList Tryz.L ops Q rest (a.put o.dst v') w'):wpList Tryz.L ops Q (o :: rest) a w:=by
  refine wpList_plain hg fun K hK'=>?_
  obtain ⟨v',w',Λ',h1,h2,h3⟩:=run_append_row (c:=c) sl ht' hr hl hn h1 hm hb o.type
  unfold Oper.wp
  rw [exec_append (ty:=o.type) hop hx hy,Sem.run_bind,h1]
  exact hK' _ _ (hK v' w' Λ' h2 h3)
end
theorem call_draw {ops:Array Oper}{o:Oper}{a:Act}{w:World}{K:Act->World->Prop}{Q:Exit->Act->World->Prop}{f:FuncId}{xs:Array Operand}{ts:Array TypeId}{args:Array Value}{fn:Func}{R:Value->World->Prop}(hop:o.op=.call { callee:=.value (.func f),args:=xs,argTypes:=ts })(hg:o.guard=none)(ha:xs.map a.eval=args)
    (hf:Tryz.L.funcs[f]? = some fn) (hb:fn.body.isNone=false) (hn:(fn.name == "runtime.NumGoroutine")=false) (hc:Calls Tryz.L f args w fun e w'=>∃ y,e=.returned y/\R y w') (hK:∀ y w',R y w'->K (a.put o.dst y) w') :
    (if Region.wanted o (yielded ops a.tmps)=true then Oper.wp Tryz.L o a w K Q else K (a.put o.dst undef) w):=by
  rw [if_pos (by simp [Region.wanted,hg])]
  have hr:(execOp a.eval o).run Tryz.L w=.ok (.enter f args) w:=by
    have e:execOp a.eval o=callFunc f args:=by
      unfold execOp
      rw [hop]
      show (do let d ← Deferred.ofValue (.func (.func f) #[] #[]) (xs.map a.eval);invoke d.target d.args:Sem Next)=_
      rw [ha]
      show callFunc f (#[]++args ++ #[])=_
      simp
    rw [e]
    exact (callFunc_enter (args:=args) hf hb hn w).1
  unfold Oper.wp
  rw [hr]
  exact hc.mono fun e w' ⟨y,he,hR⟩=>by subst he;exact hK y w' hR
end
end Go.Proofs.Shardlog
