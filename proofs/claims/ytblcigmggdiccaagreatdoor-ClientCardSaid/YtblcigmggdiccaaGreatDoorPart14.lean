/- Several texts in one: LoneKept, LoneGiven, LoneA, LoneB. -/
import Derived.Test.YtblcigmggdiccaaGreatDoorPart13
import Derived.Test.YtblcigmggdiccaaGreatDoorPart11
import Derived.Deep.RegionLaw
import Derived.Test.YtblcigmggdiccaaGreatDoorPart12
set_option linter.unusedSectionVars false
set_option linter.unusedSimpArgs false
set_option linter.unusedVariables false
set_option maxRecDepth 100000
namespace Go.Proofs.Shardlog
open Go Go.Conc Go.Tame Go.Proofs Go.RowKit
section
def refRow (o:Nat->OpD):Nat->List Value
  | 0=>[]
  | k+1=>refRow o k ++ [.bool (o k).wr,.int .i64 (o k).key,.int .i64 (o k).val]
def clRow (o:Nat->OpD):Nat->List Value
  | 0=>[]
  | k+1=>clRow o k ++ [.bool (o k).wr,.int .u8 (o k).key,.int .i32 (o k).val]
def keptOp (x:OpD):OpD:=⟨x.wr,IntKind.u8.wrap x.key,IntKind.i32.wrap x.val⟩
section
variable {b off n cap:Nat}{o:Nat->OpD}{w:World}
theorem und27:Tryz.L.underlying 27=some (.slice 61):=by kernel_rfl
theorem und36:Tryz.L.underlying 36=some (.slice 65):=by kernel_rfl
theorem slot61:∃ i z,Tryz.L.info? 61=some i/\i.zero=some z/\i.size=3/\i.bytes=24/\z.cells.size=3:=by
  have h:(Tryz.L.info? 61).map (fun i=>(i.size,i.bytes,i.zero.map (·.cells.size)))=some (3,24,some 3):=by kernel_rfl
  obtain ⟨i,hi,hb⟩:=Option.map_eq_some_iff.1 h
  simp only [Prod.mk.injEq] at hb
  obtain ⟨z,hz,hc⟩:=Option.map_eq_some_iff.1 hb.2.2
  exact ⟨i,z,hi,hz,hb.1,hb.2.1,hc⟩
theorem slot65:∃ i z,Tryz.L.info? 65=some i/\i.zero=some z/\i.size=3/\i.bytes=8/\z.cells.size=3:=by
  have h:(Tryz.L.info? 65).map (fun i=>(i.size,i.bytes,i.zero.map (·.cells.size)))=some (3,8,some 3):=by kernel_rfl
  obtain ⟨i,hi,hb⟩:=Option.map_eq_some_iff.1 h
  simp only [Prod.mk.injEq] at hb
  obtain ⟨z,hz,hc⟩:=Option.map_eq_some_iff.1 hb.2.2
  exact ⟨i,z,hi,hz,hb.1,hb.2.1,hc⟩
theorem Grown.by {w v v':World}{row:Option Nat}(h:Grown w v)(g:v.grownBy v' row)(hr:∀ k,row=some k->w.heap.size<=k):Grown w v':=
  ⟨by have:=h.size;have:=g.size;omega,fun x hx=>(g.block x (by have:=h.size;omega) fun e=>by have:=hr x e.symm;omega).trans (h.heap x hx),g.os.trans h.os⟩
theorem made_cell (u:World)(c:Array Value)(t:TypeId)(j:Nat):(u.alloc (.cells c t)).cell? ((⟨u.heap.size,0,none⟩:Addr).add j)=c[j]?:=by
  have hadd:(⟨u.heap.size,0,none⟩:Addr).add j=⟨u.heap.size,j,none⟩:=by unfold Addr.add;split <;> simp_all
  rw [hadd]
  unfold World.cell?
  rw [alloc_get',if_pos rfl]
  rfl
theorem wrap_u8 (x:Int):IntKind.i64.wrap (IntKind.u8.wrap x)=IntKind.u8.wrap x:=by
  simp only [IntKind.wrap,IntKind.bits,IntKind.signed]
  simp
  omega
theorem wrap_i32 (x:Int):IntKind.i64.wrap (IntKind.i32.wrap x)=IntKind.i32.wrap x:=by
  simp only [IntKind.wrap,IntKind.bits,IntKind.signed]
  simp
  omega
set_option maxHeartbeats 4000000 in
theorem lone_kept (h:RefOps w b off n o)(hn:n<=5864062014805):Calls Tryz.L 17 #[.slice (some ⟨b,off,none⟩) n cap] w fun e w'=>∃ v,e=.returned v/\w'.ownsRow w.heap.size 61 3 v n (refRow (fun i=>keptOp (o i)) n)/\Grown w w':=by
  obtain ⟨i61,z61,t1,t2,t3,t4,t5⟩:=slot61
  go_enter LL.func17,Tryz.ntmps17
  go_wp2
  go_loopw [3,4] (fun v i wr=>∃ k:Nat,k<=n/\i=.int .i64 k/\wr.ownsRow w.heap.size 61 3 v k (refRow (fun i=>keptOp (o i)) k)/\Grown w wr) (fun _ i _=>n - (intOf i).toNat)
  case atStart=>exact ⟨0,by omega,rfl,World.ownsRow_nil _ _ _ _,Grown.refl w⟩
  case round=>
    obtain ⟨k,hk,rfl,hown,hs⟩:=hrel
    by_cases hlt:k<n
    · have h1:=hs.cell (h.wr k hlt)
      have h2:=hs.cell (h.key k hlt)
      have h3:=hs.cell (h.val k hlt)
      have e1:IntKind.i64.wrap (IntKind.u8.wrap (o k).key)=IntKind.u8.wrap (o k).key:=wrap_u8 _
      have e2:IntKind.i64.wrap (IntKind.i32.wrap (o k).val)=IntKind.i32.wrap (o k).val:=wrap_i32 _
      have hownD:(World.drew (wr.alloc (Obj.cells #[.bool (o k).wr,.int .i64 (IntKind.u8.wrap (o k).key),.int .i64 (IntKind.i32.wrap (o k).val)] 61))).ownsRow w.heap.size 61 3 u3 k (refRow (fun i=>keptOp (o i)) k):=hown.alloc _
      have hnews:∀ j u,[Value.bool (o k).wr,.int .i64 (IntKind.u8.wrap (o k).key),.int .i64 (IntKind.i32.wrap (o k).val)][j]? = some u->(World.drew (wr.alloc (Obj.cells #[.bool (o k).wr,.int .i64 (IntKind.u8.wrap (o k).key),.int .i64 (IntKind.i32.wrap (o k).val)] 61))).cell? ((⟨wr.heap.size,0,none⟩:Addr).add j)=some u:=fun j u hu=>(made_cell wr _ 61 j).trans (by simpa using hu)
      have hone:∀ u ∈ [Value.bool (o k).wr,.int .i64 (IntKind.u8.wrap (o k).key),.int .i64 (IntKind.i32.wrap (o k).val)],u.oneCell'=true:=by simp [Value.oneCell']
      have hmx:k+1<=maxLen:=by simp only [maxLen];omega
      have hby:(k+1)*24<=140737488355328:=by omega
      have hbs:w.heap.size<=(World.drew (wr.alloc (Obj.cells #[.bool (o k).wr,.int .i64 (IntKind.u8.wrap (o k).key),.int .i64 (IntKind.i32.wrap (o k).val)] 61))).heap.size:=by
        show _<=(wr.alloc _).heap.size
        rw [alloc_size]
        have:=hs.size
        omega
      have hfin:∀ w' row,(World.drew (wr.alloc (Obj.cells #[.bool (o k).wr,.int .i64 (IntKind.u8.wrap (o k).key),.int .i64 (IntKind.i32.wrap (o k).val)] 61))).grownBy w' row->row=u3.ownBlock->Grown w w':=fun w' row hg e=>(hs.alloc' _).drew.by hg fun x hx=>(hown.lt x (by rw [← e,hx])).1
      go_wp2_with fail
      go_region_law (refine append_step w.heap.size 27 61 i61 z61 3 24 und27 t1 t2 t3 t4 t5 (by omega) (.tmp 11) (.tmp 32) rfl rfl u3 k _ (by rfl) hownD ⟨wr.heap.size,0,none⟩ 1 1 (by rfl) _ rfl hnews hone hmx hby hbs (fun v' w' hrow hgr=>?_))
      all_goals go_wp2
      all_goals go_roundw
      all_goals first
        | exact ⟨k+1,by omega,by go_num,hrow,hfin _ _ hgr rfl⟩
        | (simp [intOf];omega)
    · have hkn:k=n:=by omega
      subst hkn
      go_wp2
      go_ret
      exact ⟨_,rfl,hown,hs⟩
end
end
section
section
variable {b off n cap:Nat}{o:Nat->OpD}{w:World}
set_option maxHeartbeats 4000000 in
theorem lone_given (h:RefOps w b off n o)(hn:n<=5864062014805):Calls Tryz.L 19 #[.slice (some ⟨b,off,none⟩) n cap] w fun e w'=>∃ v,e=.returned v/\w'.ownsRow w.heap.size 65 3 v n (clRow (fun i=>keptOp (o i)) n)/\Grown w w':=by
  obtain ⟨i65,z65,t1,t2,t3,t4,t5⟩:=slot65
  go_enter LL.func19,Tryz.ntmps19
  go_wp2
  go_loopw [3,4] (fun v i wr=>∃ k:Nat,k<=n/\i=.int .i64 k/\wr.ownsRow w.heap.size 65 3 v k (clRow (fun i=>keptOp (o i)) k)/\Grown w wr) (fun _ i _=>n - (intOf i).toNat)
  case atStart=>exact ⟨0,by omega,rfl,World.ownsRow_nil _ _ _ _,Grown.refl w⟩
  case round=>
    obtain ⟨k,hk,rfl,hown,hs⟩:=hrel
    by_cases hlt:k<n
    · have h1:=hs.cell (h.wr k hlt)
      have h2:=hs.cell (h.key k hlt)
      have h3:=hs.cell (h.val k hlt)
      have hownD:(World.drew (wr.alloc (Obj.cells #[.bool (o k).wr,.int .u8 (IntKind.u8.wrap (o k).key),.int .i32 (IntKind.i32.wrap (o k).val)] 65))).ownsRow w.heap.size 65 3 u3 k (clRow (fun i=>keptOp (o i)) k):=hown.alloc _
      have hnews:∀ j u,[Value.bool (o k).wr,.int .u8 (IntKind.u8.wrap (o k).key),.int .i32 (IntKind.i32.wrap (o k).val)][j]? = some u->(World.drew (wr.alloc (Obj.cells #[.bool (o k).wr,.int .u8 (IntKind.u8.wrap (o k).key),.int .i32 (IntKind.i32.wrap (o k).val)] 65))).cell? ((⟨wr.heap.size,0,none⟩:Addr).add j)=some u:=fun j u hu=>(made_cell wr _ 65 j).trans (by simpa using hu)
      have hone:∀ u ∈ [Value.bool (o k).wr,.int .u8 (IntKind.u8.wrap (o k).key),.int .i32 (IntKind.i32.wrap (o k).val)],u.oneCell'=true:=by simp [Value.oneCell']
      have hmx:k+1<=maxLen:=by simp only [maxLen];omega
      have hby:(k+1)*8<=140737488355328:=by omega
      have hbs:w.heap.size<=(World.drew (wr.alloc (Obj.cells #[.bool (o k).wr,.int .u8 (IntKind.u8.wrap (o k).key),.int .i32 (IntKind.i32.wrap (o k).val)] 65))).heap.size:=by
        show _<=(wr.alloc _).heap.size
        rw [alloc_size]
        have:=hs.size
        omega
      have hfin:∀ w' row,(World.drew (wr.alloc (Obj.cells #[.bool (o k).wr,.int .u8 (IntKind.u8.wrap (o k).key),.int .i32 (IntKind.i32.wrap (o k).val)] 65))).grownBy w' row->row=u3.ownBlock->Grown w w':=fun w' row hg e=>(hs.alloc' _).drew.by hg fun x hx=>(hown.lt x (by rw [← e,hx])).1
      go_wp2_with fail
      go_region_law (refine append_step w.heap.size 36 65 i65 z65 3 8 und36 t1 t2 t3 t4 t5 (by omega) (.tmp 11) (.tmp 30) rfl rfl u3 k _ (by rfl) hownD ⟨wr.heap.size,0,none⟩ 1 1 (by rfl) _ rfl hnews hone hmx hby hbs (fun v' w' hrow hgr=>?_))
      all_goals go_wp2
      all_goals go_roundw
      all_goals first
        | exact ⟨k+1,by omega,by go_num,hrow,hfin _ _ hgr rfl⟩
        | (simp [intOf];omega)
    · have hkn:k=n:=by omega
      subst hkn
      go_wp2
      go_ret
      exact ⟨_,rfl,hown,hs⟩
theorem lone_kept_nil (a:Option Addr)(c:Nat):Calls Tryz.L 17 #[.slice a 0 c] w fun e w'=>e=.returned (.slice none 0 0)/\Same w w':=by
  go_enter LL.func17,Tryz.ntmps17
  go_wp2
  refine wp_loop_rounds 1 ?_
  rw [rounds_succ]
  go_wp2
  go_ret
  exact ⟨rfl,Same.refl w⟩
theorem lone_given_nil (a:Option Addr)(c:Nat):Calls Tryz.L 19 #[.slice a 0 c] w fun e w'=>e=.returned (.slice none 0 0)/\Same w w':=by
  go_enter LL.func19,Tryz.ntmps19
  go_wp2
  refine wp_loop_rounds 1 ?_
  rw [rounds_succ]
  go_wp2
  go_ret
  exact ⟨rfl,Same.refl w⟩
theorem len_refRow (o:Nat->OpD):∀ n,(refRow o n).length=n*3
  | 0=>rfl
  | n+1=>by rw [refRow,List.length_append,len_refRow o n];simp;omega
theorem refRow_get (o:Nat->OpD):∀ n i,i<n->(refRow o n)[i*3]? = some (.bool (o i).wr)/\(refRow o n)[i*3+1]? = some (.int .i64 (o i).key)/\(refRow o n)[i*3+2]? = some (.int .i64 (o i).val)
  | 0,i,h=>by omega
  | n+1,i,h=>by
    rw [refRow]
    rcases Nat.lt_or_ge i n with h'|h'
    · have:=refRow_get o n i h'
      rw [List.getElem?_append_left (by rw [len_refRow];omega),List.getElem?_append_left (by rw [len_refRow];omega),List.getElem?_append_left (by rw [len_refRow];omega)]
      exact this
    · obtain rfl:i=n:=by omega
      rw [List.getElem?_append_right (by rw [len_refRow];omega),List.getElem?_append_right (by rw [len_refRow];omega),List.getElem?_append_right (by rw [len_refRow];omega),len_refRow,show i*3 - i*3=0 by omega,show i*3+1 - i*3=1 by omega,show i*3+2 - i*3=2 by omega]
      exact ⟨rfl,rfl,rfl⟩
theorem own_cell {base:Nat}{e:TypeId}{size:Nat}{v:Value}{xs:List Value}(h:w.ownsRow base e size v n xs){g:Nat}(hg:v.ownBlock=some g){j:Nat}{u:Value}(hu:xs[j]? = some u):w.cell? ⟨g,0+j,none⟩=some u:=by
  have:=h.cells hg j u hu
  have hadd:(⟨g,0,none⟩:Addr).add j=⟨g,0+j,none⟩:=by unfold Addr.add;split <;> simp_all
  rw [hadd] at this
  exact this
theorem refs_of {base:Nat}{v:Value}(h:w.ownsRow base 61 3 v n (refRow o n))(hn:0<n):∃ g cap,v=.slice (some ⟨g,0,none⟩) n cap/\n<=cap/\base<=g/\g<w.heap.size/\RefOps w g 0 n o:=by
  rcases h.2 with ⟨_,h0⟩|⟨g,cap,cur,rfl,h2,h3,h4,_⟩
  · omega
  · refine ⟨g,cap,rfl,h4,h2,(Array.getElem?_eq_some_iff.1 h3).1,⟨fun i hi=>own_cell h rfl (refRow_get o n i hi).1,fun i hi=>?_,fun i hi=>?_⟩⟩
    · have:=own_cell h rfl (refRow_get o n i hi).2.1
      rw [← Nat.add_assoc] at this
      exact this
    · have:=own_cell h rfl (refRow_get o n i hi).2.2
      rw [← Nat.add_assoc] at this
      exact this
theorem kept_twice (x:OpD):keptOp (keptOp x)=keptOp x:=by
  unfold keptOp
  congr 1
  · simp only [IntKind.wrap,IntKind.bits,IntKind.signed]
    simp
  · simp only [IntKind.wrap,IntKind.bits,IntKind.signed]
    simp
    omega
end
end
end Go.Proofs.Shardlog
namespace Go.Proofs.Shardlog
open Go Go.Conc Go.Tame Go.Proofs Go.RowKit Go.Mem
section
theorem slotOp:Slot 36 65 3 8:=⟨by kernel_rfl,by kernel_rfl,by decide⟩
theorem slotTx:Slot 82 168 3 56:=⟨by kernel_rfl,by kernel_rfl,by decide⟩
theorem slotMsg:Slot 84 217 1 16:=⟨by kernel_rfl,by kernel_rfl,by decide⟩
theorem zeroOp:∃ i,Tryz.L.info? 65=some i/\i.zero=some (.agg #[.bool false,.int .u8 0,.int .i32 0])/\i.size=3/\i.bytes=8:=by
  have h:(Tryz.L.info? 65).map (fun i=>(i.zero,i.size,i.bytes))=some (some (.agg #[.bool false,.int .u8 0,.int .i32 0]),3,8):=by kernel_rfl
  obtain ⟨i,hi,hb⟩:=Option.map_eq_some_iff.1 h
  simp only [Prod.mk.injEq] at hb
  exact ⟨i,hi,hb⟩
theorem hid' {p:Prop}(h:p):Hid p:=h
section
variable {w:World}{Λ:Lab}{ρ:Role}
theorem lone_txsFull (o:Option Addr)(n c:Nat):Calls Tryz.L 45 #[.slice o n c] w fun e w'=>e=.returned (.bool (decide (60<=n)))/\w'=w:=by
  go_enter LL.func45,Tryz.ntmps45
  go_wp2
  go_ret
  simp
  omega
theorem lone_bagFull (o:Option Addr)(n c:Nat):Calls Tryz.L 46 #[.slice o n c] w fun e w'=>e=.returned (.bool (decide (400<=n)))/\w'=w:=by
  go_enter LL.func46,Tryz.ntmps46
  go_wp2
  go_ret
  simp
  omega
theorem lone_place (k:Int)(n:Nat)(hk:97<=k/\k<=122)(hn:1<=n)(hn4:n<=4):Calls Tryz.L 83 #[.int .u8 k,.int .i64 n] w fun e w'=>e=.returned (.int .i64 ((plc k n:Nat):Int))/\w'=w:=by
  obtain ⟨h1,h2⟩:=hk
  have e:(k - 97) % (n:Int)=((plc k n:Nat):Int):=by
    unfold plc
    rw [Int.natCast_emod,Int.toNat_of_nonneg (by omega)]
  go_enter LL.func83,Tryz.ntmps83
  go_wp2
  go_ret
  simpa using e
set_option maxHeartbeats 1000000 in
theorem lone_freshOps {g n cap:Nat}{l:List OpD}(hr:Row w Λ ρ 65 3 (.slice (some ⟨g,0,none⟩) n cap) n (clL l))(h0:0<n)(hn:n<=5864062014805) :
    Calls Tryz.L 82 #[.slice (some ⟨g,0,none⟩) n cap] w fun e w'=>∃ y,e=.returned y/\(∃ g',y=.slice (some ⟨g',0,none⟩) n n)/\∃ Λ',Fr Λ Λ' (fun _=>False) w w'/\Row w' Λ' still 65 3 y n (clL l):=by
  obtain ⟨i,s1,s2,s3,s4⟩:=zeroOp
  have s0:=slotOp.und
  have hi:(Tryz.L.info? 65).map (·.size)=some 3:=by rw [s1];simp [s3]
  have hb0:((n:Int) == 0)=false:=by simp;omega
  have hb1:i.bytes*n<=281474976710656:=by rw [s4];omega
  have hb2:n<=maxLen:=by unfold maxLen;omega
  have hlen:=hr.len
  have hms:(madeCells #[.bool false,.int .u8 0,.int .i32 0] (n*3)).size=n*3:=size_madeCells _ _
  have hold:∀ j v,(clL l)[j]? = some v->(w.alloc (.cells (madeCells #[.bool false,.int .u8 0,.int .i32 0] (n*3)) 65)).cell? ((⟨g,0,none⟩:Addr).add j)=some v:=fun j v hv=>by
    have h1:=hr.own.cells rfl j v hv
    have hg:g<w.heap.size:=own_lt hr.own rfl
    have e:((⟨g,0,none⟩:Addr).add j).block=g:=by unfold Addr.add;split <;> rfl
    rw [← h1]
    unfold World.cell?
    rw [Mem.alloc_get,e,if_neg (by omega)]
  have hfin:Row (w.alloc (.cells (clL l).toArray 65)) (fun x=>if x=w.heap.size then still else Λ x) still 65 3 (.slice (some ⟨w.heap.size,0,none⟩) n n) n (clL l):=row_new hlen hb2
  have hfr:Fr Λ (fun x=>if x=w.heap.size then still else Λ x) (fun _=>False) w (w.alloc (.cells (clL l).toArray 65)):=(Fr.alloc' _ _).relab fun x hx=>by rw [if_neg (by omega)]
  have H:=hid' hfin
  have H2:=hid' hfr
  have hcp:=run_copy_rows (P:=Tryz.L) (w:=w) (dT:=36) (sT:=36) (ty:=3) (c:=n) (c':=cap) s0 hi hlen hms hold (one_clL l)
  clear hr hfin hfr hold
  go_enter LL.func82,Tryz.ntmps82
  go_wp2_with (first
    | (at_make;refine wpList_make_rows rfl _ _ 36 rfl 65 i _ 3 n s0 s1 s2 s3 .i64 .i64 (by simp [Act.eval,Act.put]) (by simp [Act.eval,Act.put]) hb1 hb2 ?_))
  go_ret
  exact ⟨_,rfl,⟨_,rfl⟩,_,H2.out,H.out⟩
end
end
section
theorem und83:Tryz.L.underlying 83=some (.slice 217):=by kernel_rfl
section
variable {w:World}{Λ:Lab}{ρ ρc ρs:Role}{c nb m cap:Nat}{x:Array Value}{f:Nat × Nat}{bg:Value}{bs news:List Value}{p:Addr}
structure Wrote (w w':World) (Λ Λ':Lab) (ρc ρ:Role) (c i:Nat) (x:Array Value) (f:Nat × Nat) (e:TypeId) (size:Nat) (v':Value) (n:Nat) (xs:List Value):Prop where
  fr:Fr Λ Λ' (fun r=>r=ρc∨r=ρ) w w'
  blk:At w' Λ' ρc c (.cells (x.setIfInBounds i v') 94 f)
  row:Row w' Λ' ρ e size v' n xs
theorem wrote {w1:World}{Λ1:Lab}{i:Nat}{e:TypeId}{size n:Nat}{v':Value}{xs:List Value}(hne:ρc≠ρ)(hc:At w Λ ρc c (.cells x 94 f))(h1:Fr Λ Λ1 (· = ρ) w w1)(h2:Row w1 Λ1 ρ e size v' n xs):Wrote w (w1.setCell ⟨c,i,none⟩ v') Λ Λ1 ρc ρ c i x f e size v' n xs:=by
  have hc1:=hc.fr h1 hne
  exact ⟨(h1.mono fun r hr=>.inr hr).set (.inl hc1.lab),hc1.set i v',h2.fr (Fr.set' (M:=fun r=>r=ρc) hc1.lab) (Ne.symm hne)⟩
theorem park {p:Prop}(h:Hid p):p:=h
set_option maxHeartbeats 1000000 in
theorem lone_put {i:Nat}(hne:ρc≠ρ)(hc:At w Λ ρc c (.cells x 94 f))(hx:x[i]? = some bg)(hf:¬ (f.1<=i/\i<f.2))(hb:Row w Λ ρ 217 1 bg nb bs)(hl:news.length=m)(hn:∀ j u,news[j]? = some u->w.cell? (p.add j)=some u)(h1:∀ u ∈ news,u.oneCell'=true)(hm:nb+m<=5864062014805) :
    Calls Tryz.L 48 #[.pointer (some ⟨c,i,none⟩),.slice (some p) m cap] w fun e w'=>∃ y,e=.returned y/\(y=.tuple #[])/\∃ bg' Λ',Wrote w w' Λ Λ' ρc ρ c i x f 217 1 bg' (nb+m) (bs++news):=by
  have hcell:=hc.cell hx
  obtain ⟨o,cp,rfl⟩:=hb.slice
  have hlen:news.length=m*1:=by omega
  have hmx:nb+m<=maxLen:=by unfold maxLen;omega
  have hby:(nb+m)*16<=140737488355328:=by omega
  have HB:=hid' hb
  have HN:=hid' hn
  have HC:=hid' hc
  have HF:∀ w1 Λ1,Fr Λ Λ1 (· = ρ) w w1->w1.cell? ⟨c,i,none⟩=some (.slice o nb cp)/\w1.frozen? ⟨c,i,none⟩=false:=fun w1 Λ1 h=>⟨(hc.fr h hne).cell hx,(hc.fr h hne).thaw hf⟩
  have HF':=hid' HF
  clear hb hn hc HF
  go_enter LL.func48,Tryz.ntmps48
  go_wp2_with (at_builtin;refine park ?_)
  refine append_list slotMsg und83 _ _ rfl rfl HB.out rfl rfl hlen HN.out h1 hmx hby (fun v' w1 Λ1 hfr hrow=>?_)
  obtain ⟨k1,k2⟩:=HF'.out w1 Λ1 hfr
  obtain ⟨o',c',rfl⟩:=hrow.slice
  have HFR:=hid' hfr
  have HROW:=hid' hrow
  clear hfr hrow hcell
  go_wp2
  exact ⟨rfl,.tuple #[],results_none rfl _ _ _,_,rfl,rfl,_,Λ1,wrote hne HC.out HFR.out HROW.out⟩
def clBegin (to t:Int) (opv:Value):Value:=.agg #[.int .i64 (-1),.int .i64 to,.int .i64 t,opv]
set_option maxHeartbeats 1000000 in
theorem lone_beginOf {gt ct nt t g n cp N:Nat}{ts:List Value}{l:List OpD}{o:OpD}{ρo:Role}(ht:Row w Λ ρ 168 3 (.slice (some ⟨gt,0,none⟩) nt ct) nt ts)(hlt:t<nt)(hop:ts[t*3]? = some (.slice (some ⟨g,0,none⟩) n cp))(ho:Row w Λ ρo 65 3 (.slice (some ⟨g,0,none⟩) n cp) n (clL l))(h0:l[0]? = some o)
    (hk:97<=o.key/\o.key<=122) (hN:1<=N) (hN4:N<=4) (hnt:nt<=1048576) (hn:n<=5864062014805) :
    Calls Tryz.L 49 #[.slice (some ⟨gt,0,none⟩) nt ct,.int .i64 t,.int .i64 N] w fun e w'=>∃ y,e=.returned y/\y=clBegin (plc o.key N:Nat) t (.slice (some ⟨g,0,none⟩) n cp)/\Fr Λ Λ (fun _=>False) w w':=by
  have hn0:0<n:=by
    have:=ho.len
    rw [len_clL] at this
    have:=(List.getElem?_eq_some_iff.1 h0).1
    omega
  have c1:w.cell? ⟨gt,t*3,none⟩=some (.slice (some ⟨g,0,none⟩) n cp):=ht.cell rfl hop
  have c2:w.cell? ⟨g,1,none⟩=some (.int .u8 o.key):=by
    have:=ho.cell (j:=1) rfl (by have:=(clL_get l 0 o h0).2.1;simpa using this)
    exact this
  have b1:gt<w.heap.size:=own_lt ht.own rfl
  have b2:g<w.heap.size:=own_lt ho.own rfl
  clear ht ho hop
  go_enter LL.func49,Tryz.ntmps49
  go_wp2_with (go_at_call 83;refine (lone_place o.key N hk hN hN4).mono ?_;rintro e w1 ⟨rfl,rfl⟩)
  refine bodyPost_ret (v:=clBegin (plc o.key N:Nat) t (.slice (some ⟨g,0,none⟩) n cp)) ?_ rfl ⟨_,rfl,rfl,Fr.alloc' _ _⟩
  simp [results,Tryz.results49,go_sem,clBegin]
end
end
end Go.Proofs.Shardlog
