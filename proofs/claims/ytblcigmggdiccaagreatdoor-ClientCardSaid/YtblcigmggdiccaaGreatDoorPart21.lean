/- Several texts in one: DocF, DocH, DocY, MapC, MapE, MapD, MapF, MapG, DocNew, DocB, DocC, DocD, DocE, DocG. -/
import Derived.Test.YtblcigmggdiccaaGreatDoorPart20
import Derived.Test.YtblcigmggdiccaaGreatDoorPart17
import Derived.Test.YtblcigmggdiccaaGreatDoorPart18
set_option linter.unusedSectionVars false
set_option linter.unusedSimpArgs false
set_option linter.unusedVariables false
set_option maxRecDepth 100000
namespace Go.Proofs.Shardlog
open Go Go.Conc Go.Tame Go.Proofs Go.RowKit Go.Mem
section
section
variable {w:World}{Λ:Lab}{ρo:Role}{k m N nb nt n:Nat}{sh bag txs v:Value}{stop:Bool}{rs rb rt:List Value}{l:List OpD}
theorem refOps_of {g cap:Nat}(h:Row w Λ ρo 61 3 (.slice (some ⟨g,0,none⟩) n cap) n (refL l)):RefOps w g 0 n (nthOp l):=by
  have hn:l.length=n:=by have:=h.len;rw [len_refL] at this;omega
  refine ⟨fun i hi=>?_,fun i hi=>?_,fun i hi=>?_⟩
  · have:=h.cell rfl (refL_get l i _ (nthOp_get l i (by omega))).1
    rw [Nat.zero_add]
    exact this
  · have:=h.cell rfl (refL_get l i _ (nthOp_get l i (by omega))).2.1
    rw [Nat.zero_add]
    exact this
  · have:=h.cell rfl (refL_get l i _ (nthOp_get l i (by omega))).2.2
    rw [Nat.zero_add]
    exact this
theorem refRow_len (h:Row w Λ ρo 61 3 v n (refL l)):l.length=n:=by have:=h.len;rw [len_refL] at this;omega
theorem doc_right_yes (h:Row w Λ ρo 61 3 v n (refL l))(hn:n<=5864062014805)(ht:TxL l):Calls Tryz.L 29 #[v] w fun e w'=>e=.returned (.bool true)/\Same w w':=by
  have e:=refRow_len h
  have ht':isTx n (nthOp l):=by rw [← e];exact ht
  obtain ⟨g,cap,rfl,_⟩:=h.some ht'.1
  exact right_yes (refOps_of h) hn ht'
theorem doc_right_no (h:Row w Λ ρo 61 3 v n (refL l))(hn:n<=5864062014805)(ht:¬ TxL l):Calls Tryz.L 29 #[v] w fun e w'=>e=.returned (.bool false)/\Same w w':=by
  have e:=refRow_len h
  have ht':¬ isTx n (nthOp l):=by rw [← e];exact ht
  rcases Nat.eq_zero_or_pos n with rfl|h0
  · obtain ⟨a,c,rfl⟩:=h.slice
    refine (lone_right_nil (o:=fun _=>⟨false,0,0⟩) (w:=w) a c).mono fun e w' k=>?_
    obtain ⟨t,rfl,ht,hs⟩:=k
    cases t with
    | true=>exact absurd (ht.1 rfl) isTx_zero
    | false=>exact ⟨rfl,hs⟩
  · obtain ⟨g,cap,rfl,_⟩:=h.some h0
    exact right_no (refOps_of h) hn ht'
theorem doc_sub_stop (hD:Doc w Λ k m N nb nt sh bag txs true rs rb rt):Calls Tryz.L 20 #[.pointer (some ⟨m,0,none⟩),v] w fun e w'=>e=.returned (.tuple #[.int .i64 0,.int .i64 9])/\Fr Λ Λ (fun _=>False) w w':=by
  have c3:w.cell? ⟨m,3,none⟩=some (.bool true):=hD.blk.cell rfl
  clear hD
  go_enter LL.func20,Tryz.ntmps20
  go_wp2
  go_ret2
  exact ⟨rfl,Fr.same rfl rfl⟩
theorem doc_sub_ops (hD:Doc w Λ k m N nb nt sh bag txs false rs rb rt)(hv:Row w Λ ρo 61 3 v n (refL l))(hn:n<=5864062014805)(ht:¬ TxL l):Calls Tryz.L 20 #[.pointer (some ⟨m,0,none⟩),v] w fun e w'=>e=.returned (.tuple #[.int .i64 0,.int .i64 2])/\Fr Λ Λ (fun _=>False) w w':=by
  have c3:w.cell? ⟨m,3,none⟩=some (.bool false):=hD.blk.cell rfl
  have hR:=hid' (doc_right_no hv hn ht)
  obtain ⟨o,c,rfl⟩:=hv.slice
  clear hD hv
  go_enter LL.func20,Tryz.ntmps20
  go_wp2_with fail
  refine hR.out.mono ?_
  rintro e w1 ⟨rfl,hs⟩
  have hs':=hid' hs
  clear hs hR
  go_wp2_with fail
  go_ret2
  exact ⟨rfl,Fr.same hs'.out.heap hs'.out.os⟩
theorem doc_sub_many (hD:Doc w Λ k m N nb nt sh bag txs false rs rb rt)(hv:Row w Λ ρo 61 3 v n (refL l))(hn:n<=5864062014805)(ht:TxL l)(hnt:nt<=60)(hmany:60<=nt∨400<=nb):Calls Tryz.L 20 #[.pointer (some ⟨m,0,none⟩),v] w fun e w'=>e=.returned (.tuple #[.int .i64 0,.int .i64 3])/\Fr Λ Λ (fun _=>False) w w':=by
  have c3:w.cell? ⟨m,3,none⟩=some (.bool false):=hD.blk.cell rfl
  have hR:=hid' (doc_right_yes hv hn ht)
  obtain ⟨o,c,rfl⟩:=hv.slice
  obtain ⟨ob,cb,rfl⟩:=hD.bag.slice
  obtain ⟨ox,cx,rfl⟩:=hD.txs.slice
  have k1:w.cell? ⟨m,1,none⟩=some (.slice ob nb cb):=hD.blk.cell rfl
  have k2:w.cell? ⟨m,2,none⟩=some (.slice ox nt cx):=hD.blk.cell rfl
  clear hD hv
  by_cases h60:nt=60
  · subst h60
    go_enter LL.func20,Tryz.ntmps20
    go_wp2_with fail
    refine hR.out.mono ?_
    rintro e w1 ⟨rfl,hs⟩
    have q1:w1.cell? ⟨m,1,none⟩=some (.slice ob nb cb):=by rw [hs.cell];exact k1
    have q2:w1.cell? ⟨m,2,none⟩=some (.slice ox 60 cx):=by rw [hs.cell];exact k2
    have hs':=hid' hs
    clear hs hR
    go_wp2_with fail
    go_ret2
    exact ⟨rfl,Fr.same hs'.out.heap hs'.out.os⟩
  · have b60:((nt:Int) == 60)=false:=by simp;omega
    have b400:decide (400<=(nb:Int))=true:=by simp;omega
    clear hmany
    go_enter LL.func20,Tryz.ntmps20
    go_wp2_with fail
    refine hR.out.mono ?_
    rintro e w1 ⟨rfl,hs⟩
    have q1:w1.cell? ⟨m,1,none⟩=some (.slice ob nb cb):=by rw [hs.cell];exact k1
    have q2:w1.cell? ⟨m,2,none⟩=some (.slice ox nt cx):=by rw [hs.cell];exact k2
    have hs':=hid' hs
    clear hs hR
    go_wp2_with fail
    go_ret2
    exact ⟨rfl,Fr.same hs'.out.heap hs'.out.os⟩
end
end
section
section
variable {w:World}{Λ:Lab}{ρ:Role}{k m N nb nt n:Nat}{a:Int}{sh bag txs v:Value}{stop:Bool}{rs rb rt:List Value}
theorem doc_result_no (hD:Doc w Λ k m N nb nt sh bag txs stop rs rb rt)(ha:¬ (0<=a/\a<nt)):Calls Tryz.L 153 #[.pointer (some ⟨m,0,none⟩),.int .i64 a] w fun e w'=>e=.returned (.tuple #[.int .i64 0,.slice none 0 0])/\Fr Λ Λ (fun _=>False) w w':=by
  obtain ⟨ob,cb,rfl⟩:=hD.txs.slice
  have c1:w.cell? ⟨m,2,none⟩=some (.slice ob nt cb):=hD.blk.cell rfl
  clear hD
  by_cases h1:a<0
  · go_enter LL.func153,Tryz.ntmps153
    go_wp2
    go_ret2
    exact ⟨rfl,Fr.same rfl rfl⟩
  · have h2:(nt:Int)<=a:=by omega
    clear ha
    go_enter LL.func153,Tryz.ntmps153
    go_wp2
    go_ret2
    exact ⟨rfl,Fr.same rfl rfl⟩
theorem doc_result_yes {i:Nat}{st:Int}{reads:Value}(hD:Doc w Λ k m N nb nt sh bag txs stop rs rb rt)(hi:i<nt)(h1:rt[i*3+1]? = some (.int .i64 st))(h2:rt[i*3+2]? = some reads)(hn:nt<=1048576):Calls Tryz.L 153 #[.pointer (some ⟨m,0,none⟩),.int .i64 i] w fun e w'=>e=.returned (.tuple #[.int .i64 st,reads])/\Fr Λ Λ (fun _=>False) w w':=by
  obtain ⟨gt,ct,rfl,_⟩:=hD.txs.some (by omega)
  have c1:w.cell? ⟨m,2,none⟩=some (.slice (some ⟨gt,0,none⟩) nt ct):=hD.blk.cell rfl
  have d1:=hD.txs.cell rfl h1
  have d2:=hD.txs.cell rfl h2
  have b1:¬ (i:Int)<0:=by omega
  have b2:¬ (nt:Int)<=i:=by omega
  clear hD
  go_enter LL.func153,Tryz.ntmps153
  go_wp2_with fail
  go_quiet (fail)
  go_wp2
  go_ret2
  exact ⟨rfl,Fr.same rfl rfl⟩
theorem doc_at_no (hD:Doc w Λ k m N nb nt sh bag txs stop rs rb rt)(ha:¬ (0<=a/\a<N)):Calls Tryz.L 110 #[.pointer (some ⟨m,0,none⟩),.int .i64 a] w fun e w'=>e=.returned (.pointer none)/\Fr Λ Λ (fun _=>False) w w':=by
  obtain ⟨ob,cb,rfl⟩:=hD.shards.slice
  have c1:w.cell? ⟨m,0,none⟩=some (.slice ob N cb):=hD.blk.cell rfl
  clear hD
  by_cases h1:a<0
  · go_enter LL.func110,Tryz.ntmps110
    go_wp2
    go_ret
    exact ⟨rfl,Fr.same rfl rfl⟩
  · have h2:(N:Int)<=a:=by omega
    clear ha
    go_enter LL.func110,Tryz.ntmps110
    go_wp2
    go_ret
    exact ⟨rfl,Fr.same rfl rfl⟩
theorem doc_at_yes {i b:Nat}(hD:Doc w Λ k m N nb nt sh bag txs stop rs rb rt)(hi:i<N)(h1:rs[i]? = some (.pointer (some ⟨b,0,none⟩)))(hn:N<=4):Calls Tryz.L 110 #[.pointer (some ⟨m,0,none⟩),.int .i64 i] w fun e w'=>e=.returned (.pointer (some ⟨b,0,none⟩))/\Fr Λ Λ (fun _=>False) w w':=by
  obtain ⟨gt,ct,rfl,_⟩:=hD.shards.some (by omega)
  have c1:w.cell? ⟨m,0,none⟩=some (.slice (some ⟨gt,0,none⟩) N ct):=hD.blk.cell rfl
  have d1:=hD.shards.cell rfl h1
  have b1:¬ (i:Int)<0:=by omega
  have b2:¬ (N:Int)<=i:=by omega
  clear hD
  go_enter LL.func110,Tryz.ntmps110
  go_wp2
  go_ret
  exact ⟨rfl,Fr.same rfl rfl⟩
end
end
end Go.Proofs.Shardlog
namespace Go.Mem
open Go
section
theorem Row.setC {w:World}{Λ:Lab}{ρ:Role}{e:TypeId}{size g n cap q:Nat}{xs:List Value}(h:Row w Λ ρ e size (.slice (Option.some ⟨g,0,none⟩) n cap) n xs)(x:Value):Row (w.setCell ⟨g,q,none⟩ x) Λ ρ e size (.slice (Option.some ⟨g,0,none⟩) n cap) n (xs.set q x):=by
  have hl:=h.len
  rcases h.own.2 with ⟨z,_⟩|⟨g',cap',cur,z,h3,h4,h5,h6,h7,h8⟩
  · cases z
  · cases z
    have hA:=(At.mk h4 rfl:At w (fun _=>still) still g _).set q x
    refine ⟨⟨by rw [List.length_set];exact hl,.inr ⟨g,cap,_,rfl,h3,hA.obj,h5,h6,by rw [Array.size_setIfInBounds];exact h7,?_⟩⟩,h.lab⟩
    rw [Array.toList_setIfInBounds,List.take_set,h8]
end
end Go.Mem
namespace Go.Proofs.Shardlog
open Go Go.Conc Go.Tame Go.Proofs Go.RowKit Go.Mem
section
structure RefIn (w:World) (Λ:Lab) (rb:List Value) (i:Nat) (x:Msg) (o r:Value):Prop where
  h0:rb[i*7]? = some (.int .i64 x.kind)
  h1:rb[i*7+1]? = some (.int .i64 x.frm)
  h2:rb[i*7+2]? = some (.int .i64 x.to)
  h3:rb[i*7+3]? = some (.int .i64 x.tx)
  h4:rb[i*7+4]? = some (.bool x.yes)
  h5:rb[i*7+5]? = some o
  h6:rb[i*7+6]? = some r
  ops:Row w Λ still 61 3 o x.ops.length (refL x.ops)
  rds:Row w Λ still 3 1 r x.reads.length (riL x.reads)
theorem RefIn.fr {w w':World}{Λ Λ':Lab}{M:Role->Prop}{rb:List Value}{i:Nat}{x:Msg}{o r:Value}(h:RefIn w Λ rb i x o r)(f:Fr Λ Λ' M w w')(hm:¬ M still):RefIn w' Λ' rb i x o r:=⟨h.h0,h.h1,h.h2,h.h3,h.h4,h.h5,h.h6,h.ops.fr f hm,h.rds.fr f hm⟩
def Refs (w:World) (Λ:Lab) (l:List Msg) (rb:List Value):Prop:=∀ (i:Nat) (x:Msg),l[i]? = some x->∃ o r,RefIn w Λ rb i x o r
theorem Refs.fr {w w':World}{Λ Λ':Lab}{M:Role->Prop}{l:List Msg}{rb:List Value}(h:Refs w Λ l rb)(f:Fr Λ Λ' M w w')(hm:¬ M still):Refs w' Λ' l rb:=fun i x hx=>by
  obtain ⟨o,r,h1⟩:=h i x hx
  exact ⟨o,r,h1.fr f hm⟩
structure Msg.Ok (x:Msg):Prop where
  ops:∀ o ∈ x.ops,IntKind.i64.wrap o.key=o.key/\IntKind.i64.wrap o.val=o.val
  rds:∀ y ∈ x.reads,IntKind.i64.wrap y=y
  ops6:x.ops.length<=6
  rds6:x.reads.length<=6
theorem scr_tOps (q:Nat):scr (tOps q):=⟨rfl,Nat.succ_ne_zero 5⟩
theorem scr_tRds (q:Nat):scr (tRds q):=⟨rfl,Nat.succ_ne_zero 6⟩
theorem scr_tBag:scr tBag:=⟨rfl,Nat.succ_ne_zero 4⟩
theorem scr_told {q:Nat}{r:Role}(h:r=tOps q∨r=tRds q∨r=tBag):scr r:=by
  rcases h with rfl|rfl|rfl
  · exact scr_tOps q
  · exact scr_tRds q
  · exact scr_tBag
theorem row_get {w:World}{Λ:Lab}{ρ:Role}{e:TypeId}{size n:Nat}{v:Value}{xs:List Value}(h:Row w Λ ρ e size v n xs){j:Nat}(hj:j<n*size):∃ z,xs[j]? = some z:=by
  have:=h.len
  exact ⟨_,List.getElem?_eq_getElem (by omega)⟩
theorem Doc.away {w w':World}{Λ Λ':Lab}{k kd m N nb nt:Nat}{sh bag txs:Value}{stop:Bool}{rs rb rt:List Value}(h:Doc w Λ kd m N nb nt sh bag txs stop rs rb rt)(hk:0<kd)(hn:kd≠k)(f:Fr Λ Λ' (mineS k) w w'):Doc w' Λ' kd m N nb nt sh bag txs stop rs rb rt:=
  h.fr f fun r hr hm=>by
    rcases hm with hm|hm
    · omega
    · have:=hm.1;omega
section
variable {w:World}{Λ:Lab}{k kd c m N N' nb nt nt' D:Nat}{sh tx bg dsh dbag dtxs:Value}{stop:Bool}{ss ts bs rs rb rt:List Value}{l:List Msg}
set_option maxHeartbeats 8000000 in
theorem lone_lawBag (hk:0<k)(hkd:0<kd)(hne:kd≠k)(hC:Clu w Λ k c N nt nb 0 sh tx bg D ss ts bs)(hl:l.length=nb)(hm:Msgs w Λ l bs)(hD:Doc w Λ kd m N' nb nt' dsh dbag dtxs stop rs rb rt)(hR:Refs w Λ l rb)(hok:∀ x ∈ l,x.Ok)(hn:nb<=1048576) :
    Calls Tryz.L 108 #[.agg #[.pointer (some ⟨c,0,none⟩),.pointer (some ⟨m,0,none⟩)]] w fun e w'=>e=.returned (.bool true)/\∃ Λ',Fr Λ Λ' (mineS k) w w'/\Clu w' Λ' k c N nt nb 0 sh tx bg D ss ts bs:=by
  have hst:=not_mineS hk
  let ΛA:Lab:=fun x=>if x=w.heap.size then still else Λ x
  have fA:Fr Λ ΛA (mineS k) w (w.alloc (.cells #[.pointer (some ⟨c,0,none⟩),.pointer (some ⟨m,0,none⟩)] 134)):=((Fr.refl Λ _ w).alloc _).relab fun x hx=>if_neg (by omega)
  have fA0:Fr Λ ΛA (fun _=>False) w (w.alloc (.cells #[.pointer (some ⟨c,0,none⟩),.pointer (some ⟨m,0,none⟩)] 134)):=((Fr.refl Λ _ w).alloc _).relab fun x hx=>if_neg (by omega)
  have hB:At (w.alloc (.cells #[.pointer (some ⟨c,0,none⟩),.pointer (some ⟨m,0,none⟩)] 134)) ΛA still w.heap.size (.cells #[.pointer (some ⟨c,0,none⟩),.pointer (some ⟨m,0,none⟩)] 134):=At.new w Λ _
  have hX:=hid' (And.intro hC (And.intro hm (And.intro hD hR)))
  have hY:=hid' (And.intro fA (And.intro (hC.fr fA0 fun _ _ z=>z) hB))
  have hok':=hid' hok
  obtain ⟨bo,bc,rfl⟩:=hD.bag.slice
  clear hC hm hD hR hok fA fA0 hB
  clear_value ΛA
  go_enter LL.func108,Tryz.ntmps108
  go_wp2_with fail
  go_loopw [3] (fun i wr=>∃ (r:Nat) (Λr:Lab),r<=2/\i=.int .i64 r/\Fr Λ Λr (mineS k) w wr/\Clu wr Λr k c N nt nb 0 sh tx bg D ss ts bs/\At wr Λr still w.heap.size (.cells #[.pointer (some ⟨c,0,none⟩),.pointer (some ⟨m,0,none⟩)] 134)) (fun i _=>2 - (intOf i).toNat)
  case atStart=>exact ⟨0,ΛA,by omega,rfl,hY.out.1,hY.out.2.1,hY.out.2.2⟩
  case round=>
    obtain ⟨r,Λr,hr2,rfl,hFr,hCr,hBr⟩:=hrel
    have b0:=hBr.cell (i:=0) rfl
    have hS:=hid' (lone_Bag hk hCr hl (hX.out.2.1.fr hFr hst) hn)
    have hZ:=hid' (And.intro hFr (And.intro hCr hBr))
    clear hFr hCr hBr
    by_cases hlt:r<2
    · go_wp2_with fail
      refine hS.out.mono ?_
      rintro e w3 ⟨y,Λ3,xs,rfl,h3,h4,h5,h6⟩
      obtain ⟨yo,yc,rfl⟩:=h5.slice
      have f3:Fr Λ Λ3 (mineS k) w w3:=hZ.out.1.trans h3
      have hD3:=hX.out.2.2.1.away hkd hne f3
      have hR3:=hX.out.2.2.2.fr f3 hst
      have hb3:=hZ.out.2.2.fr h3 hst
      have b0:=hb3.cell (i:=0) rfl
      have b1:=hb3.cell (i:=1) rfl
      have m1:w3.cell? ⟨m,1,none⟩=some (.slice bo nb bc):=hD3.blk.cell rfl
      have hQ:=hid' (And.intro f3 (And.intro h4 (And.intro hb3 (And.intro hD3 hR3))))
      have hT:=hid' (And.intro h5 h6)
      clear h3 h4 h5 h6 f3 hD3 hR3 hb3 hS
      go_wp2_with fail
      go_loopw [5] (fun i wr=>∃ (q:Nat) (Λr:Lab) (xs:List Value),q<=nb/\i=.int .i64 q/\Fr Λ3 Λr scr w3 wr/\Row wr Λr tBag 238 7 (.slice yo nb yc) nb xs/\∀ j x,q<=j->l[j]? = some x->∃ o r,ToldIn wr Λr xs j x o r) (fun i _=>nb - (intOf i).toNat)
      case atStart=>exact ⟨0,Λ3,xs,by omega,rfl,Fr.refl _ _ _,hT.out.1,fun j x _ hx=>hT.out.2 j x hx⟩
      case round=>
        obtain ⟨q,Λq,xq,hq,rfl,hF,hW,hTq⟩:=hrel
        have hV:=hid' (And.intro hF (And.intro hW hTq))
        clear hF hW hTq
        by_cases hlt2:q<nb
        · obtain ⟨g,cap,hg,_⟩:=hV.out.2.1.some (by omega)
          cases hg
          obtain ⟨x,hx⟩:∃ x,l[q]? = some x:=⟨_,List.getElem?_eq_getElem (by omega)⟩
          have hxo:=hok'.out x (List.mem_of_getElem? hx)
          have hb6:=hxo.ops6
          have hb7:=hxo.rds6
          obtain ⟨o,rr,hto⟩:=hV.out.2.2 q x (Nat.le_refl _) hx
          obtain ⟨o',rr',hre⟩:=(hQ.out.2.2.2.2.fr hV.out.1 scr_still) q x hx
          have hDq:=hQ.out.2.2.2.1.fr hV.out.1 fun r hr=>scr_away hkd hr
          obtain ⟨gb,cb,hgb,_⟩:=hDq.bag.some (by omega)
          cases hgb
          have hbq:=hQ.out.2.2.1.fr hV.out.1 scr_still
          have b1:=hbq.cell (i:=1) rfl
          have m1:wr.cell? ⟨m,1,none⟩=some (.slice (some ⟨gb,0,none⟩) nb bc):=hDq.blk.cell rfl
          have d0:=hV.out.2.1.cell rfl hto.h0
          have d1:=hV.out.2.1.cell rfl hto.h1
          have d2:=hV.out.2.1.cell rfl hto.h2
          have d3:=hV.out.2.1.cell rfl hto.h3
          have d4:=hV.out.2.1.cell rfl hto.h4
          have d5:=hV.out.2.1.cell rfl hto.h5
          have d6:=hV.out.2.1.cell rfl hto.h6
          have e0:=hDq.bag.cell rfl hre.h0
          have e1:=hDq.bag.cell rfl hre.h1
          have e2:=hDq.bag.cell rfl hre.h2
          have e3:=hDq.bag.cell rfl hre.h3
          have e4:=hDq.bag.cell rfl hre.h4
          have e5:=hDq.bag.cell rfl hre.h5
          have e6:=hDq.bag.cell rfl hre.h6
          obtain ⟨oo,oc,rfl⟩:=hto.ops.slice
          obtain ⟨ro,rc,rfl⟩:=hto.rds.slice
          obtain ⟨oo',oc',rfl⟩:=hre.ops.slice
          obtain ⟨ro',rc',rfl⟩:=hre.rds.slice
          let ΛB:Lab:=fun z=>if z=wr.heap.size∨z=wr.heap.size+1 then still else Λq z
          have fB:Fr Λq ΛB (fun _=>False) wr ((wr.alloc (.cells (toldCells x (.slice oo x.ops.length oc) (.slice ro x.reads.length rc)).toArray 238)).alloc (.cells (toldCells x (.slice oo' x.ops.length oc') (.slice ro' x.reads.length rc')).toArray 122)):=(((Fr.refl Λq _ wr).alloc _).alloc _).relab fun z hz=>if_neg (by omega)
          have atA:At ((wr.alloc (.cells (toldCells x (.slice oo x.ops.length oc) (.slice ro x.reads.length rc)).toArray 238)).alloc (.cells (toldCells x (.slice oo' x.ops.length oc') (.slice ro' x.reads.length rc')).toArray 122)) ΛB still wr.heap.size (.cells (toldCells x (.slice oo x.ops.length oc) (.slice ro x.reads.length rc)).toArray 238):=
            ⟨by rw [alloc_get,if_neg (by rw [alloc_size];omega),alloc_get,if_pos rfl],if_pos (.inl rfl)⟩
          have atB:At ((wr.alloc (.cells (toldCells x (.slice oo x.ops.length oc) (.slice ro x.reads.length rc)).toArray 238)).alloc (.cells (toldCells x (.slice oo' x.ops.length oc') (.slice ro' x.reads.length rc')).toArray 122)) ΛB still (wr.heap.size+1) (.cells (toldCells x (.slice oo' x.ops.length oc') (.slice ro' x.reads.length rc')).toArray 122):=
            ⟨by rw [alloc_get,if_pos (by rw [alloc_size])],if_pos (.inr rfl)⟩
          have m2:(wr.alloc (.cells (toldCells x (.slice oo x.ops.length oc) (.slice ro x.reads.length rc)).toArray 238)).cell? ⟨m,1,none⟩=some (.slice (some ⟨gb,0,none⟩) nb bc):=cell_alloc m1
          have b2:=cell_alloc (o:=.cells (toldCells x (.slice oo x.ops.length oc) (.slice ro x.reads.length rc)).toArray 238) b1
          have hrow:=hid' (And.intro (hto.ops.fr fB fun z=>z) (And.intro (hto.rds.fr fB fun z=>z) (And.intro (hre.ops.fr fB fun z=>z) (hre.rds.fr fB fun z=>z))))
          have hso:=hid' (lone_sameOps hrow.out.1 hrow.out.2.2.1 hxo.ops (by have:=hxo.ops6;omega))
          have hAB:=hid' (And.intro fB (And.intro atA atB))
          have hwB:=hid' (hV.out.2.1.fr fB fun z=>z)
          clear fB atA atB hto hre hDq hbq
          clear_value ΛB
          unfold toldCells at m2 b2
          go_wp2_with fail
          refine hso.out.mono ?_
          rintro e w5 ⟨rfl,hs5⟩
          have f5:Fr ΛB ΛB (fun _=>False) _ w5:=Fr.same hs5.heap hs5.os
          have A5:=hAB.out.2.1.fr f5 fun z=>z
          have B5:=hAB.out.2.2.fr f5 fun z=>z
          have a6:w5.cell? ⟨wr.heap.size,6,none⟩=some (.slice ro x.reads.length rc):=A5.cell rfl
          have c6:w5.cell? ⟨wr.heap.size+1,6,none⟩=some (.slice ro' x.reads.length rc'):=B5.cell rfl
          have hsr:=hid' (lone_sameReads (hrow.out.2.1.fr f5 fun z=>z) (hrow.out.2.2.2.fr f5 fun z=>z) hxo.rds (by have:=hxo.rds6;omega))
          have hAB5:=hid' (And.intro f5 (And.intro A5 B5))
          clear f5 A5 B5 hs5 hso d0 d1 d2 d3 d4 d5 d6 e0 e1 e2 e3 e4 e5 e6 m1 m2 b1 b2
          go_wp2_with fail
          refine hsr.out.mono ?_
          rintro e w6 ⟨rfl,hs6⟩
          have f6:Fr ΛB ΛB (fun _=>False) _ w6:=hAB5.out.1.trans (Fr.same hs6.heap hs6.os)
          have A6:=hAB.out.2.1.fr f6 fun z=>z
          have B6:=hAB.out.2.2.fr f6 fun z=>z
          have a0:w6.cell? ⟨wr.heap.size,0,none⟩=some (.int .i64 x.kind):=A6.cell rfl
          have a1:w6.cell? ⟨wr.heap.size,1,none⟩=some (.int .i64 x.frm):=A6.cell rfl
          have a2:w6.cell? ⟨wr.heap.size,2,none⟩=some (.int .i64 x.to):=A6.cell rfl
          have a3:w6.cell? ⟨wr.heap.size,3,none⟩=some (.int .i64 x.tx):=A6.cell rfl
          have a4:w6.cell? ⟨wr.heap.size,4,none⟩=some (.bool x.yes):=A6.cell rfl
          have c0:w6.cell? ⟨wr.heap.size+1,0,none⟩=some (.int .i64 x.kind):=B6.cell rfl
          have c1:w6.cell? ⟨wr.heap.size+1,1,none⟩=some (.int .i64 x.frm):=B6.cell rfl
          have c2:w6.cell? ⟨wr.heap.size+1,2,none⟩=some (.int .i64 x.to):=B6.cell rfl
          have c3:w6.cell? ⟨wr.heap.size+1,3,none⟩=some (.int .i64 x.tx):=B6.cell rfl
          have c4:w6.cell? ⟨wr.heap.size+1,4,none⟩=some (.bool x.yes):=B6.cell rfl
          have hA6:=hid' (And.intro f6 A6)
          have hw6:=hid' (hwB.out.fr f6 fun z=>z)
          have ho6:=hid' (hrow.out.1.fr f6 fun z=>z)
          have hr6:=hid' (hrow.out.2.1.fr f6 fun z=>z)
          clear f6 A6 B6 hs6 hsr a6 c6 hwB hAB5
          go_wp2_with fail
          go_loopw [10] (fun i wq=>∃ (p:Nat) (ys:List Value),p<=x.ops.length/\i=.int .i64 p/\Fr ΛB ΛB (· = tOps q) w6 wq/\Row wq ΛB (tOps q) 65 3 (.slice oo x.ops.length oc) x.ops.length ys) (fun i _=>x.ops.length - (intOf i).toNat)
          case atStart=>exact ⟨0,_,by omega,rfl,Fr.refl _ _ _,ho6.out⟩
          case round=>
            obtain ⟨p,ys,hp,rfl,hF7,hR7⟩:=hrel
            have A7:=hA6.out.2.fr hF7 (by simp [tOps,still])
            have a5:_=some (Value.slice oo x.ops.length oc):=A7.cell (i:=5) rfl
            by_cases hlt3:p<x.ops.length
            · obtain ⟨go,co,hgo,_⟩:=hR7.some (by omega)
              cases hgo
              obtain ⟨z0,hz0⟩:=row_get hR7 (j:=p*3) (by omega)
              obtain ⟨z1,hz1⟩:=row_get hR7 (j:=p*3+1) (by omega)
              obtain ⟨z2,hz2⟩:=row_get hR7 (j:=p*3+2) (by omega)
              have x0:=hR7.cell rfl hz0
              have x1:=hR7.cell rfl hz1
              have x2:=hR7.cell rfl hz2
              have t0:=hR7.thaw (p*3)
              have t1:=hR7.thaw (p*3+1)
              have t2:=hR7.thaw (p*3+2)
              have hl7:=hR7.lab go rfl
              have hfin:=hid' (And.intro (((hF7.trans (Fr.set' (a:=⟨go,p*3,none⟩) (y:=.bool false) hl7)).trans (Fr.set' (a:=⟨go,p*3+1,none⟩) (y:=.int .u8 113) hl7)).trans (Fr.set' (a:=⟨go,p*3+2,none⟩) (y:=.int .i32 0) hl7))
                (((hR7.setC (q:=p*3) (.bool false)).setC (q:=p*3+1) (.int .u8 113)).setC (q:=p*3+2) (.int .i32 0)))
              clear hF7 hR7 A7 hz0 hz1 hz2 hl7
              go_wp2
              go_roundw
              all_goals first
                | exact ⟨p+1,_,by omega,by go_num,hfin.out.1,hfin.out.2⟩
                | (simp [intOf];omega)
            · have r7:=hr6.out.fr hF7 (by simp [tOps,tRds])
              have w7:=hw6.out.fr hF7 (by simp [tOps,tBag])
              have f7:=hA6.out.1.mono (M':=fun r=>r=tOps q∨r=tRds q) (fun _ z=>z.elim)
              have h7:=hid' (And.intro (f7.trans (hF7.mono fun r h=>.inl h)) (And.intro A7 (And.intro r7 w7)))
              clear hF7 hR7 A7 r7 w7 f7
              go_wp2_with fail
              go_loopw [11] (fun i wq=>∃ (p:Nat) (ys:List Value),p<=x.reads.length/\i=.int .i64 p/\Fr ΛB ΛB (· = tRds q) wr wq/\Row wq ΛB (tRds q) 21 1 (.slice ro x.reads.length rc) x.reads.length ys) (fun i _=>x.reads.length - (intOf i).toNat)
              case atStart=>exact ⟨0,_,by omega,rfl,Fr.refl _ _ _,h7.out.2.2.1⟩
              case round=>
                obtain ⟨p',ys',hp',rfl,hF8,hR8⟩:=hrel
                have A8:=h7.out.2.1.fr hF8 (by simp [tRds,still])
                have a6:_=some (Value.slice ro x.reads.length rc):=A8.cell (i:=6) rfl
                by_cases hlt4:p'<x.reads.length
                · obtain ⟨go,co,hgo,_⟩:=hR8.some (by omega)
                  cases hgo
                  obtain ⟨z0,hz0⟩:=row_get hR8 (j:=p') (by omega)
                  have x0:=hR8.cell rfl hz0
                  have t0:=hR8.thaw p'
                  have hfin:=hid' (And.intro (hF8.trans (Fr.set' (a:=⟨go,p',none⟩) (y:=.int .i32 99) (hR8.lab go rfl))) (hR8.setC (q:=p') (.int .i32 99)))
                  clear hF8 hR8 A8 hz0
                  go_wp2
                  go_roundw
                  all_goals first
                    | exact ⟨p'+1,_,by omega,by go_num,hfin.out.1,hfin.out.2⟩
                    | (simp [intOf];omega)
                · have w8:=h7.out.2.2.2.fr hF8 (by simp [tRds,tBag])
                  have f8:=h7.out.1.trans (hF8.mono (M':=fun r=>r=tOps q∨r=tRds q) fun r h=>.inr h)
                  obtain ⟨y0,hy0⟩:=row_get w8 (j:=q*7) (by omega)
                  obtain ⟨y1,hy1⟩:=row_get w8 (j:=q*7+1) (by omega)
                  obtain ⟨y2,hy2⟩:=row_get w8 (j:=q*7+2) (by omega)
                  obtain ⟨y3,hy3⟩:=row_get w8 (j:=q*7+3) (by omega)
                  obtain ⟨y4,hy4⟩:=row_get w8 (j:=q*7+4) (by omega)
                  obtain ⟨y5,hy5⟩:=row_get w8 (j:=q*7+5) (by omega)
                  obtain ⟨y6,hy6⟩:=row_get w8 (j:=q*7+6) (by omega)
                  have x0:=w8.cell rfl hy0
                  have x1:=w8.cell rfl hy1
                  have x2:=w8.cell rfl hy2
                  have x3:=w8.cell rfl hy3
                  have x4:=w8.cell rfl hy4
                  have x5:=w8.cell rfl hy5
                  have x6:=w8.cell rfl hy6
                  have t0:=w8.thaw (q*7)
                  have t1:=w8.thaw (q*7+1)
                  have t2:=w8.thaw (q*7+2)
                  have t3:=w8.thaw (q*7+3)
                  have t4:=w8.thaw (q*7+4)
                  have t5:=w8.thaw (q*7+5)
                  have t6:=w8.thaw (q*7+6)
                  have hlb:=w8.lab g rfl
                  have g0:=f8.mono (M':=fun r=>r=tOps q∨r=tRds q∨r=tBag) (fun r h=>h.elim .inl fun h=>.inr (.inl h))
                  have g1:=g0.trans (Fr.set' (a:=⟨g,q*7,none⟩) (y:=Value.int .i64 0) (.inr (.inr hlb)))
                  have q1:=w8.setC (q:=q*7) (Value.int .i64 0)
                  have g2:=g1.trans (Fr.set' (a:=⟨g,q*7+1,none⟩) (y:=Value.int .i64 0) (.inr (.inr hlb)))
                  have q2:=q1.setC (q:=q*7+1) (Value.int .i64 0)
                  have g3:=g2.trans (Fr.set' (a:=⟨g,q*7+2,none⟩) (y:=Value.int .i64 0) (.inr (.inr hlb)))
                  have q3:=q2.setC (q:=q*7+2) (Value.int .i64 0)
                  have g4:=g3.trans (Fr.set' (a:=⟨g,q*7+3,none⟩) (y:=Value.int .i64 0) (.inr (.inr hlb)))
                  have q4:=q3.setC (q:=q*7+3) (Value.int .i64 0)
                  have g5:=g4.trans (Fr.set' (a:=⟨g,q*7+4,none⟩) (y:=Value.bool false) (.inr (.inr hlb)))
                  have q5:=q4.setC (q:=q*7+4) (Value.bool false)
                  have g6:=g5.trans (Fr.set' (a:=⟨g,q*7+5,none⟩) (y:=Value.slice none 0 0) (.inr (.inr hlb)))
                  have q6:=q5.setC (q:=q*7+5) (Value.slice none 0 0)
                  have g7:=g6.trans (Fr.set' (a:=⟨g,q*7+6,none⟩) (y:=Value.slice none 0 0) (.inr (.inr hlb)))
                  have q7:=q6.setC (q:=q*7+6) (Value.slice none 0 0)
                  have hfin:=hid' (And.intro g7 q7)
                  clear g0 g1 g2 g3 g4 g5 g6 g7 q1 q2 q3 q4 q5 q6 q7
                  clear hF8 hR8 A8 hy0 hy1 hy2 hy3 hy4 hy5 hy6 w8 f8 hlb
                  have hend:=hid' (fun (W:World) (f:Fr Λq ΛB (fun r=>r=tOps q∨r=tRds q∨r=tBag) _ W) (ys:List Value) (hs:∀ p u,xq[p]? = some u->(q+1)*7<=p->ys[p]? = some u)=>(fun j y hj hy=>by
                    obtain ⟨o,rr,h⟩:=hV.out.2.2 j y (by omega) hy
                    have h':=h.fr f (by simp [tOps,tRds,tBag];omega) (by simp [tOps,tRds,tBag];omega)
                    exact ⟨o,rr,hs _ _ h'.h0 (by omega),hs _ _ h'.h1 (by omega),hs _ _ h'.h2 (by omega),hs _ _ h'.h3 (by omega),hs _ _ h'.h4 (by omega),hs _ _ h'.h5 (by omega),hs _ _ h'.h6 (by omega),h'.ops,h'.rds⟩:∀ j (y:Msg),q+1<=j->l[j]? = some y->∃ o rr,ToldIn W ΛB ys j y o rr))
                  have hset:=hid' (fun (p:Nat) (u:Value) (hu:xq[p]? = some u) (hpq:(q+1)*7<=p)=>(by
                    repeat (rw [List.getElem?_set_ne (by omega)])
                    exact hu:(((((((xq.set (q*7) (.int .i64 0)).set (q*7+1) (.int .i64 0)).set (q*7+2) (.int .i64 0)).set (q*7+3) (.int .i64 0)).set (q*7+4) (.bool false)).set (q*7+5) (.slice none 0 0)).set (q*7+6) (.slice none 0 0))[p]? = some u))
                  have hfr:=hid' (hV.out.1.trans ((hAB.out.1.mono fun _ z=>z.elim).trans (hfin.out.1.mono fun r h=>scr_told h)))
                  go_wp2
                  go_roundw
                  all_goals first
                    | exact ⟨q+1,ΛB,_,by omega,by go_num,hfr.out,hfin.out.2,hend.out _ ((hAB.out.1.mono fun _ z=>z.elim).trans hfin.out.1) _ hset.out⟩
                    | (simp [intOf];omega)
        · have hV1:=hV.out.1
          go_wp2
          go_roundw
          all_goals first
            | exact ⟨r+1,Λq,by omega,by go_num,hQ.out.1.trans (hV1.mono fun r h=>.inr h),hQ.out.2.1.fr hV1 fun r hr=>scr_away hk hr,hQ.out.2.2.1.fr hV1 scr_still⟩
            | (simp [intOf];omega)
    · go_wp2_with fail
      go_ret
      exact ⟨rfl,Λr,hZ.out.1,hZ.out.2.1⟩
end
end
section
theorem LL.zero21 (w:World):(zeroValue 21).run Tryz.L w=.ok (.int .i32 0) w:=by kernel_rfl
theorem LL.zero3 (w:World):(zeroValue 3).run Tryz.L w=.ok (.int .i64 0) w:=by kernel_rfl
section
variable {w:World}{Λ:Lab}{k ks c N nt nb D i:Nat}{t:Int}{sh tx bg x:Value}{ss ts bs':List Value}
def PValsOut (w:World) (Λ:Lab) (k c N nt nb D:Nat) (sh tx bg:Value) (ss ts bs:List Value) (vs:List Int) (n:Int) (e:Ending) (w':World):Prop:=
  ∃ g Λ',e=.returned (.tuple #[.slice (some ⟨g,0,none⟩) 26 26,.int .i64 n])/\Fr Λ Λ' (mineS k) w w'/\Clu w' Λ' k c N nt nb 0 sh tx bg D ss ts bs/\Row w' Λ' lent 21 1 (.slice (some ⟨g,0,none⟩) 26 26) 26 (rdL vs)
theorem scr_lent:scr lent:=⟨rfl,Nat.succ_ne_zero 2⟩
theorem key_wf {q:Nat}(h:q<26):(Lit.int .u8 (97+q)).wf=true:=by
  have h1:IntKind.u8.min=0:=by decide
  have h2:IntKind.u8.max=255:=by decide
  simp only [Lit.wf,h1,h2]
  simp
  omega
theorem key_wrap {q:Nat}(h:q<26):IntKind.u8.wrap (97+q)=97+q:=by
  simp only [IntKind.wrap,IntKind.bits,IntKind.signed]
  simp
  omega
set_option maxHeartbeats 4000000 in
theorem lone_pvals (hk:0<k)(hks:0<ks)(hC:Clu w Λ k c N nt nb 0 sh tx bg D ss ts bs')(hS:ShdsE w Λ ks N ss)(hkk:ks≠k)(hN:N<=4) :
    Calls Tryz.L 157 #[.pointer (some ⟨c,0,none⟩),.int .i64 t] w (PValsOut w Λ k c N nt nb D sh tx bg ss ts bs' (List.replicate 26 0) 0):=by
  obtain ⟨i21,s1,s2,s3,s4⟩:=zero32
  have s0:=slot32.und
  have hV:=hid' (lone_Values (t:=t) hk hks hC hS hkk hN)
  clear hC hS
  go_enter LL.func157,Tryz.ntmps157
  go_wp2_with fail
  refine hV.out.mono ?_
  rintro e w1 ⟨bm,Λ1,rfl,h1,h2,h3⟩
  have hown:=owns_empty (e:=21) h3.obj
  let ΛA:Lab:=fun x=>if x=w1.heap.size then lent else Λ1 x
  have fA:Fr Λ1 ΛA (fun _=>False) w1 (w1.alloc (.cells (madeCells #[.int .i32 0] 26) 21)):=((Fr.refl Λ1 _ w1).alloc _).relab fun x hx=>if_neg (by omega)
  have rA:Row (w1.alloc (.cells (madeCells #[.int .i32 0] 26) 21)) ΛA lent 21 1 (.slice (some ⟨w1.heap.size,0,none⟩) 26 26) 26 (rdL (List.replicate 26 0)):=by
    rw [show madeCells #[Value.int .i32 0] 26=(rdL (List.replicate 26 0)).toArray by kernel_rfl]
    exact row_new (w:=w1) (Λ:=Λ1) (ρ:=lent) (e:=21) (size:=1) (n:=26) (xs:=rdL (List.replicate 26 0)) (by decide) (by decide)
  have hX:=hid' (And.intro h1 (And.intro h2 (And.intro h3 (And.intro fA rA))))
  have hbm:=h3.lt
  clear h1 h2 h3 fA rA hV
  clear_value ΛA
  go_wp2_with (first
    | (at_make;refine wpList_make_rows rfl _ _ 166 rfl 21 i21 _ 1 26 s0 s1 s2 s3 .i64 .i64 rfl rfl (by rw [s4];decide) (by decide) ?_)
    | (at_len;refine wpList_len_own _ rfl _ 138 rfl 5 21 LL.und138 _ bm 0 _ rfl (hown.alloc _) ?_))
  go_loopw [8,21] (fun v i wr=>∃ q:Nat,q<=26/\v=.int .i64 0/\i=.int .i64 q/\Fr ΛA ΛA (· = lent) (w1.alloc (.cells (madeCells #[.int .i32 0] 26) 21)) wr/\Row wr ΛA lent 21 1 (.slice (some ⟨w1.heap.size,0,none⟩) 26 26) 26 (rdL (List.replicate 26 0))) (fun _ i _=>26 - (intOf i).toNat)
  case atStart=>exact ⟨0,by omega,rfl,rfl,Fr.refl _ _ _,hX.out.2.2.2.2⟩
  case round=>
    obtain ⟨q,hq,rfl,rfl,hF,hR⟩:=hrel
    have hE:=((hX.out.2.2.1.fr hX.out.2.2.2.1 fun z=>z).fr hF (by decide))
    have hown2:=owns_empty (e:=21) hE.obj
    by_cases hlt:q<26
    · have hkw:=key_wrap hlt
      have hhas:∀ kl,Maps.has (DataW.map []:DataW Unit) kl=false:=fun _=>rfl
      obtain ⟨z0,hz0⟩:=row_get hR (j:=q) (by omega)
      have x0:=hR.cell rfl hz0
      have t0:=hR.thaw q
      have hfin:=hid' (And.intro (hF.trans (Fr.set' (a:=⟨w1.heap.size,q,none⟩) (y:=.int .i32 0) (hR.lab _ rfl))) (hR.setC (q:=q) (.int .i32 0)))
      rw [show (rdL (List.replicate 26 0)).set q (.int .i32 0)=rdL (List.replicate 26 0) by unfold rdL;rw [List.map_replicate];exact List.set_replicate_self] at hfin
      clear hF hR hE hz0
      go_wp2_with (first
        | (at_lookup;refine wpList_lookup_own_ok_int _ rfl _ _ 138 rfl 5 21 .i32 LL.keyed5 LL.und138 LL.und21 (LL.zero21 _) bm 0 _ rfl hown2 _ _ rfl (Maps.keyOf_int_mk LL.und5 (key_wf hlt)) ?_;intro c hat hwc;obtain rfl:c=0:=by cases hat;rfl))
      go_roundw
      all_goals first
        | exact ⟨q+1,by omega,rfl,by go_num,hfin.out.1,hfin.out.2⟩
        | (simp [intOf];omega)
    · have hV:=hid' (And.intro hF hR)
      clear hF hR hE
      go_wp2_with (first
        | (at_range;refine wpList_range_own _ rfl _ 138 rfl 5 21 LL.keyed5 LL.und138 _ bm 0 _ rfl hown2 ?_;intro w0 hrg0 hg0 hs0)
        | go_in)
      go_frame
      refine wp_loop_rounds 1 ?_
      rw [rounds_succ]
      go_wp2_with (first
        | (at_next;refine wpList_next_ranges_ii _ rfl _ rfl 5 21 .u8 .i32 LL.keyed5 LL.und5 LL.und21 bm wr.heap.size 0 _ _ _ rfl hrg0 ?_ ?_)
        | go_in)
      · intro _ hl0
        go_wp2
        go_ret2
        have fg:Fr ΛA ΛA (fun _=>False) wr w0:=Fr.grown hg0 fun b hb=>by cases hb
        refine ⟨_,ΛA,rfl,hX.out.1.trans ((hX.out.2.2.2.1.mono fun _ z=>z.elim).trans ((hV.out.1.mono fun r h=>by subst h;exact .inr scr_lent).trans (fg.mono fun _ z=>z.elim))),?_,hV.out.2.fr fg fun z=>z⟩
        exact ((hX.out.2.1.fr hX.out.2.2.2.1 fun _ _ z=>z).fr hV.out.1 fun r hr h=>by rw [h] at hr;simp [lent] at hr;omega).fr fg fun _ _ z=>z
      · intro x c w1 cnt1 _ _ _ _ _ hlt
        exact absurd hlt (Nat.not_lt_zero _)
end
end
section
section
variable {w:World}{Λ:Lab}{k ks c N nt nb D b bs bm bt bc bi i:Nat}{t:Int}{sh tx bg x:Value}{ss ts bs':List Value}
set_option maxHeartbeats 2000000 in
theorem lone_locks1_no (hC:Clu w Λ k c N nt nb 1 sh tx bg D ss ts bs')(hbc:At w Λ still bc (.cells #[.pointer (some ⟨c,0,none⟩)] 23))(hbi:At w Λ still bi (.cells #[.int .i64 t] 3))(ht:¬ (0<=t/\t<N)) :
    Calls Tryz.L 242 #[.pointer (some ⟨bc,0,none⟩),.pointer (some ⟨bi,0,none⟩),.pointer (some ⟨bt,0,none⟩)] w fun e w'=>e=.returned (.tuple #[])/\Fr Λ Λ (fun _=>False) w w':=by
  obtain ⟨os,cs,rfl⟩:=hC.shards.slice
  have c1:w.cell? ⟨bc,0,none⟩=some (.pointer (some ⟨c,0,none⟩)):=hbc.cell rfl
  have c2:w.cell? ⟨bi,0,none⟩=some (.int .i64 t):=hbi.cell rfl
  have c5:w.cell? ⟨c,2,none⟩=some (.slice os N cs):=hC.blk.cell rfl
  have hh:∀ u:World,u.cell? ⟨c,2,none⟩=some (.slice os N cs)->Calls Tryz.L 156 #[.pointer (some ⟨c,0,none⟩),.int .i64 t] u fun e w'=>e=.returned (.bool false)/\w'=u:=fun u hu=>by
    have:=lone_hasShard (w:=u) (c:=c) (t:=t) (o:=os) (N:=N) (cp:=cs) hu
    rwa [decide_eq_false ht] at this
  have hh':=hid' hh
  clear hC hh ht hbc hbi
  go_enter LL.func242,Tryz.ntmps242
  go_wp2_with fail
  go_quiet ((go_at_call 156;exact Calls.quiet_of_same (hh'.out _ (by assumption))))
  go_wp2
  go_end0
  exact ⟨rfl,Fr.same rfl rfl⟩
set_option maxHeartbeats 4000000 in
theorem lone_locks1_up {σ:Role}{cells:Array Value}{fz:Nat × Nat}{bd:Nat}{R:World->Lab->Prop}(hk:0<k)(hC:Clu w Λ k c N nt nb 1 sh tx bg D ss ts bs')(hbc:At w Λ still bc (.cells #[.pointer (some ⟨c,0,none⟩)] 23))(hbi:At w Λ still bi (.cells #[.int .i64 i] 3))(hbt:At w Λ slip bt (.cells #[.map (some bd)] 139))(hi:i<N)(hN:N<=4)(hs:ss[i]? = some (.pointer (some ⟨b,0,none⟩)))(hb:At w Λ σ b (.cells cells 154 fz))(hσ:¬ (σ=tMap))(hup:cells[2]? = some (.bool true))(hmp:cells[6]? = some (.map (some bm)))
    (hcp:∀ u:World,u.heap=w.heap->u.os=w.os->Calls Tryz.L 243 #[.map (some bd),.map (some bm)] u fun e w'=>e=.returned (.tuple #[])/\∃ Λ',Fr Λ Λ' (· = tMap) u w'/\R w' Λ') :
    Calls Tryz.L 242 #[.pointer (some ⟨bc,0,none⟩),.pointer (some ⟨bi,0,none⟩),.pointer (some ⟨bt,0,none⟩)] w fun e w'=>e=.returned (.tuple #[])/\∃ Λ',Fr Λ Λ' (· = tMap) w w'/\R w' Λ':=by
  obtain ⟨g,cs,rfl,_⟩:=hC.shards.some (by omega)
  have c1:w.cell? ⟨bc,0,none⟩=some (.pointer (some ⟨c,0,none⟩)):=hbc.cell rfl
  have c2:w.cell? ⟨bi,0,none⟩=some (.int .i64 i):=hbi.cell rfl
  have c3:w.cell? ⟨bt,0,none⟩=some (.map (some bd)):=hbt.cell rfl
  have c5:w.cell? ⟨c,2,none⟩=some (.slice (some ⟨g,0,none⟩) N cs):=hC.blk.cell rfl
  have c6:w.cell? ⟨g,i,none⟩=some (.pointer (some ⟨b,0,none⟩)):=hC.shards.cell rfl hs
  have c7:w.cell? ⟨b,2,none⟩=some (.bool true):=hb.cell hup
  have c8:w.cell? ⟨b,6,none⟩=some (.map (some bm)):=hb.cell hmp
  have hh:∀ u:World,u.cell? ⟨c,2,none⟩=some (.slice (some ⟨g,0,none⟩) N cs)->Calls Tryz.L 156 #[.pointer (some ⟨c,0,none⟩),.int .i64 i] u fun e w'=>e=.returned (.bool true)/\w'=u:=fun u hu=>by
    have:=lone_hasShard (w:=u) (c:=c) (t:=i) (o:=some ⟨g,0,none⟩) (N:=N) (cp:=cs) hu
    rwa [decide_eq_true (by omega)] at this
  have hh':=hid' hh
  have hcp':=hid' hcp
  have e0:∀ r:Role,r.1=k->¬ (r=tMap):=fun r hr z=>by rw [z] at hr;simp [tMap] at hr;omega
  have hG:=hid' (fun (u u':World) (Λ':Lab) (hu:u.heap=w.heap) (ho:u.os=w.os) (f':Fr Λ Λ' (· = tMap) u u')=>(⟨((hbt.fr (Fr.same (M:=fun _=>False) hu ho) fun z=>z).fr f' (by decide)).cell rfl,((hbc.fr (Fr.same (M:=fun _=>False) hu ho) fun z=>z).fr f' (by decide)).cell rfl,((hbi.fr (Fr.same (M:=fun _=>False) hu ho) fun z=>z).fr f' (by decide)).cell rfl,((hC.blk.fr (Fr.same (M:=fun _=>False) hu ho) fun z=>z).fr f' (e0 _ rfl)).cell rfl,((hC.shards.fr (Fr.same (M:=fun _=>False) hu ho) fun z=>z).fr f' (e0 _ rfl)).cell rfl hs,((hb.fr (Fr.same (M:=fun _=>False) hu ho) fun z=>z).fr f' hσ).cell hmp⟩ :
    u'.cell? ⟨bt,0,none⟩=some (.map (some bd))/\u'.cell? ⟨bc,0,none⟩=some (.pointer (some ⟨c,0,none⟩))/\u'.cell? ⟨bi,0,none⟩=some (.int .i64 i)/\u'.cell? ⟨c,2,none⟩=some (.slice (some ⟨g,0,none⟩) N cs)/\u'.cell? ⟨g,i,none⟩=some (.pointer (some ⟨b,0,none⟩))/\u'.cell? ⟨b,6,none⟩=some (.map (some bm))))
  clear hC hh hcp hbc hbi hbt hs hb hup hmp
  go_enter LL.func242,Tryz.ntmps242
  go_wp2_with fail
  go_quiet ((go_at_call 156;exact Calls.quiet_of_same (hh'.out _ (by assumption))))
  go_wp2_with fail
  go_region_held3 (fun u=>u.cell? ⟨bt,0,none⟩=some (.map (some bd))/\u.cell? ⟨bc,0,none⟩=some (.pointer (some ⟨c,0,none⟩))/\u.cell? ⟨bi,0,none⟩=some (.int .i64 i)/\u.cell? ⟨c,2,none⟩=some (.slice (some ⟨g,0,none⟩) N cs)/\u.cell? ⟨g,i,none⟩=some (.pointer (some ⟨b,0,none⟩))/\u.cell? ⟨b,6,none⟩=some (.map (some bm))) (first|go_keep)
    (first
      | (go_at_call 243;refine (hcp'.out (w.drewN (nq+1)) rfl rfl).mono ?_;rintro e w6 ⟨rfl,Λ6,hF6,hR6⟩;obtain ⟨g1,g2,g3,g4,g5,g6⟩:=hG.out (w.drewN (nq+1)) w6 Λ6 rfl rfl hF6))
  all_goals go_end0
  all_goals exact ⟨rfl,Λ6,(Fr.same rfl rfl:Fr Λ Λ (· = tMap) w (w.drewN (nq+1))).trans hF6,hR6⟩
noncomputable def locksW (w:World) (c:Nat) (t:Int):World:=((metW w c t).alloc (.map #[] 0)).alloc (.cells #[.map (some (w.heap.size+1+1))] 139)
noncomputable def locksΛ (w:World) (Λ:Lab):Lab:=fun x=>if x=w.heap.size+1+1 then tMap else if x=w.heap.size+1+1+1 then slip else metΛ w Λ x
theorem locksFr:Fr Λ (locksΛ w Λ) (fun _=>False) w (locksW w c t):=by
  refine (((metFr (w:=w) (Λ:=Λ)).alloc _).alloc _).relab fun x hx=>?_
  show (if _ then _ else _)=_
  rw [if_neg (by omega),if_neg (by omega)]
theorem locks_keep {ρ:Role}{x:Nat}{o:Obj}(h:At (metW w c t) (metΛ w Λ) ρ x o):At (locksW w c t) (locksΛ w Λ) ρ x o:=by
  have hlt:=h.lt
  rw [metW_size] at hlt
  refine ⟨?_,?_⟩
  · unfold locksW
    rw [alloc_get,if_neg (by rw [alloc_size,metW_size];omega),alloc_get,if_neg (by rw [metW_size];omega)]
    exact h.obj
  · show (if _ then _ else _)=_
    rw [if_neg (by omega),if_neg (by omega)]
    exact h.lab
theorem locks_bm:At (locksW w c t) (locksΛ w Λ) tMap (w.heap.size+1+1) emptyMap:=by
  refine ⟨?_,?_⟩
  · unfold locksW
    rw [alloc_get,if_neg (by rw [alloc_size,metW_size];omega),alloc_get,if_pos (by rw [metW_size])]
    rfl
  · show (if _ then _ else _)=_
    rw [if_pos rfl]
theorem locks_bt:At (locksW w c t) (locksΛ w Λ) slip (w.heap.size+1+1+1) (.cells #[.map (some (w.heap.size+1+1))] 139):=by
  refine ⟨?_,?_⟩
  · unfold locksW
    rw [alloc_get,if_pos (by rw [alloc_size,metW_size])]
  · show (if _ then _ else _)=_
    rw [if_neg (by omega),if_pos rfl]
def LocksOut (w:World) (Λ:Lab) (k c N nt nb D:Nat) (sh tx bg:Value) (ss ts bs:List Value) (e:Ending) (w':World):Prop:=
  ∃ bm Λ',e=.returned (.map (some bm))/\Fr Λ Λ' (mineS k) w w'/\Clu w' Λ' k c N nt nb 0 sh tx bg D ss ts bs/\At w' Λ' tMap bm emptyMap
set_option maxHeartbeats 1000000 in
theorem lone_Locks (hk:0<k)(hks:0<ks)(hC:Clu w Λ k c N nt nb 0 sh tx bg D ss ts bs')(hS:ShdsE w Λ ks N ss)(hkk:ks≠k)(hN:N<=4) :
    Calls Tryz.L 203 #[.pointer (some ⟨c,0,none⟩),.int .i64 t] w (LocksOut w Λ k c N nt nb D sh tx bg ss ts bs'):=by
  have e1:¬ (still=((k,0,0):Role)):=ne_of_fst (by simp [still];omega)
  have e2:¬ (slip=((k,0,0):Role)):=ne_of_fst (by simp [slip];omega)
  have e3:¬ (tMap=((k,0,0):Role)):=ne_of_fst (by simp [tMap];omega)
  have hmm:=@run_makeMap Tryz.L
  have hI:=hid' (lone_asksS (v:=locksW w c t) (Λ:=locksΛ w Λ) (cap:=#[.pointer (some ⟨w.heap.size,0,none⟩),.pointer (some ⟨w.heap.size+1,0,none⟩),.pointer (some ⟨w.heap.size+1+1+1,0,none⟩)]) (R:=fun w2 Λ2=>At w2 Λ2 tMap (w.heap.size+1+1) emptyMap/\At w2 Λ2 slip (w.heap.size+1+1+1) (.cells #[.map (some (w.heap.size+1+1))] 139)) LL.call242 (hC.fr locksFr fun _ _ z=>z)
    (fun w1 f1 hC1=>by
      have h0:=(locks_keep (w:=w) (c:=c) (t:=t) met_bc).fr f1 e1
      have h1:=(locks_keep (w:=w) (c:=c) (t:=t) met_bi).fr f1 e1
      have h2:=(locks_bm (w:=w) (Λ:=Λ) (c:=c) (t:=t)).fr f1 e3
      have h3:=(locks_bt (w:=w) (Λ:=Λ) (c:=c) (t:=t)).fr f1 e2
      by_cases ht:0<=t/\t<N
      · obtain ⟨i,rfl⟩:∃ i:Nat,t=i:=⟨t.toNat,by omega⟩
        have hi:i<N:=by omega
        obtain ⟨b,m,W,R,fz,hs,hE⟩:=(hS.fr (locksFr (w:=w) (c:=c) (t:=i)) fun _ _ z=>z).fr f1 (fun r hr z=>by rw [z] at hr;exact hkk hr.symm) i hi
        refine (lone_locks1_up (R:=fun w' Λ'=>At w' Λ' tMap (w.heap.size+1+1) emptyMap) hk hC1 h0 h1 h3 hi hN hs hE.blk (ne_of_fst (by simp [tMap];omega)) rfl rfl (fun u hu ho=>?_)).mono ?_
        · have fu:Fr (locksΛ w Λ) (locksΛ w Λ) (fun _=>False) w1 u:=Fr.same hu ho
          exact (lone_copy64_nil (Λ:=locksΛ w Λ) (hE.locks.fr fu fun z=>z).obj).mono fun e w' ⟨k1,k2⟩=>⟨k1,_,k2.mono fun _ z=>z.elim,(h2.fr fu fun z=>z).fr k2 fun z=>z⟩
        · rintro e w' ⟨rfl,Λ',k1,k2⟩
          exact ⟨rfl,Λ',k1.mono fun r h=>by subst h;exact ⟨rfl,by decide⟩,k2,h3.fr k1 (by decide)⟩
      · exact (lone_locks1_no hC1 h0 h1 ht).mono fun e w' ⟨k1,k2⟩=>⟨k1,_,k2.mono fun _ z=>z.elim,h2.fr k2 fun z=>z,h3.fr k2 fun z=>z⟩) hk)
  clear hC hS
  go_enter LL.func203,Tryz.ntmps203
  go_wp2_with fail
  refine hI.out.mono ?_
  rintro e w' ⟨rfl,w2,Λ2,⟨h1,h2⟩,h4,h5,h6,fc⟩
  have a1:=h2.fr fc e2
  have a2:=h1.fr fc e3
  have k1:w'.cell? ⟨w.heap.size+1+1+1,0,none⟩=some (.map (some (w.heap.size+1+1))):=a1.cell rfl
  have hX:=hid' (And.intro h4 (And.intro h6 (And.intro fc (And.intro a1 a2))))
  clear h1 h2 h4 h5 h6 fc a1 a2 hI
  go_wp2
  go_ret
  exact ⟨_,Λ2,rfl,(locksFr.mono fun _ z=>z.elim).trans (hX.out.1.trans (hX.out.2.2.1.mono fun r h=>.inl (by rw [h]))),hX.out.2.1,hX.out.2.2.2.2⟩
def PLocksOut (w:World) (Λ:Lab) (k c N nt nb D:Nat) (sh tx bg:Value) (ss ts bs:List Value) (vs:List Int) (n:Int) (e:Ending) (w':World):Prop:=
  ∃ g Λ',e=.returned (.tuple #[.slice (some ⟨g,0,none⟩) 26 26,.int .i64 n])/\Fr Λ Λ' (mineS k) w w'/\Clu w' Λ' k c N nt nb 0 sh tx bg D ss ts bs/\Row w' Λ' lent 3 1 (.slice (some ⟨g,0,none⟩) 26 26) 26 (riL vs)
set_option maxHeartbeats 4000000 in
theorem lone_plocks (hk:0<k)(hks:0<ks)(hC:Clu w Λ k c N nt nb 0 sh tx bg D ss ts bs')(hS:ShdsE w Λ ks N ss)(hkk:ks≠k)(hN:N<=4) :
    Calls Tryz.L 158 #[.pointer (some ⟨c,0,none⟩),.int .i64 t] w (PLocksOut w Λ k c N nt nb D sh tx bg ss ts bs' (List.replicate 26 (-1)) 0):=by
  obtain ⟨i21,s1,s2,s3,s4⟩:=slot3
  have s0:=und54
  have hV:=hid' (lone_Locks (t:=t) hk hks hC hS hkk hN)
  clear hC hS
  go_enter LL.func158,Tryz.ntmps158
  go_wp2_with fail
  refine hV.out.mono ?_
  rintro e w1 ⟨bm,Λ1,rfl,h1,h2,h3⟩
  have hown:=owns_empty (e:=3) h3.obj
  let ΛA:Lab:=fun x=>if x=w1.heap.size then lent else Λ1 x
  have fA:Fr Λ1 ΛA (fun _=>False) w1 (w1.alloc (.cells (madeCells #[.int .i64 0] 26) 3)):=((Fr.refl Λ1 _ w1).alloc _).relab fun x hx=>if_neg (by omega)
  have rA:Row (w1.alloc (.cells (madeCells #[.int .i64 0] 26) 3)) ΛA lent 3 1 (.slice (some ⟨w1.heap.size,0,none⟩) 26 26) 26 (riL (List.replicate 26 0)):=by
    rw [show madeCells #[Value.int .i64 0] 26=(riL (List.replicate 26 0)).toArray by kernel_rfl]
    exact row_new (w:=w1) (Λ:=Λ1) (ρ:=lent) (e:=3) (size:=1) (n:=26) (xs:=riL (List.replicate 26 0)) (by decide) (by decide)
  have hX:=hid' (And.intro h1 (And.intro h2 (And.intro h3 (And.intro fA rA))))
  have hbm:=h3.lt
  clear h1 h2 h3 fA rA hV
  clear_value ΛA
  go_wp2_with (first
    | (at_make;refine wpList_make_rows rfl _ _ 54 rfl 3 i21 _ 1 26 s0 s1 s2 s3 .i64 .i64 rfl rfl (by rw [s4];decide) (by decide) ?_))
  go_loopw [19] (fun i wr=>∃ (q:Nat) (xs:List Value),q<=26/\i=.int .i64 q/\Fr ΛA ΛA (· = lent) (w1.alloc (.cells (madeCells #[.int .i64 0] 26) 3)) wr/\Row wr ΛA lent 3 1 (.slice (some ⟨w1.heap.size,0,none⟩) 26 26) 26 xs/\∀ j,j<q->xs[j]? = some (.int .i64 (-1))) (fun i _=>26 - (intOf i).toNat)
  case atStart=>exact ⟨0,_,by omega,rfl,Fr.refl _ _ _,hX.out.2.2.2.2,fun j hj=>absurd hj (by omega)⟩
  case round=>
    obtain ⟨q,xs,hq,rfl,hF,hR,hxs⟩:=hrel
    have hE:=((hX.out.2.2.1.fr hX.out.2.2.2.1 fun z=>z).fr hF (by decide))
    have hown2:=owns_empty (e:=3) hE.obj
    by_cases hlt:q<26
    · have hkw:=key_wrap hlt
      have hhas:∀ kl,Maps.has (DataW.map []:DataW Unit) kl=false:=fun _=>rfl
      have hlen:=hR.len
      obtain ⟨z0,hz0⟩:=row_get hR (j:=q) (by omega)
      have x0:=hR.cell rfl hz0
      have t0:=hR.thaw q
      have hfin:=hid' (And.intro (hF.trans (Fr.set' (a:=⟨w1.heap.size,q,none⟩) (y:=.int .i64 (-1)) (hR.lab _ rfl))) (And.intro (hR.setC (q:=q) (.int .i64 (-1))) (fun j (hj:j<q+1)=>(by
        by_cases e:j=q
        · subst e
          rw [List.getElem?_set_self (by omega)]
        · rw [List.getElem?_set_ne (by omega)]
          exact hxs j (by omega):(xs.set q (.int .i64 (-1)))[j]? = some (.int .i64 (-1))))))
      clear hF hR hE hz0 hxs
      go_wp2_with (first
        | (at_lookup;refine wpList_lookup_own_ok_int _ rfl _ _ 139 rfl 5 3 .i64 LL.keyed5 LL.und139 LL.und3 (LL.zero3 _) bm 0 _ rfl hown2 _ _ rfl (Maps.keyOf_int_mk LL.und5 (key_wf hlt)) ?_;intro c hat hwc;obtain rfl:c=0:=by cases hat;rfl))
      go_roundw
      all_goals first
        | exact ⟨q+1,_,by omega,by go_num,hfin.out.1,hfin.out.2.1,hfin.out.2.2⟩
        | (simp [intOf];omega)
    · have hq26:q=26:=by omega
      subst hq26
      have hxe:xs=riL (List.replicate 26 (-1)):=by
        have hlen:=hR.len
        apply List.ext_getElem?
        intro j
        by_cases hj:j<26
        · rw [hxs j hj]
          unfold riL
          rw [List.map_replicate,List.getElem?_replicate,if_pos hj]
        · rw [List.getElem?_eq_none (by omega),List.getElem?_eq_none (by rw [len_riL,List.length_replicate];omega)]
      subst hxe
      have hV:=hid' (And.intro hF hR)
      clear hF hR hE hxs
      go_wp2_with (first
        | (at_len;refine wpList_len_own _ rfl _ 139 rfl 5 3 LL.und139 _ bm 0 _ rfl hown2 ?_)
        | (at_range;refine wpList_range_own _ rfl _ 139 rfl 5 3 LL.keyed5 LL.und139 _ bm 0 _ rfl hown2 ?_;intro w0 hrg0 hg0 hs0)
        | go_in)
      go_frame
      refine wp_loop_rounds 1 ?_
      rw [rounds_succ]
      go_wp2_with (first
        | (at_next;refine wpList_next_ranges_ii _ rfl _ rfl 5 3 .u8 .i64 LL.keyed5 LL.und5 LL.und3 bm wr.heap.size 0 _ _ _ rfl hrg0 ?_ ?_)
        | go_in)
      · intro _ hl0
        go_wp2
        go_ret2
        have fg:Fr ΛA ΛA (fun _=>False) wr w0:=Fr.grown hg0 fun b hb=>by cases hb
        refine ⟨_,ΛA,rfl,hX.out.1.trans ((hX.out.2.2.2.1.mono fun _ z=>z.elim).trans ((hV.out.1.mono fun r h=>by subst h;exact .inr scr_lent).trans (fg.mono fun _ z=>z.elim))),?_,hV.out.2.fr fg fun z=>z⟩
        exact ((hX.out.2.1.fr hX.out.2.2.2.1 fun _ _ z=>z).fr hV.out.1 fun r hr h=>by rw [h] at hr;simp [lent] at hr;omega).fr fg fun _ _ z=>z
      · intro x c w1 cnt1 _ _ _ _ _ hlt
        exact absurd hlt (Nat.not_lt_zero _)
end
end
section
def cnt0 (vs:List Int) (q:Nat):Nat:=(vs.take q).countP fun x=>x != 0
theorem cnt0_zero (vs:List Int):cnt0 vs 0=0:=by simp [cnt0]
theorem cnt0_succ {vs:List Int}{q:Nat}{x:Int}(h:vs[q]? = some x):cnt0 vs (q+1)=cnt0 vs q+if x=0 then 0 else 1:=by
  unfold cnt0
  rw [List.take_add_one,h,List.countP_append]
  by_cases hx:x=0 <;> simp [hx]
theorem cnt0_le (vs:List Int)(q:Nat):cnt0 vs q<=q:=Nat.le_trans List.countP_le_length (by rw [List.length_take];omega)
section
variable {w:World}{Λ:Lab}{k c m N nt nb D:Nat}{t:Int}{sh tx bg:Value}{ss ts bs:List Value}{vs:List Int}
def LawOut (w:World) (Λ:Lab) (k c N nt nb D:Nat) (sh tx bg:Value) (ss ts bs:List Value) (e:Ending) (w':World):Prop:=
  e=.returned (.bool true)/\∃ Λ',Fr Λ Λ' (mineS k) w w'/\Clu w' Λ' k c N nt nb 0 sh tx bg D ss ts bs
noncomputable def lawΛ (w:World) (Λ:Lab):Lab:=fun x=>if x=w.heap.size then still else Λ x
noncomputable def lawW (w:World) (c m:Nat):World:=w.alloc (.cells #[.pointer (some ⟨c,0,none⟩),.pointer (some ⟨m,0,none⟩)] 134)
theorem lawFr:Fr Λ (lawΛ w Λ) (fun _=>False) w (lawW w c m):=((Fr.refl Λ _ w).alloc _).relab fun x hx=>if_neg (by omega)
theorem law_box:At (lawW w c m) (lawΛ w Λ) still w.heap.size (.cells #[.pointer (some ⟨c,0,none⟩),.pointer (some ⟨m,0,none⟩)] 134):=At.new w Λ _
set_option maxHeartbeats 4000000 in
theorem lone_lawVals_yes {σ ρv:Role}{db gv cv:Nat}{dcells:Array Value}{fd:Nat × Nat}(hk:0<k)(hC:Clu w Λ k c N nt nb 0 sh tx bg D ss ts bs)
    (hpv:Calls Tryz.L 157 #[.pointer (some ⟨c,0,none⟩),.int .i64 t] (lawW w c m) (PValsOut (lawW w c m) (lawΛ w Λ) k c N nt nb D sh tx bg ss ts bs vs (cnt0 vs 26:Nat)))
    (hat:∀ u Λu,Fr Λ Λu (mineS k) w u->Calls Tryz.L 110 #[.pointer (some ⟨m,0,none⟩),.int .i64 t] u fun e w'=>e=.returned (.pointer (some ⟨db,0,none⟩))/\Fr Λu Λu (fun _=>False) u w')
    (hdb:At w Λ σ db (.cells dcells 59 fd)) (hσ:¬ mineS k σ) (h5:dcells[5]? = some (.slice (some ⟨gv,0,none⟩) 26 cv)) (hrv:Row w Λ ρv 3 1 (.slice (some ⟨gv,0,none⟩) 26 cv) 26 (riL vs)) (hρv:¬ mineS k ρv) (hvs:∀ x ∈ vs,IntKind.i64.wrap x=x) :
    Calls Tryz.L 112 #[.agg #[.pointer (some ⟨c,0,none⟩),.pointer (some ⟨m,0,none⟩)],.int .i64 t] w (LawOut w Λ k c N nt nb D sh tx bg ss ts bs):=by
  have hst:=not_mineS hk
  have hX:=hid' (And.intro hdb hrv)
  have hA:=hid' hat
  have hbox:=hid' (law_box (w:=w) (Λ:=Λ) (c:=c) (m:=m))
  have hpv':=hid' hpv
  have b0:(lawW w c m).cell? ⟨w.heap.size,0,none⟩=some (.pointer (some ⟨c,0,none⟩)):=hbox.out.cell rfl
  have hlen:vs.length=26:=by have:=hrv.len;rw [len_riL] at this;omega
  clear hC hpv hat hdb hrv
  unfold lawW at b0
  go_enter LL.func112,Tryz.ntmps112
  go_wp2_with fail
  refine hpv'.out.mono ?_
  rintro e w1 ⟨g,Λ1,rfl,h1,h2,h3⟩
  have f1:Fr Λ Λ1 (mineS k) w w1:=(lawFr.mono fun _ z=>z.elim).trans h1
  have b1:w1.cell? ⟨w.heap.size,1,none⟩=some (.pointer (some ⟨m,0,none⟩)):=(hbox.out.fr h1 hst).cell rfl
  have hD:=hid' (hA.out w1 Λ1 f1)
  have hY:=hid' (And.intro f1 (And.intro h2 h3))
  clear h1 h2 h3 f1 hpv' b0
  go_wp2_with fail
  refine hD.out.mono ?_
  rintro e w2 ⟨rfl,f2⟩
  have f12:Fr Λ Λ1 (mineS k) w w2:=hY.out.1.trans (f2.mono fun _ z=>z.elim)
  have hl2:=hY.out.2.2.fr f2 fun z=>z
  have hd2:=hX.out.1.fr f12 hσ
  have hr2:=hX.out.2.fr f12 hρv
  have d5:w2.cell? ⟨db,5,none⟩=some (.slice (some ⟨gv,0,none⟩) 26 cv):=hd2.cell h5
  have hZ:=hid' (And.intro f12 (And.intro (hY.out.2.1.fr f2 fun _ _ z=>z) (And.intro hl2 hr2)))
  clear f12 hl2 hd2 hr2 f2 hD hY hA
  go_wp2_with fail
  go_loopw [8,9] (fun v i wr=>∃ q:Nat,q<=26/\v=.int .i64 (cnt0 vs q:Nat)/\i=.int .i64 q/\wr=w2) (fun _ i _=>26 - (intOf i).toNat)
  case atStart=>exact ⟨0,by omega,by rw [cnt0_zero];rfl,rfl,rfl⟩
  case round=>
    obtain ⟨q,hq,rfl,rfl,rfl⟩:=hrel
    by_cases hlt:q<26
    · obtain ⟨x,hx⟩:∃ x,vs[q]? = some x:=⟨_,List.getElem?_eq_getElem (by omega)⟩
      have hwx:=hvs x (List.mem_of_getElem? hx)
      have x1:wr.cell? ⟨gv,q,none⟩=some (.int .i64 x):=hZ.out.2.2.2.cell rfl (by unfold riL;rw [List.getElem?_map,hx];rfl)
      have x2:wr.cell? ⟨g,q,none⟩=some (.int .i32 x):=hZ.out.2.2.1.cell rfl (by unfold rdL;rw [List.getElem?_map,hx];rfl)
      have hc:=cnt0_succ hx
      have hcl:=cnt0_le vs q
      by_cases h0:x=0
      · subst h0
        replace hc:cnt0 vs (q+1)=cnt0 vs q:=by rw [hc];simp
        go_wp2
        go_roundw
        all_goals first
          | exact ⟨q+1,by omega,by rw [hc],by go_num,trivial⟩
          | (simp [intOf];omega)
      · rw [if_neg h0] at hc
        go_wp2
        go_roundw
        all_goals first
          | exact ⟨q+1,by omega,by rw [hc];go_num,by go_num,trivial⟩
          | (simp [intOf];omega)
    · obtain rfl:q=26:=by omega
      go_wp2
      go_ret
      simp
      exact ⟨rfl,Λ1,hZ.out.1,hZ.out.2.1⟩
set_option maxHeartbeats 4000000 in
theorem lone_lawVals_no (hk:0<k)(hC:Clu w Λ k c N nt nb 0 sh tx bg D ss ts bs)
    (hpv:Calls Tryz.L 157 #[.pointer (some ⟨c,0,none⟩),.int .i64 t] (lawW w c m) (PValsOut (lawW w c m) (lawΛ w Λ) k c N nt nb D sh tx bg ss ts bs (List.replicate 26 0) 0))
    (hat:∀ u Λu,Fr Λ Λu (mineS k) w u->Calls Tryz.L 110 #[.pointer (some ⟨m,0,none⟩),.int .i64 t] u fun e w'=>e=.returned (.pointer none)/\Fr Λu Λu (fun _=>False) u w') :
    Calls Tryz.L 112 #[.agg #[.pointer (some ⟨c,0,none⟩),.pointer (some ⟨m,0,none⟩)],.int .i64 t] w (LawOut w Λ k c N nt nb D sh tx bg ss ts bs):=by
  have hst:=not_mineS hk
  have hA:=hid' hat
  have hbox:=hid' (law_box (w:=w) (Λ:=Λ) (c:=c) (m:=m))
  have hpv':=hid' hpv
  have b0:(lawW w c m).cell? ⟨w.heap.size,0,none⟩=some (.pointer (some ⟨c,0,none⟩)):=hbox.out.cell rfl
  clear hC hpv hat
  unfold lawW at b0
  go_enter LL.func112,Tryz.ntmps112
  go_wp2_with fail
  refine hpv'.out.mono ?_
  rintro e w1 ⟨g,Λ1,rfl,h1,h2,h3⟩
  have f1:Fr Λ Λ1 (mineS k) w w1:=(lawFr.mono fun _ z=>z.elim).trans h1
  have b1:w1.cell? ⟨w.heap.size,1,none⟩=some (.pointer (some ⟨m,0,none⟩)):=(hbox.out.fr h1 hst).cell rfl
  have hD:=hid' (hA.out w1 Λ1 f1)
  have hY:=hid' (And.intro f1 (And.intro h2 h3))
  clear h1 h2 h3 f1 hpv' b0
  go_wp2_with fail
  refine hD.out.mono ?_
  rintro e w2 ⟨rfl,f2⟩
  have f12:Fr Λ Λ1 (mineS k) w w2:=hY.out.1.trans (f2.mono fun _ z=>z.elim)
  have hl2:=hY.out.2.2.fr f2 fun z=>z
  have hZ:=hid' (And.intro f12 (And.intro (hY.out.2.1.fr f2 fun _ _ z=>z) hl2))
  clear f12 hl2 f2 hD hY hA
  go_wp2_with fail
  go_loopw [8,9] (fun v i wr=>∃ q:Nat,q<=26/\v=.int .i64 0/\i=.int .i64 q/\wr=w2) (fun _ i _=>26 - (intOf i).toNat)
  case atStart=>exact ⟨0,by omega,rfl,rfl,rfl⟩
  case round=>
    obtain ⟨q,hq,rfl,rfl,rfl⟩:=hrel
    by_cases hlt:q<26
    · have x2:wr.cell? ⟨g,q,none⟩=some (.int .i32 0):=hZ.out.2.2.cell rfl (by unfold rdL;rw [List.map_replicate,List.getElem?_replicate,if_pos hlt])
      go_wp2
      go_roundw
      all_goals first
        | exact ⟨q+1,by omega,by go_num,trivial⟩
        | exact ⟨q+1,by omega,rfl,by go_num,trivial⟩
        | (simp [intOf];omega)
    · obtain rfl:q=26:=by omega
      go_wp2
      go_ret
      simp
      exact ⟨rfl,Λ1,hZ.out.1,hZ.out.2.1⟩
end
end
section
def lkL (l:List (Int × Nat)):List Value:=l.flatMap fun p=>[.int .i64 p.1,.int .i64 p.2]
theorem lkL_get (l:List (Int × Nat))(i:Nat)(p:Int × Nat)(h:l[i]? = some p):(lkL l)[i*2]? = some (.int .i64 p.1)/\(lkL l)[i*2+1]? = some (.int .i64 p.2):=by
  induction l generalizing i with
  | nil=>simp at h
  | cons x l ih=>
    cases i with
    | zero=>
      simp at h
      subst h
      exact ⟨rfl,rfl⟩
    | succ i=>
      simp at h
      obtain ⟨h1,h2⟩:=ih i h
      have e:∀ j,(lkL (x :: l))[(i+1)*2+j]? = (lkL l)[i*2+j]?:=fun j=>by
        show ([Value.int .i64 x.1,.int .i64 x.2]++lkL l)[(i+1)*2+j]? = _
        rw [List.getElem?_append_right (by simp;omega)]
        congr 1
        simp
        omega
      exact ⟨(e 0).trans h1,(e 1).trans h2⟩
section
variable {w:World}{Λ:Lab}{k c m N nt nb D nl:Nat}{t:Int}{sh tx bg lkv:Value}{ss ts bs:List Value}{ls:List Int}{lk:List (Int × Nat)}
set_option maxHeartbeats 4000000 in
theorem lone_lawLocks_no (hk:0<k)
    (hpv:Calls Tryz.L 158 #[.pointer (some ⟨c,0,none⟩),.int .i64 t] (lawW w c m) (PLocksOut (lawW w c m) (lawΛ w Λ) k c N nt nb D sh tx bg ss ts bs ls 0))
    (hat:∀ u Λu,Fr Λ Λu (mineS k) w u->Calls Tryz.L 110 #[.pointer (some ⟨m,0,none⟩),.int .i64 t] u fun e w'=>e=.returned (.pointer none)/\Fr Λu Λu (fun _=>False) u w') :
    Calls Tryz.L 113 #[.agg #[.pointer (some ⟨c,0,none⟩),.pointer (some ⟨m,0,none⟩)],.int .i64 t] w (LawOut w Λ k c N nt nb D sh tx bg ss ts bs):=by
  have hst:=not_mineS hk
  have hA:=hid' hat
  have hbox:=hid' (law_box (w:=w) (Λ:=Λ) (c:=c) (m:=m))
  have hpv':=hid' hpv
  have b0:(lawW w c m).cell? ⟨w.heap.size,0,none⟩=some (.pointer (some ⟨c,0,none⟩)):=hbox.out.cell rfl
  clear hpv hat
  unfold lawW at b0
  go_enter LL.func113,Tryz.ntmps113
  go_wp2_with fail
  refine hpv'.out.mono ?_
  rintro e w1 ⟨g,Λ1,rfl,h1,h2,h3⟩
  have f1:Fr Λ Λ1 (mineS k) w w1:=(lawFr.mono fun _ z=>z.elim).trans h1
  have b1:w1.cell? ⟨w.heap.size,1,none⟩=some (.pointer (some ⟨m,0,none⟩)):=(hbox.out.fr h1 hst).cell rfl
  have hD:=hid' (hA.out w1 Λ1 f1)
  have hY:=hid' (And.intro f1 (And.intro h2 h3))
  clear h1 h2 h3 f1 hpv' b0
  go_wp2_with fail
  refine hD.out.mono ?_
  rintro e w2 ⟨rfl,f2⟩
  have hZ:=hid' (And.intro (hY.out.1.trans (f2.mono fun _ z=>z.elim)) (hY.out.2.1.fr f2 fun _ _ z=>z))
  clear f2 hD hY hA
  go_wp2
  go_ret
  exact ⟨rfl,Λ1,hZ.out.1,hZ.out.2⟩
set_option maxHeartbeats 4000000 in
theorem lone_lawLocks_yes {σ ρl:Role}{db:Nat}{dcells:Array Value}{fd:Nat × Nat}(hk:0<k)
    (hpv:Calls Tryz.L 158 #[.pointer (some ⟨c,0,none⟩),.int .i64 t] (lawW w c m) (PLocksOut (lawW w c m) (lawΛ w Λ) k c N nt nb D sh tx bg ss ts bs ls nl))
    (hat:∀ u Λu,Fr Λ Λu (mineS k) w u->Calls Tryz.L 110 #[.pointer (some ⟨m,0,none⟩),.int .i64 t] u fun e w'=>e=.returned (.pointer (some ⟨db,0,none⟩))/\Fr Λu Λu (fun _=>False) u w')
    (hdb:At w Λ σ db (.cells dcells 59 fd)) (hσ:¬ mineS k σ) (h6:dcells[6]? = some lkv) (hrl:Row w Λ ρl 250 2 lkv nl (lkL lk)) (hll:lk.length=nl) (hρl:¬ mineS k ρl) (hls:∀ p ∈ lk,∃ j:Nat,j<26/\p.1=97+j/\ls[j]? = some (p.2:Int)) (hnl:nl<=1048576) :
    Calls Tryz.L 113 #[.agg #[.pointer (some ⟨c,0,none⟩),.pointer (some ⟨m,0,none⟩)],.int .i64 t] w (LawOut w Λ k c N nt nb D sh tx bg ss ts bs):=by
  have hst:=not_mineS hk
  have hX:=hid' (And.intro hdb hrl)
  have hA:=hid' hat
  have hbox:=hid' (law_box (w:=w) (Λ:=Λ) (c:=c) (m:=m))
  have hpv':=hid' hpv
  have b0:(lawW w c m).cell? ⟨w.heap.size,0,none⟩=some (.pointer (some ⟨c,0,none⟩)):=hbox.out.cell rfl
  obtain ⟨lo,lc,rfl⟩:=hrl.slice
  clear hpv hat hdb hrl
  unfold lawW at b0
  go_enter LL.func113,Tryz.ntmps113
  go_wp2_with fail
  refine hpv'.out.mono ?_
  rintro e w1 ⟨g,Λ1,rfl,h1,h2,h3⟩
  have f1:Fr Λ Λ1 (mineS k) w w1:=(lawFr.mono fun _ z=>z.elim).trans h1
  have b1:w1.cell? ⟨w.heap.size,1,none⟩=some (.pointer (some ⟨m,0,none⟩)):=(hbox.out.fr h1 hst).cell rfl
  have hD:=hid' (hA.out w1 Λ1 f1)
  have hY:=hid' (And.intro f1 (And.intro h2 h3))
  clear h1 h2 h3 f1 hpv' b0
  go_wp2_with fail
  refine hD.out.mono ?_
  rintro e w2 ⟨rfl,f2⟩
  have f12:Fr Λ Λ1 (mineS k) w w2:=hY.out.1.trans (f2.mono fun _ z=>z.elim)
  have hl2:=hY.out.2.2.fr f2 fun z=>z
  have hd2:=hX.out.1.fr f12 hσ
  have hr2:=hX.out.2.fr f12 hρl
  have hZ:=hid' (And.intro f12 (And.intro (hY.out.2.1.fr f2 fun _ _ z=>z) (And.intro hl2 (And.intro hr2 hd2))))
  clear f12 hl2 hd2 hr2 f2 hD hY hA
  go_wp2_with fail
  go_loopw [8] (fun i wr=>∃ q:Nat,q<=nl/\i=.int .i64 q/\wr.heap=w2.heap/\wr.os=w2.os) (fun i _=>nl - (intOf i).toNat)
  case atStart=>exact ⟨0,by omega,rfl,rfl,rfl⟩
  case round=>
    obtain ⟨q,hq,rfl,hh,ho⟩:=hrel
    have fr:Fr Λ1 Λ1 (fun _=>False) w2 wr:=Fr.same hh ho
    have d6:wr.cell? ⟨db,6,none⟩=some (.slice lo nl lc):=(hZ.out.2.2.2.2.fr fr fun z=>z).cell h6
    by_cases hlt:q<nl
    · obtain ⟨gl,cl,hgl,_⟩:=hZ.out.2.2.2.1.some (by omega)
      cases hgl
      obtain ⟨p,hp⟩:∃ p,lk[q]? = some p:=⟨_,List.getElem?_eq_getElem (by omega)⟩
      obtain ⟨j,hj,hpj,hlj⟩:=hls p (List.mem_of_getElem? hp)
      obtain ⟨g1,g2⟩:=lkL_get lk q p hp
      rw [hpj] at g1
      have x1:=(hZ.out.2.2.2.1.fr fr fun z=>z).cell rfl g1
      have x2:=(hZ.out.2.2.2.1.fr fr fun z=>z).cell rfl g2
      have x3:wr.cell? ⟨g,j,none⟩=some (.int .i64 p.2):=(hZ.out.2.2.1.fr fr fun z=>z).cell rfl (by unfold riL;rw [List.getElem?_map,hlj];rfl)
      have hwk:IntKind.i64.wrap (97+(j:Int) - 97)=j:=by rw [IntKind.wrap_i64] <;> omega
      have hH:=hid' (And.intro hh ho)
      clear hh ho fr g1 g2
      go_wp2_with fail
      go_quiet (fail)
      go_wp2
      go_roundw
      all_goals first
        | exact ⟨q+1,by omega,by go_num,hH.out.1,hH.out.2⟩
        | (simp [intOf];omega)
    · obtain rfl:q=nl:=by omega
      have hH:=hid' fr
      clear hh ho fr
      go_wp2
      go_ret
      exact ⟨rfl,Λ1,hZ.out.1.trans (hH.out.mono fun _ z=>z.elim),hZ.out.2.1.fr hH.out fun _ _ z=>z⟩
end
end
section
section
variable {w:World}{Λ:Lab}{k ks c m N nt nb D b bc bi ba bg' i:Nat}{t:Int}{sh tx bg x:Value}{ss ts bs':List Value}
set_option maxHeartbeats 2000000 in
theorem lone_recs1_no (hC:Clu w Λ k c N nt nb 1 sh tx bg D ss ts bs')(hbc:At w Λ still bc (.cells #[.pointer (some ⟨c,0,none⟩)] 23))(hbi:At w Λ still bi (.cells #[.int .i64 t] 3))(ht:¬ (0<=t/\t<N)) :
    Calls Tryz.L 204 #[.pointer (some ⟨bc,0,none⟩),.pointer (some ⟨bi,0,none⟩),.pointer (some ⟨ba,0,none⟩),.pointer (some ⟨bg',0,none⟩)] w fun e w'=>e=.returned (.tuple #[])/\Fr Λ Λ (fun _=>False) w w':=by
  obtain ⟨os,cs,rfl⟩:=hC.shards.slice
  have c1:w.cell? ⟨bc,0,none⟩=some (.pointer (some ⟨c,0,none⟩)):=hbc.cell rfl
  have c2:w.cell? ⟨bi,0,none⟩=some (.int .i64 t):=hbi.cell rfl
  have c5:w.cell? ⟨c,2,none⟩=some (.slice os N cs):=hC.blk.cell rfl
  have hh:∀ u:World,u.cell? ⟨c,2,none⟩=some (.slice os N cs)->Calls Tryz.L 156 #[.pointer (some ⟨c,0,none⟩),.int .i64 t] u fun e w'=>e=.returned (.bool false)/\w'=u:=fun u hu=>by
    have:=lone_hasShard (w:=u) (c:=c) (t:=t) (o:=os) (N:=N) (cp:=cs) hu
    rwa [decide_eq_false ht] at this
  have hh':=hid' hh
  clear hC hh ht hbc hbi
  go_enter LL.func204,Tryz.ntmps204
  go_wp2_with (go_at_call 156;refine (hh'.out _ (by assumption)).mono ?_;rintro e w' ⟨rfl,rfl⟩)
  exact ⟨rfl,.tuple #[],results_none rfl _ _ _,rfl,Fr.same rfl rfl⟩
set_option maxHeartbeats 4000000 in
theorem lone_recs1_new {σ:Role}{a n:Int}{mm W R:Nat}{fz:Nat × Nat}(hk:0<k)(hC:Clu w Λ k c N nt nb 1 sh tx bg D ss ts bs')(hbc:At w Λ still bc (.cells #[.pointer (some ⟨c,0,none⟩)] 23))(hbi:At w Λ still bi (.cells #[.int .i64 i] 3))(hbg:At w Λ slip bg' (.cells #[.int .i64 0] 3))(hi:i<N)(hN:N<=4)(hs:ss[i]? = some (.pointer (some ⟨b,0,none⟩)))(hb:At w Λ σ b (.cells (newCells a n mm W R) 154 fz))(hσ:σ≠slip) :
    Calls Tryz.L 204 #[.pointer (some ⟨bc,0,none⟩),.pointer (some ⟨bi,0,none⟩),.pointer (some ⟨ba,0,none⟩),.pointer (some ⟨bg',0,none⟩)] w fun e w'=>e=.returned (.tuple #[])/\Fr Λ Λ (· = slip) w w'/\(∀ x o,x≠bg'->At w Λ slip x o->At w' Λ slip x o)/\At w' Λ slip bg' (.cells #[.int .i64 0] 3):=by
  obtain ⟨g,cs,rfl,_⟩:=hC.shards.some (by omega)
  have c1:w.cell? ⟨bc,0,none⟩=some (.pointer (some ⟨c,0,none⟩)):=hbc.cell rfl
  have c2:w.cell? ⟨bi,0,none⟩=some (.int .i64 i):=hbi.cell rfl
  have c3:w.cell? ⟨bg',0,none⟩=some (.int .i64 0):=hbg.cell rfl
  have c4:w.frozen? ⟨bg',0,none⟩=false:=hbg.thaw (by simp)
  have c5:w.cell? ⟨c,2,none⟩=some (.slice (some ⟨g,0,none⟩) N cs):=hC.blk.cell rfl
  have c6:w.cell? ⟨g,i,none⟩=some (.pointer (some ⟨b,0,none⟩)):=hC.shards.cell rfl hs
  have c7:w.cell? ⟨b,3,none⟩=some (.slice none 0 0):=hb.cell rfl
  have c8:w.cell? ⟨b,4,none⟩=some (.int .i64 0):=hb.cell rfl
  have hh:∀ u:World,u.cell? ⟨c,2,none⟩=some (.slice (some ⟨g,0,none⟩) N cs)->Calls Tryz.L 156 #[.pointer (some ⟨c,0,none⟩),.int .i64 i] u fun e w'=>e=.returned (.bool true)/\w'=u:=fun u hu=>by
    have:=lone_hasShard (w:=u) (c:=c) (t:=i) (o:=some ⟨g,0,none⟩) (N:=N) (cp:=cs) hu
    rwa [decide_eq_true (by omega)] at this
  have hh':=hid' hh
  have m1:bc≠bg':=hbc.ne hbg (by decide)
  have m3:bi≠bg':=hbi.ne hbg (by decide)
  have m5:c≠bg':=hC.blk.ne hbg (ne_of_fst (by simp [slip];omega))
  have m7:g≠bg':=fun e=>ne_of_fst (a:=(k,1,0)) (b:=slip) (by simp [slip];omega) (by rw [← hC.shards.lab g rfl,e,hbg.lab])
  have m8:b≠bg':=hb.ne hbg hσ
  have hX:=hid' hbg
  clear hC hh hbc hbi hbg hs hb
  go_enter LL.func204,Tryz.ntmps204
  go_wp2_with (go_at_call 156;refine (hh'.out _ (by assumption)).mono ?_;rintro e w' ⟨rfl,rfl⟩)
  go_quiet (fail)
  go_wp2_with fail
  refine wp_loop_rounds 1 ?_
  rw [rounds_succ]
  go_wp2_with fail
  go_region_held3 (fun u=>u.cell? ⟨bc,0,none⟩=some (.pointer (some ⟨c,0,none⟩))/\u.cell? ⟨bi,0,none⟩=some (.int .i64 i)/\u.cell? ⟨c,2,none⟩=some (.slice (some ⟨g,0,none⟩) N cs)/\u.cell? ⟨g,i,none⟩=some (.pointer (some ⟨b,0,none⟩))/\u.cell? ⟨b,4,none⟩=some (.int .i64 0)) (first|go_keep|(refine ⟨?_,?_,?_,?_,?_⟩ <;> ((repeat rw [World.cell?_setCell_other _ _ _ _ (by intro z;injection z with z1;omega)]) ;assumption))) (fail)
  go_end0
  have f1:Fr Λ Λ (fun _=>False) w' (w'.drewN (nq+1)):=Fr.same rfl rfl
  exact ⟨rfl,(f1.mono fun _ z=>z.elim).trans (Fr.set' (M:=(· = slip)) hX.out.lab),fun x o hx h=>(h.fr f1 fun z=>z).setNe hx,(hX.out.fr f1 fun z=>z).set 0 _⟩
noncomputable def recsW (w:World) (c:Nat) (t:Int):World:=((metW w c t).alloc (.cells #[.slice none 0 0] 251)).alloc (.cells #[.int .i64 0] 3)
theorem recsFr:Fr Λ (resΛ w Λ) (fun _=>False) w (recsW w c t):=by
  refine (((metFr (w:=w) (Λ:=Λ)).alloc _).alloc _).relab fun x hx=>?_
  show (if _ then _ else _)=_
  rw [if_neg (by omega)]
theorem recs_keep {ρ:Role}{x:Nat}{o:Obj}(h:At (metW w c t) (metΛ w Λ) ρ x o):At (recsW w c t) (resΛ w Λ) ρ x o:=by
  have hlt:=h.lt
  rw [metW_size] at hlt
  refine ⟨?_,?_⟩
  · unfold recsW
    rw [alloc_get,if_neg (by rw [alloc_size,metW_size];omega),alloc_get,if_neg (by rw [metW_size];omega)]
    exact h.obj
  · show (if _ then _ else _)=_
    rw [if_neg (by omega)]
    exact h.lab
theorem recs_ba:At (recsW w c t) (resΛ w Λ) slip (w.heap.size+1+1) (.cells #[.slice none 0 0] 251):=by
  refine ⟨?_,?_⟩
  · unfold recsW
    rw [alloc_get,if_neg (by rw [alloc_size,metW_size];omega),alloc_get,if_pos (by rw [metW_size])]
  · show (if _ then _ else _)=_
    rw [if_pos (.inl rfl)]
theorem recs_bg:At (recsW w c t) (resΛ w Λ) slip (w.heap.size+1+1+1) (.cells #[.int .i64 0] 3):=by
  refine ⟨?_,?_⟩
  · unfold recsW
    rw [alloc_get,if_pos (by rw [alloc_size,metW_size])]
  · show (if _ then _ else _)=_
    rw [if_pos (.inr rfl)]
def RecsNone (w:World) (Λ:Lab) (k c N nt nb D:Nat) (sh tx bg:Value) (ss ts bs:List Value) (e:Ending) (w':World):Prop:=
  e=.returned (.tuple #[.slice none 0 0,.int .i64 0])/\∃ Λ',Fr Λ Λ' (mineS k) w w'/\Clu w' Λ' k c N nt nb 0 sh tx bg D ss ts bs
theorem scr_slip:scr slip:=⟨rfl,Nat.succ_ne_zero 1⟩
set_option maxHeartbeats 1000000 in
theorem lone_Records_none (hk:0<k)(hks:0<ks)(hC:Clu w Λ k c N nt nb 0 sh tx bg D ss ts bs')(hS:ShdsE w Λ ks N ss)(hkk:ks≠k)(hN:N<=4) :
    Calls Tryz.L 159 #[.pointer (some ⟨c,0,none⟩),.int .i64 t] w (RecsNone w Λ k c N nt nb D sh tx bg ss ts bs'):=by
  have e1:¬ (still=((k,0,0):Role)):=ne_of_fst (by simp [still];omega)
  have e2:¬ (slip=((k,0,0):Role)):=ne_of_fst (by simp [slip];omega)
  have hI:=hid' (lone_asksS (v:=recsW w c t) (Λ:=resΛ w Λ) (cap:=#[.pointer (some ⟨w.heap.size,0,none⟩),.pointer (some ⟨w.heap.size+1,0,none⟩),.pointer (some ⟨w.heap.size+1+1,0,none⟩),.pointer (some ⟨w.heap.size+1+1+1,0,none⟩)]) (R:=fun w2 Λ2=>At w2 Λ2 slip (w.heap.size+1+1) (.cells #[.slice none 0 0] 251)/\At w2 Λ2 slip (w.heap.size+1+1+1) (.cells #[.int .i64 0] 3)) LL.call204 (hC.fr recsFr fun _ _ z=>z)
    (fun w1 f1 hC1=>by
      have h0:=(recs_keep (w:=w) (c:=c) (t:=t) met_bc).fr f1 e1
      have h1:=(recs_keep (w:=w) (c:=c) (t:=t) met_bi).fr f1 e1
      have h2:=(recs_ba (w:=w) (Λ:=Λ) (c:=c) (t:=t)).fr f1 e2
      have h3:=(recs_bg (w:=w) (Λ:=Λ) (c:=c) (t:=t)).fr f1 e2
      by_cases ht:0<=t/\t<N
      · obtain ⟨i,rfl⟩:∃ i:Nat,t=i:=⟨t.toNat,by omega⟩
        have hi:i<N:=by omega
        obtain ⟨b,m,W,R,fz,hs,hE⟩:=(hS.fr (recsFr (w:=w) (c:=c) (t:=i)) fun _ _ z=>z).fr f1 (fun r hr z=>by rw [z] at hr;exact hkk hr.symm) i hi
        refine (lone_recs1_new hk hC1 h0 h1 h3 hi hN hs hE.blk (ne_of_fst (by simp [slip];omega))).mono ?_
        rintro e w' ⟨rfl,k1,k2,k3⟩
        exact ⟨rfl,_,k1.mono fun r h=>by subst h;exact scr_slip,k2 _ _ (by omega) h2,k3⟩
      · exact (lone_recs1_no hC1 h0 h1 ht).mono fun e w' ⟨k1,k2⟩=>⟨k1,_,k2.mono fun _ z=>z.elim,h2.fr k2 fun z=>z,h3.fr k2 fun z=>z⟩) hk)
  clear hC hS
  go_enter LL.func159,Tryz.ntmps159
  go_wp2_with fail
  refine hI.out.mono ?_
  rintro e w' ⟨rfl,w2,Λ2,⟨h1,h2⟩,h4,h5,h6,fc⟩
  have a1:=h1.fr fc e2
  have a2:=h2.fr fc e2
  have k1:w'.cell? ⟨w.heap.size+1+1,0,none⟩=some (.slice none 0 0):=a1.cell rfl
  have k2:w'.cell? ⟨w.heap.size+1+1+1,0,none⟩=some (.int .i64 0):=a2.cell rfl
  have hX:=hid' (And.intro h4 (And.intro h6 fc))
  clear h1 h2 h4 h5 h6 fc a1 a2 hI
  go_wp2_with fail
  go_quiet (fail)
  go_wp2
  go_ret2
  have f0:∀ j,Fr Λ2 Λ2 (fun _=>False) w' (w'.drewN j):=fun j=>Fr.same rfl rfl
  exact ⟨rfl,Λ2,((recsFr.mono fun _ z=>z.elim).trans (hX.out.1.trans (hX.out.2.2.mono fun r h=>.inl (by rw [h])))).trans ((f0 _).mono fun _ z=>z.elim),hX.out.2.1.fr (f0 _) fun _ _ z=>z⟩
set_option maxHeartbeats 4000000 in
theorem lone_lawRecs {dv:Value}(hk:0<k)(hC:Clu w Λ k c N nt nb 0 sh tx bg D ss ts bs')
    (hat:∀ u Λu,Fr Λ Λu (mineS k) w u->Calls Tryz.L 110 #[.pointer (some ⟨m,0,none⟩),.int .i64 t] u fun e w'=>e=.returned dv/\Fr Λu Λu (fun _=>False) u w')
    (hdv:dv=.pointer none∨∃ σ db dcells fd,dv=.pointer (some ⟨db,0,none⟩)/\At w Λ σ db (.cells dcells 59 fd)/\¬ mineS k σ/\dcells[3]? = some (.slice none 0 0)/\dcells[4]? = some (.int .i64 0))
    (hrec:∀ u Λu,Fr Λ Λu (mineS k) w u->Clu u Λu k c N nt nb 0 sh tx bg D ss ts bs'->Calls Tryz.L 159 #[.pointer (some ⟨c,0,none⟩),.int .i64 t] u (RecsNone u Λu k c N nt nb D sh tx bg ss ts bs')) :
    Calls Tryz.L 114 #[.agg #[.pointer (some ⟨c,0,none⟩),.pointer (some ⟨m,0,none⟩)],.int .i64 t] w (LawOut w Λ k c N nt nb D sh tx bg ss ts bs'):=by
  have hst:=not_mineS hk
  have hA:=hid' (hat (lawW w c m) (lawΛ w Λ) (lawFr.mono fun _ z=>z.elim))
  have hbox:=hid' (law_box (w:=w) (Λ:=Λ) (c:=c) (m:=m))
  have hR:=hid' hrec
  have hC':=hid' hC
  have b1:(lawW w c m).cell? ⟨w.heap.size,1,none⟩=some (.pointer (some ⟨m,0,none⟩)):=hbox.out.cell rfl
  clear hC hat hrec
  rcases hdv with rfl|⟨σ,db,dcells,fd,rfl,hdb,hσ,hd3,hd4⟩
  · unfold lawW at b1
    go_enter LL.func114,Tryz.ntmps114
    go_wp2_with fail
    refine hA.out.mono ?_
    rintro e w1 ⟨rfl,h1⟩
    have f1:Fr Λ (lawΛ w Λ) (mineS k) w w1:=(lawFr.trans h1).mono fun _ z=>z.elim
    have b0:w1.cell? ⟨w.heap.size,0,none⟩=some (.pointer (some ⟨c,0,none⟩)):=(hbox.out.fr h1 fun z=>z).cell rfl
    have hQ:=hid' (hR.out w1 (lawΛ w Λ) f1 (hC'.out.fr (lawFr.trans h1) fun _ _ z=>z))
    have hf1:=hid' f1
    clear h1 f1 hA b1
    go_wp2_with fail
    refine wp_loop_rounds 1 ?_
    rw [rounds_succ]
    go_wp2_with fail
    refine hQ.out.mono ?_
    rintro e w2 ⟨rfl,Λ2,h1,h2⟩
    have hZ:=hid' (And.intro (hf1.out.trans h1) h2)
    clear h1 h2 hQ
    go_wp2
    go_ret
    exact ⟨rfl,Λ2,hZ.out.1,hZ.out.2⟩
  · have hX:=hid' hdb
    clear hdb
    unfold lawW at b1
    go_enter LL.func114,Tryz.ntmps114
    go_wp2_with fail
    refine hA.out.mono ?_
    rintro e w1 ⟨rfl,h1⟩
    have f1:Fr Λ (lawΛ w Λ) (mineS k) w w1:=(lawFr.trans h1).mono fun _ z=>z.elim
    have hb1:=hid' (hbox.out.fr h1 fun z=>z)
    have hC1:=hid' (hC'.out.fr (lawFr.trans h1) fun _ _ z=>z)
    have hf1:=hid' f1
    clear h1 f1 hA b1 hC' hbox
    go_wp2_with fail
    go_loopw [6] (fun i wr=>∃ (r:Nat) (Λr:Lab),r<=2/\i=.int .i64 r/\Fr (lawΛ w Λ) Λr (mineS k) w1 wr/\Clu wr Λr k c N nt nb 0 sh tx bg D ss ts bs') (fun i _=>2 - (intOf i).toNat)
    case atStart=>exact ⟨0,_,by omega,rfl,Fr.refl _ _ _,hC1.out⟩
    case round=>
      obtain ⟨r,Λr,hr2,rfl,hFr,hCr⟩:=hrel
      have b0:wr.cell? ⟨w.heap.size,0,none⟩=some (.pointer (some ⟨c,0,none⟩)):=(hb1.out.fr hFr hst).cell rfl
      have hS:=hid' (hR.out wr Λr (hf1.out.trans hFr) hCr)
      have hZ:=hid' (And.intro hFr hCr)
      clear hFr hCr
      by_cases hlt:r<2
      · go_wp2_with fail
        refine hS.out.mono ?_
        rintro e w3 ⟨rfl,Λ3,h3,h4⟩
        have hd:=hX.out.fr ((hf1.out.trans hZ.out.1).trans h3) hσ
        have d3:w3.cell? ⟨db,3,none⟩=some (.slice none 0 0):=hd.cell hd3
        have d4:w3.cell? ⟨db,4,none⟩=some (.int .i64 0):=hd.cell hd4
        have hQ:=hid' (And.intro (hZ.out.1.trans h3) h4)
        clear h3 h4 hS hd b0
        go_wp2_with fail
        refine wp_loop_rounds 1 ?_
        rw [rounds_succ]
        go_wp2
        go_roundw
        all_goals first
          | exact ⟨r+1,Λ3,by omega,by go_num,hQ.out.1,hQ.out.2⟩
          | (simp [intOf];omega)
      · go_wp2_with fail
        go_ret
        exact ⟨rfl,Λr,hf1.out.trans hZ.out.1,hZ.out.2⟩
end
end
end Go.Proofs.Shardlog
namespace Go.Proofs.Shardlog
open Go Go.Conc Go.Tame Go.Proofs Go.RowKit
section
abbrev docCells (i N:Int) (vb:Nat):Array Value:=#[.int .i64 i,.int .i64 N,.bool true,.slice none 0 0,.int .i64 0,.slice (some ⟨vb,0,none⟩) 26 26,.slice none 0 0,.slice none 0 0,.slice none 0 0,.slice none 0 0,.int .i64 0,.slice none 0 0]
def RS (w:World) (i N s:Nat):Prop:=w.heap[s]? = some (.cells (docCells i N (s+1)) 59 (0,0))/\∃ cur,w.heap[s+1]? = some (.cells cur 3 (0,0))/\cur.toList=riL (List.replicate 26 0)
theorem RS.keep {w w':World}{i N s:Nat}(h:RS w i N s)(h1:w'.heap[s]? = w.heap[s]?)(h2:w'.heap[s+1]? = w.heap[s+1]?):RS w' i N s:=by
  obtain ⟨k1,cur,k2,k3⟩:=h
  exact ⟨h1.trans k1,cur,h2.trans k2,k3⟩
theorem RS.lt {w:World}{i N s:Nat}(h:RS w i N s):s<w.heap.size/\s+1<w.heap.size:=by
  obtain ⟨k1,cur,k2,_⟩:=h
  exact ⟨(Array.getElem?_eq_some_iff.1 k1).1,(Array.getElem?_eq_some_iff.1 k2).1⟩
theorem RS.away {w:World}{i N s base n:Nat}{sh:Value}{xs:List Value}(h:RS w i N s)(hr:w.ownsRow base 52 1 sh n xs){x:Nat}(hx:sh.ownBlock=some x):s≠x/\s+1≠x:=by
  obtain ⟨k1,cur,k2,_⟩:=h
  rcases hr.2 with ⟨rfl,_⟩|⟨g,cap,cur',rfl,_,h4,_⟩
  · cases hx
  · cases hx
    constructor
    · intro e
      rw [e,h4] at k1
      cases k1
    · intro e
      rw [e,h4] at k2
      cases k2
section
variable {w:World}{s:Nat}
theorem forgot_self {u:World}{i N vb:Nat}{z:Value}(h:u.heap[s]? = some (.cells (shardCells i N) 59 (0,0)))(hz:z=.slice (some ⟨vb,0,none⟩) 26 26):(Forgot u s z).heap[s]? = some (.cells (docCells i N vb) 59 (0,0)):=by
  subst hz
  have a0:Mem.At u (fun _=>Mem.still) Mem.still s (.cells (shardCells i N) 59 (0,0)):=⟨h,rfl⟩
  have a:=(((((a0.set 5 (.slice (some ⟨vb,0,none⟩) 26 26)).set 6 (.slice none 0 0)).set 7 (.slice none 0 0)).set 8 (.slice none 0 0)).set 9 (.slice none 0 0)).set 10 (.int .i64 0)
  exact a.obj
set_option maxHeartbeats 4000000 in
theorem lone_refNewS (N:Nat)(h1:1<=N)(h4:N<=4):Calls Tryz.L 16 #[.int .i64 N] w fun e w'=>∃ m sh ss,e=.returned (.tuple #[.pointer (some ⟨m,0,none⟩),.int .i64 0])/\NewRef w w' m N sh ss/\ss.length=N/\∀ i s,ss[i]? = some s->m<s/\RS w' i N s:=by
  obtain ⟨i52,t1,t2,t3,t4⟩:=slot52
  go_enter LL.func16,Tryz.ntmps16
  go_wp2_with fail
  go_loopw [5] (fun i wr=>∃ (k:Nat) (sh:Value) (ss:List Nat),k<=N/\i=.int .i64 k/\NewRef w wr w.heap.size k sh ss/\ss.length=k/\∀ i s,ss[i]? = some s->w.heap.size<s/\RS wr i N s) (fun i _=>N - (intOf i).toNat)
  case atStart=>
    refine ⟨0,.slice none 0 0,[],by omega,rfl,⟨?_,World.ownsRow_nil _ _ _ _,(Grown.refl w).alloc' _,Nat.le_refl _⟩,rfl,fun i s h=>by simp at h⟩
    rw [alloc_get',if_pos rfl]
  case round=>
    obtain ⟨k,sh,ss,hk,rfl,hn,hsl,hrs⟩:=hrel
    by_cases hlt:k<N
    · have hml:w.heap.size<wr.heap.size:=(Array.getElem?_eq_some_iff.1 hn.cell).1
      have hs0:(wr.alloc (Obj.cells (shardCells k N) 59)).heap[wr.heap.size]? = some (Obj.cells (shardCells k N) 59 (0,0)):=by
        rw [alloc_get',if_pos rfl]
      go_wp2_with fail
      refine (lone_forget hs0).mono ?_
      rintro e w2 ⟨rfl,w1,hg1,hrow1,rfl⟩
      have hm2:(Forgot w1 wr.heap.size (.slice (some ⟨(wr.alloc (Obj.cells (shardCells k N) 59)).heap.size,0,none⟩) 26 26)).heap[w.heap.size]? = some (.cells #[sh,.slice none 0 0,.slice none 0 0,.bool false] 51 (0,0)):=by
        rw [forgot_ne (by omega),hg1.block _ (by rw [alloc_size];omega) (by simp),alloc_get',if_neg (by omega)]
        exact hn.cell
      have hgr2:Grown w (Forgot w1 wr.heap.size (.slice (some ⟨(wr.alloc (Obj.cells (shardCells k N) 59)).heap.size,0,none⟩) 26 26)):=by
        have g1:Grown w w1:=(hn.grown.alloc' _).by hg1 (fun x hx=>by cases hx)
        refine ⟨by rw [forgot_size];exact g1.size,fun x hx=>?_,(forgot_os _ _).trans g1.os⟩
        rw [forgot_ne (by omega)]
        exact g1.heap x hx
      have hown2:(Forgot w1 wr.heap.size (.slice (some ⟨(wr.alloc (Obj.cells (shardCells k N) 59)).heap.size,0,none⟩) 26 26)).ownsRow (w.heap.size+1) 52 1 sh k (ss.map fun s=>.pointer (some ⟨s,0,none⟩)):=
        own_more hn.row (Nat.le_refl _) fun x hx=>by
          have:=(hn.row.lt x hx).2
          rw [forgot_ne (by omega),hg1.block _ (by rw [alloc_size];omega) (by simp),alloc_get',if_neg (by omega)]
      have hrs2:∀ i s,(ss ++ [wr.heap.size])[i]? = some s->w.heap.size<s/\RS (Forgot w1 wr.heap.size (.slice (some ⟨(wr.alloc (Obj.cells (shardCells k N) 59)).heap.size,0,none⟩) 26 26)) i N s:=fun i s hs=>by
        by_cases hi:i<ss.length
        · rw [List.getElem?_append_left hi] at hs
          obtain ⟨h1,h2⟩:=hrs i s hs
          have hl2:=h2.lt
          refine ⟨h1,h2.keep ?_ ?_⟩
          · rw [forgot_ne (by omega),hg1.block _ (by rw [alloc_size];omega) (by simp),alloc_get',if_neg (by omega)]
          · rw [forgot_ne (by omega),hg1.block _ (by rw [alloc_size];omega) (by simp),alloc_get',if_neg (by omega)]
        · rw [List.getElem?_append_right (by omega)] at hs
          obtain ⟨h1,h2⟩:i - ss.length=0/\wr.heap.size=s:=by
            cases he:i - ss.length with
            | zero=>rw [he] at hs;simp at hs;exact ⟨rfl,hs⟩
            | succ j=>rw [he] at hs;simp at hs
          subst h2
          obtain rfl:i=k:=by omega
          refine ⟨hml,forgot_self (vb:=wr.heap.size+1) ?_ (by rw [alloc_size]),?_⟩
          · rw [hg1.block _ (by rw [alloc_size];omega) (by simp)]
            exact hs0
          · rcases hrow1.2 with ⟨z,_⟩|⟨g,cap,cur,z,_,h4,_,_,h7,h8⟩
            · cases z
            · cases z
              rw [alloc_size] at h4
              refine ⟨cur,?_,?_⟩
              · rw [forgot_ne (by omega)]
                exact h4
              · rw [List.take_of_length_le (by rw [Array.length_toList];omega)] at h8
                rw [h8]
                kernel_rfl
      have hsz2:(Forgot w1 wr.heap.size (.slice (some ⟨(wr.alloc (Obj.cells (shardCells k N) 59)).heap.size,0,none⟩) 26 26)).heap.size=w1.heap.size:=forgot_size _ _
      have hw2:=hg1.size
      rw [alloc_size,← hsz2] at hw2
      clear hsz2 hs0 hrs
      generalize Forgot w1 wr.heap.size _=w2 at *
      clear hg1 hrow1
      have hc0:w2.cell? ⟨w.heap.size,0,none⟩=some sh:=by
        unfold World.cell?
        rw [hm2]
        rfl
      have hf0:w2.frozen? ⟨w.heap.size,0,none⟩=false:=by
        unfold World.frozen?
        rw [hm2]
        simp
      have hnews:∀ j u,[Value.pointer (some ⟨wr.heap.size,0,none⟩)][j]? = some u->(w2.alloc (Obj.cells #[Value.pointer (some ⟨wr.heap.size,0,none⟩)] 52)).cell? ((⟨w2.heap.size,0,none⟩:Addr).add j)=some u:=fun j u hu=>(made_cell w2 _ 52 j).trans (by simpa using hu)
      have hone:∀ u ∈ [Value.pointer (some ⟨wr.heap.size,0,none⟩)],u.oneCell'=true:=by simp [Value.oneCell']
      have hmx:k+1<=maxLen:=by simp only [maxLen];omega
      have hby:(k+1)*8<=140737488355328:=by omega
      have hbs:w.heap.size+1<=(w2.alloc (Obj.cells #[Value.pointer (some ⟨wr.heap.size,0,none⟩)] 52)).heap.size:=by
        rw [alloc_size]
        omega
      have after:∀ w3 v',w3.ownsRow (w.heap.size+1) 52 1 v' (k+1) (ss.map (fun s=>Value.pointer (some ⟨s,0,none⟩)) ++ [.pointer (some ⟨wr.heap.size,0,none⟩)])->(w2.alloc (Obj.cells #[Value.pointer (some ⟨wr.heap.size,0,none⟩)] 52)).grownBy w3 sh.ownBlock ->
          (∃ o m p,v'=.slice o m p)/\w3.cell? ⟨w.heap.size,0,none⟩=some sh/\w3.frozen? ⟨w.heap.size,0,none⟩=false/\NewRef w (w3.setCell ⟨w.heap.size,0,none⟩ v') w.heap.size (k+1) v' (ss ++ [wr.heap.size])/\∀ i s,(ss ++ [wr.heap.size])[i]? = some s->w.heap.size<s/\RS (w3.setCell ⟨w.heap.size,0,none⟩ v') i N s:=fun w3 v' hrow hgr=>by
        have hne:∀ x,sh.ownBlock=some x->w.heap.size+1<=x:=fun x hx=>(hown2.lt x hx).1
        have hm3:w3.heap[w.heap.size]? = some (.cells #[sh,.slice none 0 0,.slice none 0 0,.bool false] 51 (0,0)):=by
          rw [hgr.block _ (by rw [alloc_size];omega) (fun e=>by have:=hne _ e.symm;omega),alloc_get',if_neg (by omega)]
          exact hm2
        refine ⟨own_slice hrow,?_,?_,⟨?_,?_,?_,Nat.le_refl _⟩,fun i s hs=>?_⟩
        · unfold World.cell?
          rw [hm3]
          rfl
        · unfold World.frozen?
          rw [hm3]
          simp
        · simp only [World.setCell,Array.getElem?_modify,if_true,hm3]
          rfl
        · rw [List.map_append]
          refine own_more hrow (Nat.le_refl _) fun x hx=>?_
          have:=(hrow.lt x hx).1
          rw [setCell_ne (by simp only;omega)]
        · have g3:Grown w w3:=(hgr2.alloc' _).by hgr fun x hx=>by have:=hne x hx;omega
          refine ⟨by rw [setCell_size];exact g3.size,fun x hx=>?_,(setCell_os _ _ _).trans g3.os⟩
          rw [setCell_ne (by simp only;omega)]
          exact g3.heap x hx
        · obtain ⟨h1,h2⟩:=hrs2 i s hs
          have hl2:=h2.lt
          have hk:∀ x,w.heap.size<x->x<w2.heap.size->(∀ y,sh.ownBlock=some y->x≠y)->(w3.setCell ⟨w.heap.size,0,none⟩ v').heap[x]? = w2.heap[x]?:=fun x hx hx2 hxy=>by
            rw [setCell_ne (by simp only;omega),hgr.block _ (by rw [alloc_size];omega) (fun e=>hxy x e.symm rfl),alloc_get',if_neg (by omega)]
          exact ⟨h1,h2.keep (hk _ h1 hl2.1 fun y hy=>(h2.away hown2 hy).1) (hk _ (by omega) hl2.2 fun y hy=>(h2.away hown2 hy).2)⟩
      have hA:=hid after
      clear after
      go_wp2_with (at_builtin;refine wpList_append_own _ rfl _ _ 47 rfl (w.heap.size+1) 52 i52 (.pointer none) 1 8 und47 t1 t2 t3 t4 rfl (by decide) _ _ _ rfl (hown2.alloc _) ⟨w2.heap.size,0,none⟩ 1 1 [.pointer (some ⟨wr.heap.size,0,none⟩)] rfl rfl hnews hone hmx hby hbs ?_;intro v' w3 hrow3 hgr3 hnil;obtain ⟨⟨o',m',p',rfl⟩,hc3,hf3,hNR⟩:=hA.out w3 v' hrow3 hgr3;have hNR':=hid hNR;clear hrs2;clear hrow3 hgr3 hnil hNR hA hnews hone hc0 hf0)
      go_roundw
      case rel=>exact ⟨k+1,_,_,by omega,by go_num,hNR'.out.1,by rw [List.length_append,hsl];rfl,hNR'.out.2⟩
      case measure=>simp [intOf];omega
    · have hkn:k=N:=by omega
      subst hkn
      go_wp2
      go_ret2
      exact ⟨_,_,_,rfl,hn,hsl,hrs⟩
end
end
end Go.Proofs.Shardlog
namespace Go.Proofs.Shardlog
open Go Go.Conc Go.Tame Go.Proofs Go.RowKit Go.Mem
section
section
variable {w w':World}{δ:Role}{Λ Λ':Lab}{E:Nat->Addr}{k c N nt nb D cp s r f:Nat}{t:Int}{sh tx bg v:Value}{ss ts bs:List Value}
theorem met_no_of {i:Nat}(hno:∀ w1 Λ1,Fr (metΛ w Λ) Λ1 (· = (k,0,0)) (metW w c t) w1->Clu w1 Λ1 k c N nt nb 1 sh tx bg D ss ts bs->Calls Tryz.L f #[.pointer (some ⟨w.heap.size,0,none⟩),.pointer (some ⟨w.heap.size+1,0,none⟩)] w1 fun e w2=>e=.returned (errV (E i))/\Fr Λ1 Λ1 (fun _=>False) w1 w2) :
    MetWorks w Λ k c N nt nb t sh tx bg D ss ts bs f (fun y w2 Λ2=>y=some (E i)/\Clu w2 Λ2 k c N nt nb 1 sh tx bg D ss ts bs):=by
  intro w1 Λ1 f1 hC1
  refine (hno w1 Λ1 f1 hC1).mono ?_
  rintro e w2 ⟨rfl,h1⟩
  have h2:=hC1.fr h1 fun _ _ z=>z
  exact ⟨some (E i),Λ1,rfl,h1.mono fun _ z=>z.elim,⟨_,_,_,h2.blk⟩,rfl,h2⟩
theorem met_yes_of {nb':Nat}{bs':List Value}(hyes:∀ w1 Λ1,Fr (metΛ w Λ) Λ1 (· = (k,0,0)) (metW w c t) w1->Clu w1 Λ1 k c N nt nb 1 sh tx bg D ss ts bs->Calls Tryz.L f #[.pointer (some ⟨w.heap.size,0,none⟩),.pointer (some ⟨w.heap.size+1,0,none⟩)] w1 fun e w2=>e=.returned .nilIface/\∃ Λ2 bg',Fr Λ1 Λ2 (fun r=>r.1=k) w1 w2/\Clu w2 Λ2 k c N nt nb' 1 sh tx bg' D ss ts bs') :
    MetWorks w Λ k c N nt nb t sh tx bg D ss ts bs f (fun y w2 Λ2=>y=none/\∃ bg',Clu w2 Λ2 k c N nt nb' 1 sh tx bg' D ss ts bs'):=by
  intro w1 Λ1 f1 hC1
  refine (hyes w1 Λ1 f1 hC1).mono ?_
  rintro e w2 ⟨rfl,Λ2,bg',h1,h2⟩
  exact ⟨none,Λ2,rfl,h1.mono fun r z=>.inl z,⟨_,_,_,h2.blk⟩,rfl,bg',h2⟩
def NumW (E:Nat->Addr) (nm:ByteArray) (t:Int) (u:Value) (m:Nat) (w:World) (Λ:Lab):Prop:=
  (u=.nilIface/\m=0)∨∃ b i,i<9/\u=.iface 113 (.pointer (some ⟨b,0,none⟩))/\At w Λ still b (.cells #[.string nm,.int .i64 t,errV (E (ordE i))] 117 (0,0))/\m=i+1
theorem lone_numW {nm:ByteArray}{u:Value}{m:Nat}(hE:Errs w Λ E)(h:NumW E nm t u m w Λ):Calls Tryz.L 28 #[u,.string nm,.int .i64 t] w fun e w'=>e=.returned (.int .i64 m)/\∃ Λ',Fr Λ Λ' (· = slip) w w':=by
  rcases h with ⟨rfl,rfl⟩|⟨b,i,h1,rfl,h3,rfl⟩
  · exact lone_number_nil.mono fun e w' ⟨h,h'⟩=>by subst h';exact ⟨h,Λ,Fr.refl _ _ _⟩
  · exact (lone_number h1 hE h3).mono fun e w' ⟨h,h'⟩=>⟨by rw [h];simp,h'⟩
def MetDone (w:World) (Λ:Lab) (E:Nat->Addr) (k c N nt D:Nat) (sh tx:Value) (ss ts:List Value) (nm:ByteArray) (t:Int) (m nb':Nat) (bs':List Value) (e:Ending) (w':World):Prop:=
  ∃ u Λ' bg',e=.returned u/\NumW E nm t u m w' Λ'/\Fr Λ Λ' (mine k) w w'/\Clu w' Λ' k c N nt nb' 0 sh tx bg' D ss ts bs'
theorem MetDone.of_yes {nm:ByteArray}{e:Ending}{nb':Nat}{bs':List Value}(hk:0<k)(h:MetOut w Λ k c nm t (fun y w2 Λ2=>y=none/\∃ bg',Clu w2 Λ2 k c N nt nb' 1 sh tx bg' D ss ts bs') e w'):MetDone w Λ E k c N nt D sh tx ss ts nm t 0 nb' bs' e w':=by
  obtain ⟨h1,Λ',bg',h2,h3⟩:=h.yes hk
  exact ⟨_,Λ',bg',h1,.inl ⟨rfl,rfl⟩,h2,h3⟩
theorem MetDone.of_no {nm:ByteArray}{e:Ending}{i:Nat}(hk:0<k)(hi:i<9)(h:MetOut w Λ k c nm t (fun y w2 Λ2=>y=some (E (ordE i))/\Clu w2 Λ2 k c N nt nb 1 sh tx bg D ss ts bs) e w'):MetDone w Λ E k c N nt D sh tx ss ts nm t (i+1) nb bs e w':=by
  obtain ⟨b,Λ',h1,h2,h3,h4⟩:=h.no hk
  exact ⟨_,Λ',bg,h1,.inr ⟨b,i,hi,rfl,h4,rfl⟩,h2,h3⟩
structure Asked (w:World) (Λ:Lab) (E:Nat->Addr) (δ:Role) (k c N nt nb D cp s r:Nat) (sh tx bg:Value) (ss ts bs:List Value):Prop where
  pos:0<k
  errs:Errs w Λ E
  clu:Clu w Λ k c N nt nb 0 sh tx bg D ss ts bs
  done:At w Λ δ D (.chan cp #[] false s r false)
  away:δ.1≠k
theorem nk0 (hk:0<k):¬ (still=((k,0,0):Role)):=ne_of_fst (by simp [still];omega)
theorem met_again_tx (h:Asked w Λ E δ k c N nt nb D cp s r sh tx bg ss ts bs)(ht:¬ (0<=t/\t<nt)):Calls Tryz.L 94 #[.pointer (some ⟨c,0,none⟩),.int .i64 t] w (MetDone w Λ E k c N nt D sh tx ss ts againName t 4 nb bs):=
  (lone_again_of h.pos h.errs h.clu h.done (met_no_of (i:=ordE 3) fun w1 Λ1 f1 hC1=>lone_again1_tx ((h.errs.fr metFr fun z=>z).fr f1 (nk0 h.pos)) hC1 ((met_bc.fr f1 (nk0 h.pos)).cell rfl) ((met_bi.fr f1 (nk0 h.pos)).cell rfl) ht) h.away).mono fun e w' h'=>MetDone.of_no h.pos (by omega) h'
theorem met_again_many (h:Asked w Λ E δ k c N nt nb D cp s r sh tx bg ss ts bs)(ht:0<=t/\t<nt)(hnb:400<=nb):Calls Tryz.L 94 #[.pointer (some ⟨c,0,none⟩),.int .i64 t] w (MetDone w Λ E k c N nt D sh tx ss ts againName t 3 nb bs):=
  (lone_again_of h.pos h.errs h.clu h.done (met_no_of (i:=ordE 2) fun w1 Λ1 f1 hC1=>lone_again1_many ((h.errs.fr metFr fun z=>z).fr f1 (nk0 h.pos)) hC1 ((met_bc.fr f1 (nk0 h.pos)).cell rfl) ((met_bi.fr f1 (nk0 h.pos)).cell rfl) ht hnb) h.away).mono fun e w' h'=>MetDone.of_no h.pos (by omega) h'
theorem met_again_yes {g n q i:Nat}{l:List OpD}{o:OpD}(h:Asked w Λ E δ k c N nt nb D cp s r sh tx bg ss ts bs)(hN:1<=N)(hN4:N<=4)(ht:i<nt)(hnb:nb<400)(hnt:nt<=60)
    (hop:ts[i*3]? = some (.slice (some ⟨g,0,none⟩) n q)) (ho:Row w Λ still 65 3 (.slice (some ⟨g,0,none⟩) n q) n (clL l)) (h0:l[0]? = some o) (hkey:97<=o.key/\o.key<=122) (hn:n<=6) :
    Calls Tryz.L 94 #[.pointer (some ⟨c,0,none⟩),.int .i64 i] w (MetDone w Λ E k c N nt D sh tx ss ts againName i 0 (nb+1) (bs ++ [.iface 110 (clBegin (plc o.key N:Nat) i (.slice (some ⟨g,0,none⟩) n q))])):=
  (lone_again_of h.pos h.errs h.clu h.done (met_yes_of fun w1 Λ1 f1 hC1=>lone_again1_yes h.pos hC1 hN hN4 (met_bc.fr f1 (nk0 h.pos)) (met_bi.fr f1 (nk0 h.pos)) ht hnb hnt hop ((ho.fr metFr fun z=>z).fr f1 (nk0 h.pos)) h0 hkey hn) h.away).mono fun e w' h'=>MetDone.of_yes h.pos h'
theorem met_drop_no (h:Asked w Λ E δ k c N nt nb D cp s r sh tx bg ss ts bs)(ht:¬ (0<=t/\t<nb)):Calls Tryz.L 96 #[.pointer (some ⟨c,0,none⟩),.int .i64 t] w (MetDone w Λ E k c N nt D sh tx ss ts dropName t 5 nb bs):=
  (lone_drop_of h.pos h.errs h.clu h.done (met_no_of (i:=ordE 4) fun w1 Λ1 f1 hC1=>lone_drop1_no ((h.errs.fr metFr fun z=>z).fr f1 (nk0 h.pos)) hC1 ((met_bc.fr f1 (nk0 h.pos)).cell rfl) ((met_bi.fr f1 (nk0 h.pos)).cell rfl) ht) h.away).mono fun e w' h'=>MetDone.of_no h.pos (by omega) h'
theorem met_drop_yes {i:Nat}(h:Asked w Λ E δ k c N nt nb D cp s r sh tx bg ss ts bs)(h1:∀ u ∈ bs,u.oneCell'=true)(ht:i<nb)(hnb:nb<=1048576):Calls Tryz.L 96 #[.pointer (some ⟨c,0,none⟩),.int .i64 i] w (MetDone w Λ E k c N nt D sh tx ss ts dropName i 0 (nb - 1) (bs.eraseIdx i)):=
  (lone_drop_of h.pos h.errs h.clu h.done (met_yes_of fun w1 Λ1 f1 hC1=>(lone_drop1_yes h.pos hC1 h1 (met_bc.fr f1 (nk0 h.pos)) (met_bi.fr f1 (nk0 h.pos)) ht hnb).mono fun e w' ⟨k1,bg',k2,k3⟩=>⟨k1,Λ1,bg',k2,k3⟩) h.away).mono fun e w' h'=>MetDone.of_yes h.pos h'
theorem met_copy_no (h:Asked w Λ E δ k c N nt nb D cp s r sh tx bg ss ts bs)(ht:¬ (0<=t/\t<nb)):Calls Tryz.L 97 #[.pointer (some ⟨c,0,none⟩),.int .i64 t] w (MetDone w Λ E k c N nt D sh tx ss ts copyName t 5 nb bs):=
  (lone_copy_of h.pos h.errs h.clu h.done (met_no_of (i:=ordE 4) fun w1 Λ1 f1 hC1=>lone_copy1_msg ((h.errs.fr metFr fun z=>z).fr f1 (nk0 h.pos)) hC1 ((met_bc.fr f1 (nk0 h.pos)).cell rfl) ((met_bi.fr f1 (nk0 h.pos)).cell rfl) ht) h.away).mono fun e w' h'=>MetDone.of_no h.pos (by omega) h'
theorem met_copy_many (h:Asked w Λ E δ k c N nt nb D cp s r sh tx bg ss ts bs)(ht:0<=t/\t<nb)(hnb:400<=nb):Calls Tryz.L 97 #[.pointer (some ⟨c,0,none⟩),.int .i64 t] w (MetDone w Λ E k c N nt D sh tx ss ts copyName t 3 nb bs):=
  (lone_copy_of h.pos h.errs h.clu h.done (met_no_of (i:=ordE 2) fun w1 Λ1 f1 hC1=>lone_copy1_many ((h.errs.fr metFr fun z=>z).fr f1 (nk0 h.pos)) hC1 ((met_bc.fr f1 (nk0 h.pos)).cell rfl) ((met_bi.fr f1 (nk0 h.pos)).cell rfl) ht hnb) h.away).mono fun e w' h'=>MetDone.of_no h.pos (by omega) h'
theorem met_copy_yes {i:Nat}{ty:TypeId}{x:Value}(h:Asked w Λ E δ k c N nt nb D cp s r sh tx bg ss ts bs)(hm:bs[i]? = some (.iface ty x))(hnb:nb<400):Calls Tryz.L 97 #[.pointer (some ⟨c,0,none⟩),.int .i64 i] w (MetDone w Λ E k c N nt D sh tx ss ts copyName i 0 (nb+1) (bs ++ [.iface ty x])):=
  (lone_copy_of h.pos h.errs h.clu h.done (met_yes_of fun w1 Λ1 f1 hC1=>lone_copy1_yes h.pos hC1 (met_bc.fr f1 (nk0 h.pos)) (met_bi.fr f1 (nk0 h.pos)) hm hnb) h.away).mono fun e w' h'=>MetDone.of_yes h.pos h'
end
end
section
section
variable {w w':World}{Λ Λ':Lab}{E:Nat->Addr}{k c N nt D m nb':Nat}{t b:Int}{sh tx:Value}{ss ts bs':List Value}
def DoDone (w:World) (Λ:Lab) (k c N nt D:Nat) (sh tx:Value) (ss ts:List Value) (m nb':Nat) (bs':List Value) (e:Ending) (w':World):Prop:=
  e=.returned (.int .i64 m)/\∃ Λ' bg',Fr Λ Λ' (mine k) w w'/\Clu w' Λ' k c N nt nb' 0 sh tx bg' D ss ts bs'
theorem not_mine (hk:0<k):¬ mine k still:=by
  rintro ((h|h)|h)
  · simp [still] at h
    omega
  · exact absurd h (by decide)
  · exact absurd h (by decide)
theorem DoDone.of {w1 w2:World}{Λ1 Λ2:Lab}{bg':Value}(hk:0<k)(h2:Fr Λ Λ1 (mine k) w w1)(h3:Clu w1 Λ1 k c N nt nb' 0 sh tx bg' D ss ts bs')(h4:Fr Λ1 Λ2 (· = slip) w1 w2):DoDone w Λ k c N nt D sh tx ss ts m nb' bs' (.returned (.int .i64 m)) w2:=
  ⟨rfl,Λ2,bg',h2.trans (h4.mono fun r z=>.inr z),h3.fr h4 fun r hr z=>by rw [z] at hr;simp [slip] at hr;omega⟩
theorem pdo_again (hk:0<k)(hE:Errs w Λ E)(hM:Calls Tryz.L 94 #[.pointer (some ⟨c,0,none⟩),.int .i64 t] w (MetDone w Λ E k c N nt D sh tx ss ts againName t m nb' bs')) :
    Calls Tryz.L 67 #[.pointer (some ⟨c,0,none⟩),.int .i64 1,.int .i64 t,.int .i64 b] w (DoDone w Λ k c N nt D sh tx ss ts m nb' bs'):=by
  have hM':=hid' hM
  have hE':=hid' hE
  clear hM hE
  go_enter LL.func67,Tryz.ntmps67
  go_wp2_with fail
  refine hM'.out.mono ?_
  rintro e w1 ⟨u,Λ1,bg',rfl,h1,h2,h3⟩
  have hN:=hid' (lone_numW (hE'.out.fr h2 (not_mine hk)) h1)
  have hX:=hid' (And.intro h2 h3)
  clear h1 h2 h3 hM'
  unfold againName at hN
  go_wp2_with fail
  refine hN.out.mono ?_
  rintro e w2 ⟨rfl,Λ2,h4⟩
  have hY:=hid' h4
  clear h4 hN
  go_wp2
  go_ret
  exact DoDone.of hk hX.out.1 hX.out.2 hY.out
theorem pdo_drop (hk:0<k)(hE:Errs w Λ E)(hM:Calls Tryz.L 96 #[.pointer (some ⟨c,0,none⟩),.int .i64 t] w (MetDone w Λ E k c N nt D sh tx ss ts dropName t m nb' bs')) :
    Calls Tryz.L 67 #[.pointer (some ⟨c,0,none⟩),.int .i64 3,.int .i64 t,.int .i64 b] w (DoDone w Λ k c N nt D sh tx ss ts m nb' bs'):=by
  have hM':=hid' hM
  have hE':=hid' hE
  clear hM hE
  go_enter LL.func67,Tryz.ntmps67
  go_wp2_with fail
  refine hM'.out.mono ?_
  rintro e w1 ⟨u,Λ1,bg',rfl,h1,h2,h3⟩
  have hN:=hid' (lone_numW (hE'.out.fr h2 (not_mine hk)) h1)
  have hX:=hid' (And.intro h2 h3)
  clear h1 h2 h3 hM'
  unfold dropName at hN
  go_wp2_with fail
  refine hN.out.mono ?_
  rintro e w2 ⟨rfl,Λ2,h4⟩
  have hY:=hid' h4
  clear h4 hN
  go_wp2
  go_ret
  exact DoDone.of hk hX.out.1 hX.out.2 hY.out
theorem pdo_copy (hk:0<k)(hE:Errs w Λ E)(hM:Calls Tryz.L 97 #[.pointer (some ⟨c,0,none⟩),.int .i64 t] w (MetDone w Λ E k c N nt D sh tx ss ts copyName t m nb' bs')) :
    Calls Tryz.L 67 #[.pointer (some ⟨c,0,none⟩),.int .i64 4,.int .i64 t,.int .i64 b] w (DoDone w Λ k c N nt D sh tx ss ts m nb' bs'):=by
  have hM':=hid' hM
  have hE':=hid' hE
  clear hM hE
  go_enter LL.func67,Tryz.ntmps67
  go_wp2_with fail
  refine hM'.out.mono ?_
  rintro e w1 ⟨u,Λ1,bg',rfl,h1,h2,h3⟩
  have hN:=hid' (lone_numW (hE'.out.fr h2 (not_mine hk)) h1)
  have hX:=hid' (And.intro h2 h3)
  clear h1 h2 h3 hM'
  unfold copyName at hN
  go_wp2_with fail
  refine hN.out.mono ?_
  rintro e w2 ⟨rfl,Λ2,h4⟩
  have hY:=hid' h4
  clear h4 hN
  go_wp2
  go_ret
  exact DoDone.of hk hX.out.1 hX.out.2 hY.out
end
section
variable {w:World}{Λ:Lab}{k m N nb nt:Nat}{sh bag txs:Value}{rs rb rt:List Value}{a b q y:Int}{R:World->Prop}
theorem doc_do_msg (hD:Doc w Λ k m N nb nt sh bag txs false rs rb rt)(hq:1<q/\q<=4)(hM:Calls Tryz.L 102 #[.pointer (some ⟨m,0,none⟩),.int .i64 q,.int .i64 a] w fun e w'=>e=.returned (.int .i64 y)/\R w') :
    Calls Tryz.L 68 #[.pointer (some ⟨m,0,none⟩),.int .i64 q,.int .i64 a,.int .i64 b] w fun e w'=>e=.returned (.int .i64 y)/\R w':=by
  have c3:w.cell? ⟨m,3,none⟩=some (.bool false):=hD.blk.cell rfl
  have hM':=hid' hM
  clear hM hD
  have h1:¬ q<1:=by omega
  have h2:¬ 8<q:=by omega
  have h3:¬ q=1:=by omega
  have h4:q<=4:=hq.2
  clear hq
  go_enter LL.func68,Tryz.ntmps68
  go_wp2_with fail
  refine hM'.out.mono ?_
  rintro e w1 ⟨rfl,hX⟩
  have hX':=hid' hX
  clear hX hM'
  go_wp2
  go_ret
  exact ⟨rfl,hX'.out⟩
end
end
section
section
variable {v w:World}{Λ:Lab}{E:Nat->Addr}{δ:Role}{k c N nt nb D cp s r bx bw be f:Nat}{t:Int}{sh tx bg v0:Value}{ss ts bs:List Value}{nm:ByteArray}{cap:Array Value}
theorem lone_work_shut {y z:Value}(hbx:v.cell? ⟨bx,0,none⟩=some (.pointer (some ⟨c,0,none⟩)))(hd:v.cell? ⟨c,5,none⟩=some (.chan (some D)))(hD:v.heap[D]? = some (.chan cp #[] true s r false)) :
    Calls Tryz.L 79 #[.pointer (some ⟨bx,0,none⟩),y,z] v fun e w'=>e=.returned (.tuple #[])/\w'=v:=by
  go_enter LL.func79,Tryz.ntmps79
  go_wp2_with (go_at_call 33;refine (lone_shut hd hD).mono ?_;rintro e w' ⟨rfl,rfl⟩)
  go_end0
  exact ⟨rfl,rfl⟩
theorem lone_inner_shut {cap:Array Value}(hk:0<k)(hC:Clu w Λ k c N nt nb 0 sh tx bg D ss ts bs)(hD:At w Λ δ D (.chan cp #[] true s r false))(hδ:δ.1≠k) :
    Calls Tryz.L 31 #[.pointer (some ⟨c,0,none⟩),.func (.func 79) #[] #[.pointer (some ⟨w.heap.size,0,none⟩),.pointer (some ⟨w.heap.size+1,0,none⟩),.pointer (some ⟨w.heap.size+1+1,0,none⟩)]]
      (((w.alloc (.cells #[.pointer (some ⟨c,0,none⟩)] 23)).alloc (.cells #[.func (.func f) #[] cap] 112)).alloc (.cells #[v0] 44)) fun e w'=>e=.returned (.tuple #[])/\∃ Λ',Fr Λ Λ' (fun r=>r.1=k) w w'/\Clu w' Λ' k c N nt nb 0 sh tx bg D ss ts bs/\w'.cell? ⟨w.heap.size+1+1,0,none⟩=some v0/\w.heap.size+1+1<w'.heap.size:=by
  generalize hA:((w.alloc (.cells #[.pointer (some ⟨c,0,none⟩)] 23)).alloc (.cells #[.func (.func f) #[] cap] 112)).alloc (.cells #[v0] 44)=wA
  let ΛA:Lab:=fun x=>if x=w.heap.size+1+1 then slip else if x=w.heap.size∨x=w.heap.size+1 then still else Λ x
  have fA:Fr Λ ΛA (fun _=>False) w wA:=by
    rw [← hA]
    refine ((((Fr.refl Λ _ w).alloc _).alloc _).alloc _).relab fun x hx=>?_
    show (if _ then _ else _)=_
    rw [if_neg (by omega),if_neg (by omega)]
  have g0:At wA ΛA still w.heap.size (.cells #[.pointer (some ⟨c,0,none⟩)] 23):=by
    refine ⟨?_,?_⟩
    · rw [← hA,alloc_get,if_neg (by simp only [alloc_size];omega),alloc_get,if_neg (by simp only [alloc_size];omega),alloc_get,if_pos rfl]
    · show (if _ then _ else _)=_
      rw [if_neg (by omega),if_pos (by omega)]
  have g2:At wA ΛA slip (w.heap.size+1+1) (.cells #[v0] 44):=by
    refine ⟨?_,?_⟩
    · rw [← hA,alloc_get,if_pos (by simp only [alloc_size])]
    · show (if _ then _ else _)=_
      rw [if_pos rfl]
  generalize w.heap.size+1+1=be at *
  generalize w.heap.size+1=bw at *
  generalize w.heap.size=bx at *
  clear hA
  have hC0:=hC.fr fA fun _ _ z=>z
  have f1:Fr ΛA ΛA (· = (k,0,0)) wA (wA.setCell ⟨c,0,none⟩ (.int .i32 1)):=Fr.set' hC0.blk.lab
  have hC1:=hC0.setMu 1
  have e0:¬ (slip=((k,0,0):Role)):=ne_of_fst (by simp [slip];omega)
  have e1:¬ (still=((k,0,0):Role)):=ne_of_fst (by simp [still];omega)
  have hW:=lone_work_shut (y:=.pointer (some ⟨bw,0,none⟩)) (z:=.pointer (some ⟨be,0,none⟩)) ((g0.fr f1 e1).cell rfl) (hC1.blk.cell rfl) (((hD.fr fA (fun z=>z)).fr f1 (fun h=>hδ (by rw [h]))).obj)
  refine (lone_alone (R:=fun w3=>w3=wA.setCell ⟨c,0,none⟩ (.int .i32 1)) (hC0.blk.cell rfl) (hC0.blk.thaw (by simp)) (hW.mono fun e w3 ⟨h1,h2⟩=>⟨h1,by rw [h2];exact hC1.blk.cell rfl,by rw [h2];exact hC1.blk.thaw (by simp),h2⟩)).mono ?_
  rintro e w' ⟨rfl,w3,rfl,rfl⟩
  have f2:Fr ΛA ΛA (· = (k,0,0)) (wA.setCell ⟨c,0,none⟩ (.int .i32 1)) ((wA.setCell ⟨c,0,none⟩ (.int .i32 1)).setCell ⟨c,0,none⟩ (.int .i32 0)):=Fr.set' hC1.blk.lab
  have g4:=(g2.fr f1 e0).fr f2 e0
  exact ⟨rfl,ΛA,((fA.mono fun _ z=>z.elim).trans (f1.mono fun r h=>by rw [h])).trans (f2.mono fun r h=>by rw [h]),hC1.setMu 0,g4.cell rfl,g4.lt⟩
set_option maxHeartbeats 2000000 in
theorem lone_call_shut {at':Int}(hk:0<k)(hE:Errs w Λ E)(hC:Clu w Λ k c N nt nb 0 sh tx bg D ss ts bs)(hD:At w Λ δ D (.chan cp #[] true s r false))(hδ:δ.1≠k) :
    Calls Tryz.L 42 #[.pointer (some ⟨c,0,none⟩),.string nm,.int .i64 at',.func (.func f) #[] cap] w fun e w'=>∃ b Λ',e=.returned (.iface 113 (.pointer (some ⟨b,0,none⟩)))/\Fr Λ Λ' (mine k) w w'/\Clu w' Λ' k c N nt nb 0 sh tx bg D ss ts bs/\At w' Λ' still b (.cells #[.string nm,.int .i64 at',errV (E 3)] 117 (0,0)):=by
  have h3:=hE.glob 3 (by omega) (by omega)
  have hlow:3<w.heap.size:=((hE.low 3 (by omega)).2).1
  have l1:3<w.heap.size+1:=by omega
  have l2:3<w.heap.size+1+1:=by omega
  have l3:3<w.heap.size+2:=by omega
  have hI:=hid' (lone_inner_shut (f:=f) (cap:=cap) (v0:=errV (E 3)) hk hC hD hδ)
  clear hE hC hD hδ
  unfold errV at *
  go_enter LL.func42,Tryz.ntmps42
  go_wp2_with fail
  refine hI.out.mono ?_
  rintro e w' ⟨rfl,Λ',h4,h5,h6,h7⟩
  have hX:=hid' (And.intro h4 h5)
  clear h4 h5 hI
  go_wp2
  go_ret
  have fB:Fr Λ' (fun x=>if x=w'.heap.size then still else Λ' x) (fun _=>False) w' (w'.alloc (.cells #[.string nm,.int .i64 at',.iface 384 (.pointer (some (E 3)))] 117)):=((Fr.refl Λ' _ w').alloc _).relab fun x hx=>if_neg (by omega)
  exact ⟨w'.heap.size,_,rfl,(hX.out.1.mono fun r h=>.inl (.inl h)).trans (fB.mono fun _ z=>z.elim),hX.out.2.fr fB fun _ _ z=>z,At.new w' Λ' _⟩
end
end
section
section
variable {w:World}{Λ:Lab}{E:Nat->Addr}{δ ρo:Role}{k c N nt nb n D cp s r:Nat}{t:Int}{sh tx bg v:Value}{ss ts bs:List Value}{l:List OpD}
structure AskedOff (w:World) (Λ:Lab) (E:Nat->Addr) (δ:Role) (k c N nt nb D cp s r:Nat) (sh tx bg:Value) (ss ts bs:List Value):Prop where
  pos:0<k
  errs:Errs w Λ E
  clu:Clu w Λ k c N nt nb 0 sh tx bg D ss ts bs
  done:At w Λ δ D (.chan cp #[] true s r false)
  away:δ.1≠k
theorem met_again_shut (h:AskedOff w Λ E δ k c N nt nb D cp s r sh tx bg ss ts bs):Calls Tryz.L 94 #[.pointer (some ⟨c,0,none⟩),.int .i64 t] w (MetDone w Λ E k c N nt D sh tx ss ts againName t 9 nb bs):=by
  have hI:=hid' (lone_call_shut (w:=metW w c t) (Λ:=metΛ w Λ) (nm:=againName) (at':=t) (f:=124) (cap:=#[.pointer (some ⟨w.heap.size,0,none⟩),.pointer (some ⟨w.heap.size+1,0,none⟩)]) h.pos (h.errs.fr metFr fun z=>z) (h.clu.fr metFr fun _ _ z=>z) (h.done.fr metFr fun z=>z) h.away)
  clear h
  go_enter LL.func94,Tryz.ntmps94
  go_wp2_with fail
  refine hI.out.mono ?_
  rintro e w' ⟨b,Λ',rfl,h⟩
  have hX:=hid' h
  clear h hI
  go_wp2
  go_ret
  exact ⟨_,Λ',bg,rfl,.inr ⟨b,8,by omega,rfl,hX.out.2.2,rfl⟩,(metFr.mono fun _ z=>z.elim).trans hX.out.1,hX.out.2.1⟩
theorem met_drop_shut (h:AskedOff w Λ E δ k c N nt nb D cp s r sh tx bg ss ts bs):Calls Tryz.L 96 #[.pointer (some ⟨c,0,none⟩),.int .i64 t] w (MetDone w Λ E k c N nt D sh tx ss ts dropName t 9 nb bs):=by
  have hI:=hid' (lone_call_shut (w:=metW w c t) (Λ:=metΛ w Λ) (nm:=dropName) (at':=t) (f:=133) (cap:=#[.pointer (some ⟨w.heap.size,0,none⟩),.pointer (some ⟨w.heap.size+1,0,none⟩)]) h.pos (h.errs.fr metFr fun z=>z) (h.clu.fr metFr fun _ _ z=>z) (h.done.fr metFr fun z=>z) h.away)
  clear h
  go_enter LL.func96,Tryz.ntmps96
  go_wp2_with fail
  refine hI.out.mono ?_
  rintro e w' ⟨b,Λ',rfl,h⟩
  have hX:=hid' h
  clear h hI
  go_wp2
  go_ret
  exact ⟨_,Λ',bg,rfl,.inr ⟨b,8,by omega,rfl,hX.out.2.2,rfl⟩,(metFr.mono fun _ z=>z.elim).trans hX.out.1,hX.out.2.1⟩
theorem met_copy_shut (h:AskedOff w Λ E δ k c N nt nb D cp s r sh tx bg ss ts bs):Calls Tryz.L 97 #[.pointer (some ⟨c,0,none⟩),.int .i64 t] w (MetDone w Λ E k c N nt D sh tx ss ts copyName t 9 nb bs):=by
  have hI:=hid' (lone_call_shut (w:=metW w c t) (Λ:=metΛ w Λ) (nm:=copyName) (at':=t) (f:=134) (cap:=#[.pointer (some ⟨w.heap.size,0,none⟩),.pointer (some ⟨w.heap.size+1,0,none⟩)]) h.pos (h.errs.fr metFr fun z=>z) (h.clu.fr metFr fun _ _ z=>z) (h.done.fr metFr fun z=>z) h.away)
  clear h
  go_enter LL.func97,Tryz.ntmps97
  go_wp2_with fail
  refine hI.out.mono ?_
  rintro e w' ⟨b,Λ',rfl,h⟩
  have hX:=hid' h
  clear h hI
  go_wp2
  go_ret
  exact ⟨_,Λ',bg,rfl,.inr ⟨b,8,by omega,rfl,hX.out.2.2,rfl⟩,(metFr.mono fun _ z=>z.elim).trans hX.out.1,hX.out.2.1⟩
theorem lone_submit_shut (h:AskedOff w Λ E δ k c N nt nb D cp s r sh tx bg ss ts bs){o:Option Addr}{m cap:Nat}(hv:v=.slice o m cap) :
    Calls Tryz.L 27 #[.pointer (some ⟨c,0,none⟩),v] w fun e w'=>∃ b Λ',e=.returned (.tuple #[.int .i64 0,.iface 113 (.pointer (some ⟨b,0,none⟩))])/\Fr Λ Λ' (mine k) w w'/\Clu w' Λ' k c N nt nb 0 sh tx bg D ss ts bs/\At w' Λ' still b (.cells #[.string submitName,.int .i64 0,errV (E 3)] 117 (0,0)):=by
  have e2:¬ (own k priv)∨True:=.inr trivial
  have hI:=hid' (lone_call_shut (w:=subW w c v) (Λ:=fun x=>if x=w.heap.size+1+1 then lent else subΛ w Λ x) (nm:=submitName) (at':=0) (f:=43) (cap:=#[.pointer (some ⟨w.heap.size+1,0,none⟩),.pointer (some ⟨w.heap.size,0,none⟩),.pointer (some ⟨w.heap.size+1+1,0,none⟩)]) h.pos
    (h.errs.fr (subFr.relab fun x hx=>if_neg (by omega)) fun z=>z) (h.clu.fr (subFr.relab fun x hx=>if_neg (by omega)) fun _ _ z=>z) (h.done.fr (subFr.relab fun x hx=>if_neg (by omega)) fun z=>z) h.away)
  have hb:At (subW w c v) (fun x=>if x=w.heap.size+1+1 then lent else subΛ w Λ x) lent (w.heap.size+1+1) (.cells #[.int .i64 0] 3):=⟨(sub_bt (w:=w) (Λ:=Λ) (c:=c) (v:=v)).obj,if_pos rfl⟩
  have fS:Fr Λ (fun x=>if x=w.heap.size+1+1 then lent else subΛ w Λ x) (fun _=>False) w (subW w c v):=subFr.relab fun x hx=>if_neg (by omega)
  have nl:¬ mine k lent:=by
    rintro (z|z)
    · exact not_lent h.pos z
    · exact absurd z (by decide)
  have hb':=hid' hb
  clear h hb
  subst hv
  go_enter LL.func27,Tryz.ntmps27
  go_wp2_with fail
  refine hI.out.mono ?_
  rintro e w' ⟨b,Λ',rfl,h⟩
  have c1:=(hb'.out.fr h.1 nl).cell (i:=0) rfl
  have hX:=hid' h
  clear h hI hb'
  go_wp2
  go_ret2
  exact ⟨b,Λ',rfl,(fS.mono fun _ z=>z.elim).trans hX.out.1,hX.out.2.1,hX.out.2.2⟩
theorem lone_psub_shut (h:AskedOff w Λ E δ k c N nt nb D cp s r sh tx bg ss ts bs)(hv:Row w Λ ρo 65 3 v n (clL l))(hn:n<=5864062014805)(hδl:¬ (δ=lent)) :
    Calls Tryz.L 18 #[.pointer (some ⟨c,0,none⟩),v] w fun e w'=>e=.returned (.tuple #[.int .i64 0,.int .i64 9])/\∃ Λ',Fr Λ Λ' (mineL k) w w'/\Clu w' Λ' k c N nt nb 0 sh tx bg D ss ts bs:=by
  have hl:¬ (still=lent):=by decide
  refine lone_psub_no_of (i:=8) (by decide) h.pos h.errs h.clu hv hn fun v' w1 Λ1 f1 hv' hC1=>?_
  obtain ⟨o,cap,e⟩:=hv'.slice
  exact lone_submit_shut ⟨h.pos,h.errs.fr f1 hl,hC1,h.done.fr f1 hδl,h.away⟩ e
end
end
section
section
variable {w:World}{Λ:Lab}{ρo:Role}{k m N nb nt n:Nat}{sh bag txs v:Value}{stop:Bool}{rs rb rt:List Value}{l:List OpD}
theorem Doc.retx {w1 w2:World}{Λ1 Λ2:Lab}{v':Value}{n':Nat}{rt':List Value}(h:Doc w Λ k m N nb nt sh bag txs stop rs rb rt)(f1:Fr Λ Λ1 (fun _=>False) w w1)(f2:Fr Λ1 Λ2 (· = (k,2,0)) w1 w2)(hr:Row w2 Λ2 (k,2,0) 69 3 v' n' rt') :
    (∃ o c,v'=.slice o n' c)/\w2.cell? ⟨m,2,none⟩=some txs/\w2.frozen? ⟨m,2,none⟩=false/\Fr Λ Λ2 (fun r=>r.1=k) w (w2.setCell ⟨m,2,none⟩ v')/\Fr Λ1 Λ2 (fun r=>r.1=k) w1 (w2.setCell ⟨m,2,none⟩ v')/\Doc (w2.setCell ⟨m,2,none⟩ v') Λ2 k m N nb n' sh bag v' stop rs rb rt':=by
  have h1:=h.fr f1 fun _ _ z=>z
  have hb:=h1.blk.fr f2 (by simp)
  have f3:Fr Λ2 Λ2 (· = (k,0,0)) w2 (w2.setCell ⟨m,2,none⟩ v'):=Fr.set' hb.lab
  have f4:Fr Λ1 Λ2 (fun r=>r.1=k) w1 (w2.setCell ⟨m,2,none⟩ v'):=(f2.mono fun r z=>by rw [z]).trans (f3.mono fun r z=>by rw [z])
  exact ⟨hr.slice,hb.cell rfl,hb.thaw (by simp),(f1.mono fun _ z=>z.elim).trans f4,f4,
    hb.set 2 v',(h1.shards.fr f2 (by simp)).fr f3 (by simp),(h1.bag.fr f2 (by simp)).fr f3 (by simp),hr.fr f3 (by simp)⟩
set_option maxHeartbeats 4000000 in
theorem doc_sub_yes (hk:0<k)(hD:Doc w Λ k m N nb nt sh bag txs false rs rb rt)(hv:Row w Λ ρo 61 3 v n (refL l))(hn:n<=5864062014805)(ht:TxL l)(hN:1<=N)(hN4:N<=4)(hnt:nt<60)(hnb:nb<400) :
    Calls Tryz.L 20 #[.pointer (some ⟨m,0,none⟩),v] w fun e w'=>e=.returned (.tuple #[.int .i64 nt,.int .i64 0])/\∃ Λ' g q txs' bag',Fr Λ Λ' (fun r=>r.1=k) w w' /\
      Doc w' Λ' k m N (nb+1) (nt+1) sh bag' txs' false rs (rb++refBegin (plc (nthOp l 0).key N:Nat) nt (.slice (some ⟨g,0,none⟩) n q)) (rt++refTx (.slice (some ⟨g,0,none⟩) n q))/\Row w' Λ' still 61 3 (.slice (some ⟨g,0,none⟩) n q) n (refL l):=by
  have c3:w.cell? ⟨m,3,none⟩=some (.bool false):=hD.blk.cell rfl
  have hR:=hid' (doc_right_yes hv hn ht)
  have hll:=refRow_len hv
  have hx:isTx n (nthOp l):=by rw [← hll];exact ht
  have hn0:0<n:=hx.1
  obtain ⟨gv,cv,rfl,_⟩:=hv.some hn0
  obtain ⟨ob,cb,hbag⟩:=hD.bag.slice
  obtain ⟨ox,cx,htxs⟩:=hD.txs.slice
  have nk:¬ (still.1=k):=by simp [still];omega
  have hkey:97<=(nthOp l 0).key/\(nthOp l 0).key<=122:=by
    obtain ⟨h1,h2,_⟩:=(hx.2.2 0 hn0).1
    omega
  have h0:l[0]? = some (nthOp l 0):=nthOp_get l 0 (by omega)
  have hlt:(rt).length=nt*3:=hD.txs.len
  have c1:w.cell? ⟨m,1,none⟩=some (.slice ob nb cb):=by rw [← hbag];exact hD.blk.cell rfl
  have c2:w.cell? ⟨m,2,none⟩=some (.slice ox nt cx):=by rw [← htxs];exact hD.blk.cell rfl
  have hX:=hid' (And.intro hD hv)
  have b60:((nt:Int) == 60)=false:=by simp;omega
  have b400:decide (400<=(nb:Int))=false:=by simp;omega
  clear hD hv hx
  subst hbag htxs
  go_enter LL.func20,Tryz.ntmps20
  go_wp2_with fail
  refine hR.out.mono ?_
  rintro e w1 ⟨rfl,hs⟩
  have q1:w1.cell? ⟨m,1,none⟩=some (.slice ob nb cb):=by rw [hs.cell];exact c1
  have q2:w1.cell? ⟨m,2,none⟩=some (.slice ox nt cx):=by rw [hs.cell];exact c2
  have f1:Fr Λ Λ (fun _=>False) w w1:=Fr.same hs.heap hs.os
  have hF1:=hid' f1
  have hV1:=hid' (hX.out.2.fr f1 fun z=>z)
  clear hs hR f1 c1 c2 c3
  go_wp2_with (at_builtin;refine park ?_)
  refine append_list_nil (c:=cv) (p:=⟨gv,0,none⟩) (m:=n) (news:=refL l) Λ still slotRO slotRO.und _ _ rfl rfl rfl rfl hV1.out.len (hV1.out.own.cells rfl) (one_refL l) (by unfold maxLen;omega) (by omega) (fun v2 w2 Λ2 hF2 hR2=>?_)
  obtain ⟨g2,p2,rfl,_⟩:=hR2.some hn0
  have f2:=hF1.out.trans hF2
  have q3:w2.cell? ⟨m,2,none⟩=some (.slice ox nt cx):=(hX.out.1.fr f2 fun _ _ z=>z).blk.cell rfl
  have hF2':=hid' f2
  have hR2':=hid' hR2
  clear hF2 hR2 f2 q1 q2
  go_wp2_with (at_builtin;refine park ?_)
  have fX:Fr Λ Λ2 (fun _=>False) w (w2.alloc (.cells (refTx (.slice (some ⟨g2,0,none⟩) n p2)).toArray 69)):=hF2'.out.alloc _
  have hT:=hX.out.1.txs.fr fX fun z=>z
  have hR3:=hR2'.out.fr ((Fr.refl Λ2 (fun _=>False) w2).alloc (.cells (refTx (.slice (some ⟨g2,0,none⟩) n p2)).toArray 69)) fun z=>z
  refine append_list (c:=1) (p:=⟨w2.heap.size,0,none⟩) (m:=1) (news:=refTx (.slice (some ⟨g2,0,none⟩) n p2)) slotRT slotRT.und _ _ rfl rfl hT rfl rfl rfl (alloc_cells w2 (refTx (.slice (some ⟨g2,0,none⟩) n p2)) 69) (by simp [refTx,Value.oneCell']) (by unfold maxLen;omega) (by omega) (fun v3 w3 Λ3 hF3 hR4=>?_)
  obtain ⟨⟨o3,p3,rfl⟩,q4,q5,q6,q7,q8⟩:=hX.out.1.retx fX hF3 hR4
  have q9:=hR3.fr q7 nk
  have hop:(rt++refTx (.slice (some ⟨g2,0,none⟩) n p2))[nt*3]? = some (.slice (some ⟨g2,0,none⟩) n p2):=by
    rw [List.getElem?_append_right (by omega),hlt,Nat.sub_self]
    rfl
  have hB:=hid' (doc_begin (t:=nt) q8 (by omega) hop q9 h0 hkey hN hN4 (by omega) (by omega))
  have hY:=hid' (And.intro q6 q9)
  have q10:=q8.blk.cell (i:=2) rfl
  clear hF3 hR4 q3 q6 q7 q8 q9 hT hR3 fX hop
  go_wp2_with fail
  refine hB.out.mono ?_
  rintro e w5 ⟨rfl,Λ5,bag',h6,h7⟩
  have r1:w5.cell? ⟨m,2,none⟩=some (.slice o3 (nt+1) p3):=h7.blk.cell rfl
  have hZ:=hid' (And.intro h6 h7)
  clear h6 h7 hB
  go_wp2_with fail
  go_ret2
  exact ⟨rfl,Λ5,g2,p2,_,bag',hY.out.1.trans hZ.out.1,hZ.out.2,hY.out.2.fr hZ.out.1 nk⟩
end
end
end Go.Proofs.Shardlog
