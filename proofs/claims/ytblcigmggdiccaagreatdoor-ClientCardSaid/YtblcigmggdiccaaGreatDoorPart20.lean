/- Several texts in one: LoneRefSub, LoneV, DocO, DocP, DocQ, DocW, DocX, MapA, MapB, LoneW, LoneY, LoneX, LoneZ, DocA. -/
import Derived.Test.YtblcigmggdiccaaGreatDoorPart19
import Derived.Test.YtblcigmggdiccaaGreatDoorPart18
import Derived.Maps.RangeWalk
import Derived.WalkKit
import Derived.Test.YtblcigmggdiccaaGreatDoorPart17
set_option linter.unusedSectionVars false
set_option linter.unusedSimpArgs false
set_option linter.unusedVariables false
set_option maxRecDepth 100000
namespace Go.Proofs.Shardlog
open Go Go.Conc Go.Tame Go.Proofs Go.RowKit
section
section
variable {w w':World}{m N nb nt:Nat}{sh bag txs:Value}{stop:Bool}{rs rb rt:List Value}
def refTx (opv:Value):List Value:=[opv,.int .i64 1,.slice none 0 0]
theorem elem_of {base:Nat}{e:TypeId}{size n:Nat}{v:Value}{xs:List Value}(h:w.ownsRow base e size v n xs){x:Nat}(hx:v.ownBlock=some x):∃ cur,w.heap[x]? = some (.cells cur e (0,0)):=by
  rcases h.2 with ⟨rfl,_⟩|⟨g,cap,cur,rfl,h2,h3,_⟩
  · cases hx
  · cases hx;exact ⟨cur,h3⟩
structure SubMore (w w':World) (m:Nat) (bag txs:Value):Prop where
  old:∀ x,x<w.heap.size->x≠m->bag.ownBlock≠some x->txs.ownBlock≠some x->w'.heap[x]? = w.heap[x]?
  size:w.heap.size<=w'.heap.size
  os:w'.os=w.os
theorem right_no {g n cap:Nat}{o:Nat->OpD}(h:RefOps w g 0 n o)(hn:n<=5864062014805)(hx:¬ isTx n o):Calls Tryz.L 29 #[.slice (some ⟨g,0,none⟩) n cap] w fun e w'=>e=.returned (.bool false)/\Same w w':=(lone_right' h hn).mono fun e w' k=>by
  obtain ⟨t,rfl,ht,hs⟩:=k
  cases t with
  | true=>exact absurd (ht.1 rfl) hx
  | false=>exact ⟨rfl,hs⟩
theorem right_yes {g n cap:Nat}{o:Nat->OpD}(h:RefOps w g 0 n o)(hn:n<=5864062014805)(hx:isTx n o):Calls Tryz.L 29 #[.slice (some ⟨g,0,none⟩) n cap] w fun e w'=>e=.returned (.bool true)/\Same w w':=(lone_right' h hn).mono fun e w' k=>by
  obtain ⟨t,rfl,ht,hs⟩:=k
  rw [ht.2 hx]
  exact ⟨rfl,hs⟩
end
end
end Go.Proofs.Shardlog
namespace Go.Proofs.Shardlog
open Go Go.Conc Go.Tame Go.Proofs Go.RowKit Go.Mem
section
def OpsAt (w:World) (sl:Value):Prop:=∃ (n:Nat) (o:Nat->OpD),n<=5864062014805/\((∃ a c,sl=.slice a 0 c/\n=0)∨∃ g f cap,sl=.slice (some ⟨g,f,none⟩) n cap/\RefOps w g f n o)
theorem OpsAt.grown {w w':World}{sl:Value}(h:OpsAt w sl)(g:Grown w w'):OpsAt w' sl:=by
  obtain ⟨n,o,hn,h⟩:=h
  refine ⟨n,o,hn,h.imp id ?_⟩
  rintro ⟨b,f,cap,e,h⟩
  exact ⟨b,f,cap,e,fun i hi=>g.cell (h.wr i hi),fun i hi=>g.cell (h.key i hi),fun i hi=>g.cell (h.val i hi)⟩
def lst (o:Nat->OpD) (n:Nat):List OpD:=(List.range n).map o
theorem clL_lst (o:Nat->OpD):∀ n,clL (lst o n)=clRow o n
  | 0=>rfl
  | n+1=>by
    show clL ((List.range (n+1)).map o)=_
    rw [List.range_succ,List.map_append]
    show ((List.range n).map o ++ [o n]).flatMap _=_
    rw [List.flatMap_append]
    show clL (lst o n)++_=_
    rw [clL_lst o n]
    rfl
section
variable {w:World}{Λ:Lab}{E:Nat->Addr}
theorem Same.grown' {w w':World}(h:Same w w'):Grown w w':=Grown.same h.heap h.os
theorem lone_keptV {sl:Value}(h:OpsAt w sl):Calls Tryz.L 17 #[sl] w fun e w'=>∃ v,e=.returned v/\∃ n o,n<=5864062014805/\(∀ i,keptOp (o i)=o i)/\w'.ownsRow w.heap.size 61 3 v n (refRow o n)/\Grown w w':=by
  obtain ⟨n,o,hn,⟨a,c,rfl,rfl⟩|⟨g,f,cap,rfl,h⟩⟩:=h
  · refine (lone_kept_nil a c).mono fun e w' ⟨h1,h2⟩=>⟨_,h1,0,fun i=>keptOp (o i),by omega,fun i=>kept_twice _,World.ownsRow_nil _ _ _ _,h2.grown'⟩
  · refine (lone_kept h hn).mono fun e w' ⟨v,h1,h2,h3⟩=>⟨v,h1,n,fun i=>keptOp (o i),hn,fun i=>kept_twice _,h2,h3⟩
theorem lone_givenV {base n:Nat}{v:Value}{o:Nat->OpD}(hn:n<=5864062014805)(hk:∀ i,keptOp (o i)=o i)(h:w.ownsRow base 61 3 v n (refRow o n)) :
    Calls Tryz.L 19 #[v] w fun e w'=>∃ v',e=.returned v'/\w'.ownsRow w.heap.size 65 3 v' n (clL (lst o n))/\Grown w w':=by
  have e:(fun i=>keptOp (o i))=o:=funext hk
  rcases Nat.eq_zero_or_pos n with rfl|h0
  · obtain ⟨a,c,rfl⟩:=own_len h
    exact (lone_given_nil a c).mono fun e w' ⟨h1,h2⟩=>⟨_,h1,World.ownsRow_nil _ _ _ _,h2.grown'⟩
  · obtain ⟨g,cap,rfl,h1,h2,h3,h4⟩:=refs_of h h0
    refine (lone_given h4 hn).mono fun e' w' ⟨v,k1,k2,k3⟩=>⟨v,k1,?_,k3⟩
    rw [e] at k2
    rw [clL_lst]
    exact k2
end
end
section
def riL (l:List Int):List Value:=l.map fun x=>.int .i64 x
theorem len_riL (l:List Int):(riL l).length=l.length:=by simp [riL]
section
variable {w:World}{Λ:Lab}{ρ ρ':Role}{n:Nat}{va vb:Value}{l:List Int}
set_option maxHeartbeats 2000000 in
theorem lone_sameReads (ha:Row w Λ ρ 21 1 va n (rdL l))(hb:Row w Λ ρ' 3 1 vb n (riL l))(hl:∀ x ∈ l,IntKind.i64.wrap x=x)(hn:n<=1048576) :
    Calls Tryz.L 152 #[va,vb] w fun e w'=>e=.returned (.bool true)/\Same w w':=by
  have e:l.length=n:=by have:=ha.len;rw [len_rdL] at this;omega
  rcases Nat.eq_zero_or_pos n with h0|h0
  · subst h0
    obtain ⟨oa,ca,rfl⟩:=ha.slice
    obtain ⟨ob,cb,rfl⟩:=hb.slice
    clear ha hb
    go_enter LL.func152,Tryz.ntmps152
    go_wp2
    refine wp_loop_rounds 1 ?_
    rw [rounds_succ]
    go_wp2
    go_ret
    exact ⟨rfl,Same.refl w⟩
  · obtain ⟨ga,ca,rfl,_⟩:=ha.some h0
    obtain ⟨gb,cb,rfl,_⟩:=hb.some h0
    have hA:∀ j x,l[j]? = some x->w.cell? ⟨ga,j,none⟩=some (.int .i32 x):=fun j x hx=>ha.cell rfl (by simp [rdL,hx])
    have hB:∀ j x,l[j]? = some x->w.cell? ⟨gb,j,none⟩=some (.int .i64 x):=fun j x hx=>hb.cell rfl (by simp [riL,hx])
    have hA':=hid' hA
    have hB':=hid' hB
    clear ha hb hA hB
    go_enter LL.func152,Tryz.ntmps152
    go_wp2
    go_loopw [5] (fun i wr=>∃ k:Nat,k<=n/\i=.int .i64 k/\Same w wr) (fun i _=>n - (intOf i).toNat)
    case atStart=>exact ⟨0,by omega,rfl,Same.refl w⟩
    case round=>
      obtain ⟨k,hk,rfl,hs⟩:=hrel
      by_cases hlt:k<n
      · obtain ⟨x,hx⟩:∃ x,l[k]? = some x:=⟨_,List.getElem?_eq_getElem (by omega)⟩
        have h1:=(hs.cell _).trans (hA'.out k x hx)
        have h2:=(hs.cell _).trans (hB'.out k x hx)
        have h3:IntKind.i64.wrap x=x:=hl x (List.mem_of_getElem? hx)
        go_wp2_with fail
        go_quiet (fail)
        go_wp2
        go_roundw
        all_goals first
          | exact ⟨k+1,by omega,by go_num,⟨hs.heap,hs.os⟩⟩
          | (simp [intOf];omega)
      · go_wp2
        go_ret
        exact ⟨rfl,hs⟩
end
end
section
section
variable {w:World}{Λ:Lab}{ρ ρ':Role}{n:Nat}{va vb:Value}{l:List OpD}
set_option maxHeartbeats 4000000 in
theorem lone_sameOps (ha:Row w Λ ρ 65 3 va n (clL l))(hb:Row w Λ ρ' 61 3 vb n (refL l))(hl:∀ o ∈ l,IntKind.i64.wrap o.key=o.key/\IntKind.i64.wrap o.val=o.val)(hn:n<=1048576) :
    Calls Tryz.L 151 #[va,vb] w fun e w'=>e=.returned (.bool true)/\Same w w':=by
  have e:l.length=n:=by have:=ha.len;rw [len_clL] at this;omega
  rcases Nat.eq_zero_or_pos n with h0|h0
  · subst h0
    obtain ⟨oa,ca,rfl⟩:=ha.slice
    obtain ⟨ob,cb,rfl⟩:=hb.slice
    clear ha hb
    go_enter LL.func151,Tryz.ntmps151
    go_wp2
    refine wp_loop_rounds 1 ?_
    rw [rounds_succ]
    go_wp2
    go_ret
    exact ⟨rfl,Same.refl w⟩
  · obtain ⟨ga,ca,rfl,_⟩:=ha.some h0
    obtain ⟨gb,cb,rfl,_⟩:=hb.some h0
    have hA':=hid' (fun j o (hx:l[j]? = some o)=>(⟨ha.cell rfl (clL_get l j o hx).1,ha.cell rfl (clL_get l j o hx).2.1,ha.cell rfl (clL_get l j o hx).2.2⟩:w.cell? ⟨ga,j*3,none⟩=some (.bool o.wr)/\w.cell? ⟨ga,j*3+1,none⟩=some (.int .u8 o.key)/\w.cell? ⟨ga,j*3+2,none⟩=some (.int .i32 o.val)))
    have hB':=hid' (fun j o (hx:l[j]? = some o)=>(⟨hb.cell rfl (refL_get l j o hx).1,hb.cell rfl (refL_get l j o hx).2.1,hb.cell rfl (refL_get l j o hx).2.2⟩:w.cell? ⟨gb,j*3,none⟩=some (.bool o.wr)/\w.cell? ⟨gb,j*3+1,none⟩=some (.int .i64 o.key)/\w.cell? ⟨gb,j*3+2,none⟩=some (.int .i64 o.val)))
    clear ha hb
    go_enter LL.func151,Tryz.ntmps151
    go_wp2
    go_loopw [5] (fun i wr=>∃ k:Nat,k<=n/\i=.int .i64 k/\Same w wr) (fun i _=>n - (intOf i).toNat)
    case atStart=>exact ⟨0,by omega,rfl,Same.refl w⟩
    case round=>
      obtain ⟨k,hk,rfl,hs⟩:=hrel
      by_cases hlt:k<n
      · obtain ⟨x,hx⟩:∃ x,l[k]? = some x:=⟨_,List.getElem?_eq_getElem (by omega)⟩
        obtain ⟨p1,p2,p3⟩:=hA'.out k x hx
        obtain ⟨q1,q2,q3⟩:=hB'.out k x hx
        have h1:=(hs.cell _).trans p1
        have h2:=(hs.cell _).trans p2
        have h3:=(hs.cell _).trans p3
        have h4:=(hs.cell _).trans q1
        have h5:=(hs.cell _).trans q2
        have h6:=(hs.cell _).trans q3
        obtain ⟨h7,h8⟩:=hl x (List.mem_of_getElem? hx)
        clear p1 p2 p3 q1 q2 q3
        go_wp2_with fail
        go_quiet (fail)
        go_wp2
        go_roundw
        all_goals first
          | exact ⟨k+1,by omega,by go_num,⟨hs.heap,hs.os⟩⟩
          | (simp [intOf];omega)
      · go_wp2
        go_ret
        exact ⟨rfl,hs⟩
end
end
end Go.Proofs.Shardlog
namespace Go.Mem
open Go
section
theorem Row.set1 {w:World}{Λ:Lab}{ρ:Role}{e:TypeId}{g n cap q:Nat}{xs:List Value}(h:Row w Λ ρ e 1 (.slice (Option.some ⟨g,0,none⟩) n cap) n xs)(x:Value):Row (w.setCell ⟨g,q,none⟩ x) Λ ρ e 1 (.slice (Option.some ⟨g,0,none⟩) n cap) n (xs.set q x):=by
  have hl:=h.len
  rcases h.own.2 with ⟨z,_⟩|⟨g',cap',cur,z,h3,h4,h5,h6,h7,h8⟩
  · cases z
  · cases z
    have hA:=(At.mk h4 rfl:At w (fun _=>still) still g _).set q x
    refine ⟨⟨by rw [List.length_set];exact hl,.inr ⟨g,cap,_,rfl,h3,hA.obj,h5,h6,by rw [Array.size_setIfInBounds];exact h7,?_⟩⟩,h.lab⟩
    rw [Array.toList_setIfInBounds,List.take_set,h8]
theorem Row.thaw {w:World}{Λ:Lab}{ρ:Role}{e:TypeId}{size g n cap:Nat}{xs:List Value}(h:Row w Λ ρ e size (.slice (Option.some ⟨g,0,none⟩) n cap) n xs)(q:Nat):w.frozen? ⟨g,q,none⟩=false:=by
  rcases h.own.2 with ⟨z,_⟩|⟨g',cap',cur,z,h3,h4,h5,h6,h7,h8⟩
  · cases z
  · cases z
    exact (At.mk h4 rfl:At w (fun _=>still) still g _).thaw (by simp)
end
end Go.Mem
namespace Go.Proofs.Shardlog
open Go Go.Conc Go.Tame Go.Proofs Go.RowKit Go.Mem
section
section
variable {w:World}{Λ:Lab}{ρd:Role}{k c m N nt nb D n:Nat}{t st:Int}{sh tx bg rvd:Value}{ss ts bs:List Value}{l:List Int}
set_option maxHeartbeats 4000000 in
theorem lone_lawResult (hk:0<k)(hC:Clu w Λ k c N nt nb 0 sh tx bg D ss ts bs)
    (hdoc:∀ u Λu,Fr Λ Λu (fun _=>False) w u->Calls Tryz.L 153 #[.pointer (some ⟨m,0,none⟩),.int .i64 t] u fun e w'=>e=.returned (.tuple #[.int .i64 st,rvd])/\Fr Λu Λu (fun _=>False) u w')
    (hres:∀ u Λu,Fr Λ Λu (mineL k) w u->Clu u Λu k c N nt nb 0 sh tx bg D ss ts bs->Calls Tryz.L 154 #[.pointer (some ⟨c,0,none⟩),.int .i64 t] u (ResOut u Λu k c N nt nb D sh tx bg ss ts bs st lent n l))
    (hrd:Row w Λ ρd 3 1 rvd n (riL l)) (hρd:¬ mineL k ρd) (hl:∀ x ∈ l,IntKind.i64.wrap x=x) (hn:n<=1048576) :
    Calls Tryz.L 109 #[.agg #[.pointer (some ⟨c,0,none⟩),.pointer (some ⟨m,0,none⟩)],.int .i64 t] w fun e w'=>e=.returned (.bool true)/\∃ Λ',Fr Λ Λ' (mineL k) w w'/\Clu w' Λ' k c N nt nb 0 sh tx bg D ss ts bs:=by
  have hst:¬ mineL k still:=by
    rintro (((h|h)|h)|h)
    · simp [still] at h
      omega
    · exact absurd h (by decide)
    · exact absurd h (by decide)
    · exact absurd h (by decide)
  let ΛA:Lab:=fun x=>if x=w.heap.size then still else Λ x
  have fA:Fr Λ ΛA (fun _=>False) w (w.alloc (.cells #[.pointer (some ⟨c,0,none⟩),.pointer (some ⟨m,0,none⟩)] 134)):=((Fr.refl Λ _ w).alloc _).relab fun x hx=>if_neg (by omega)
  have hB:At (w.alloc (.cells #[.pointer (some ⟨c,0,none⟩),.pointer (some ⟨m,0,none⟩)] 134)) ΛA still w.heap.size (.cells #[.pointer (some ⟨c,0,none⟩),.pointer (some ⟨m,0,none⟩)] 134):=At.new w Λ _
  have hd1:=hid' (hdoc _ ΛA fA)
  have hX:=hid' (And.intro hC (And.intro fA (And.intro hB hrd)))
  have hR:=hid' hres
  obtain ⟨do',dc,rfl⟩:=hrd.slice
  clear_value ΛA
  clear hC hdoc hres hrd fA hB
  go_enter LL.func109,Tryz.ntmps109
  go_wp2_with fail
  refine hd1.out.mono ?_
  rintro e w1 ⟨rfl,hF1⟩
  have f1:=hX.out.2.1.trans hF1
  have hC1:=hX.out.1.fr f1 fun _ _ z=>z
  have hB1:=hX.out.2.2.1.fr hF1 fun z=>z
  have hd1':=hX.out.2.2.2.fr f1 fun z=>z
  have hY:=hid' (And.intro f1 (And.intro hC1 (And.intro hB1 hd1')))
  clear hF1 f1 hC1 hB1 hd1' hd1
  go_wp2_with fail
  go_loopw [7] (fun i wr=>∃ (r:Nat) (Λr:Lab),r<=2/\i=.int .i64 r/\Fr Λ Λr (mineL k) w wr/\Clu wr Λr k c N nt nb 0 sh tx bg D ss ts bs/\At wr Λr still w.heap.size (.cells #[.pointer (some ⟨c,0,none⟩),.pointer (some ⟨m,0,none⟩)] 134)) (fun i _=>2 - (intOf i).toNat)
  case atStart=>exact ⟨0,ΛA,by omega,rfl,hY.out.1.mono fun _ z=>z.elim,hY.out.2.1,hY.out.2.2.1⟩
  case round=>
    obtain ⟨r,Λr,hr2,rfl,hFr,hCr,hBr⟩:=hrel
    have b0:=hBr.cell (i:=0) rfl
    have hS:=hid' (hR.out _ _ hFr hCr)
    have hZ:=hid' (And.intro hFr (And.intro hCr hBr))
    clear hFr hCr hBr
    by_cases hlt:r<2
    · go_wp2_with fail
      refine hS.out.mono ?_
      rintro e w3 ⟨y,Λ3,rfl,h3,h4,h5⟩
      obtain ⟨yo,yc,rfl⟩:=h5.slice
      have f3:Fr Λ Λ3 (mineL k) w w3:=hZ.out.1.trans (h3.mono fun r h=>.inl h)
      have hsr:=hid' (lone_sameReads h5 (hX.out.2.2.2.fr f3 hρd) hl hn)
      have b3:=hZ.out.2.2.fr (h3.mono fun r h=>.inl h:Fr Λr Λ3 (mineL k) _ w3) hst
      have hQ:=hid' (And.intro f3 (And.intro h4 (And.intro h5 b3)))
      clear h3 h4 h5 f3 b3 hS hZ
      go_wp2_with fail
      refine hsr.out.mono ?_
      rintro e w4 ⟨rfl,hs4⟩
      have f4:Fr Λ3 Λ3 (fun _=>False) w3 w4:=Fr.same hs4.heap hs4.os
      have hQ4:=hid' (And.intro (hQ.out.1.trans (f4.mono fun _ z=>z.elim)) (And.intro (hQ.out.2.1.fr f4 fun _ _ z=>z) (And.intro (hQ.out.2.2.1.fr f4 fun z=>z) (hQ.out.2.2.2.fr f4 fun z=>z))))
      clear hs4 f4 hQ hsr
      go_wp2_with fail
      go_loopw [11] (fun i wr=>∃ (q:Nat) (xs:List Value),q<=n/\i=.int .i64 q/\Fr Λ3 Λ3 (· = lent) w4 wr/\Row wr Λ3 lent 21 1 (.slice yo n yc) n xs) (fun i _=>n - (intOf i).toNat)
      case atStart=>exact ⟨0,_,by omega,rfl,Fr.refl _ _ _,hQ4.out.2.2.1⟩
      case round=>
        obtain ⟨q,xs,hq,rfl,hF,hW⟩:=hrel
        by_cases hlt2:q<n
        · obtain ⟨g,cap,hg,_⟩:=hW.some (by omega)
          cases hg
          have hlen:=hW.len
          obtain ⟨z,hz⟩:∃ z,xs[q]? = some z:=⟨_,List.getElem?_eq_getElem (by omega)⟩
          have k1:=hW.cell rfl hz
          have k2:=hW.thaw q
          have hV:=hid' (And.intro hF hW)
          clear hF hW hz hlen
          go_wp2
          go_roundw
          all_goals first
            | exact ⟨q+1,_,by omega,by go_num,hV.out.1.trans (Fr.set' (hV.out.2.lab g rfl)),hV.out.2.set1 _⟩
            | (simp [intOf];omega)
        · have hV:=hid' (And.intro hF hW)
          clear hF hW
          have hlt3:¬ (q:Int)<n:=by omega
          go_wp2
          go_roundw
          all_goals first
            | exact ⟨r+1,Λ3,by omega,by go_num,hQ4.out.1.trans (hV.out.1.mono fun r h=>.inr h),hQ4.out.2.1.fr hV.out.1 (fun r hr h=>by rw [h] at hr;simp [lent] at hr;omega),hQ4.out.2.2.2.fr hV.out.1 (by decide)⟩
            | (simp [intOf];omega)
    · go_wp2_with fail
      go_ret
      exact ⟨rfl,Λr,hZ.out.1,hZ.out.2.1⟩
end
end
end Go.Proofs.Shardlog
namespace Go.Mem
open Go
section
section
variable {P:Program}{w:World}
theorem wpList_make_cap {ops:Array Oper}{rest:List Oper}{o:Oper}{a:Act}{Q:Exit->Act->World->Prop}(hg:o.guard=none)(l c:Operand)(t:TypeId)(hop:o.op=Op.makeSlice t l c)
    (e:TypeId) (i:TypeInfo) (z:Value) (zc:Array Value) (hzc:z.cells=zc) (size m n:Nat) (h1:P.underlying t=some (.slice e)) (h2:P.info? e=some i) (h3:i.zero=some z) (h4:i.size=size) (kl kc:IntKind) (hl:a.eval l=.int kl m) (hc:a.eval c=.int kc n) (hmn:m<=n) (b2:i.bytes*n<=281474976710656) (b3:n<=maxLen)
    (hK:wpList P ops Q rest (a.put o.dst (.slice (some ⟨w.heap.size,0,none⟩) m n)) (w.alloc (.cells (madeCells zc (n*size)) e))):wpList P ops Q (o :: rest) a w:=by
  subst hzc
  refine wpList_plain hg fun K hK'=>?_
  have h63:(n:Int)<=9223372036854775807:=by unfold maxLen at b3;omega
  have hb:(i.bytes:Int)*(n:Int)<=281474976710656:=by
    have h:((i.bytes*n:Nat):Int)<=281474976710656:=by omega
    rwa [Int.natCast_mul] at h
  have hr:=run_make (P:=P) w t e i z h1 h2 h3 kl kc m n (by omega) (by omega) hb h63
  simp only [Int.toNat_natCast,h4] at hr
  unfold Oper.wp
  simp [execOp,hop,hl,hc,hr,Result.andThen]
  exact hK' _ _ hK
theorem row_room {Λ:Lab}{ρ:Role}{e:TypeId}{size n:Nat}{cur:Array Value}(hl:cur.size=n*size)(h63:n<=maxLen):Row (w.alloc (.cells cur e)) (fun x=>if x=w.heap.size then ρ else Λ x) ρ e size (.slice (some ⟨w.heap.size,0,none⟩) 0 n) 0 []:=
  ⟨⟨by simp,.inr ⟨_,n,cur,rfl,Nat.zero_le _,by rw [alloc_get,if_pos rfl],Nat.zero_le _,h63,by simpa using hl,by simp⟩⟩,fun b hb=>by cases hb;simp⟩
end
end
end Go.Mem
namespace Go.Proofs.Shardlog
open Go Go.Conc Go.Tame Go.Proofs Go.RowKit Go.Mem
section
def tBag:Role:=(0,5,0)
def tOps (i:Nat):Role:=(0,6,i)
def tRds (i:Nat):Role:=(0,7,i)
def scr (r:Role):Prop:=r.1=0/\r.2.1≠0
def mineS (k:Nat) (r:Role):Prop:=r.1=k∨scr r
theorem mine_S {k:Nat}{r:Role}(h:mine k r):mineS k r:=by
  rcases h with (h|h)|h
  · exact .inl h
  · subst h;exact .inr ⟨rfl,by decide⟩
  · subst h;exact .inr ⟨rfl,by decide⟩
theorem mineL_S {k:Nat}{r:Role}(h:mineL k r):mineS k r:=by
  rcases h with h|h
  · exact mine_S h
  · subst h;exact .inr ⟨rfl,by decide⟩
theorem not_mineS {k:Nat}(hk:0<k):¬ mineS k still:=by
  rintro (h|h)
  · simp [still] at h;omega
  · exact h.2 rfl
theorem scr_away {k:Nat}(hk:0<k){r:Role}(hr:r.1=k):¬ scr r:=fun h=>by have:=h.1;omega
theorem scr_still:¬ scr still:=fun h=>h.2 rfl
theorem slotMs:Slot 235 238 7 88:=⟨by kernel_rfl,by kernel_rfl,by decide⟩
structure ToldIn (w:World) (Λ:Lab) (xs:List Value) (i:Nat) (x:Msg) (o r:Value):Prop where
  h0:xs[i*7]? = some (.int .i64 x.kind)
  h1:xs[i*7+1]? = some (.int .i64 x.frm)
  h2:xs[i*7+2]? = some (.int .i64 x.to)
  h3:xs[i*7+3]? = some (.int .i64 x.tx)
  h4:xs[i*7+4]? = some (.bool x.yes)
  h5:xs[i*7+5]? = some o
  h6:xs[i*7+6]? = some r
  ops:Row w Λ (tOps i) 65 3 o x.ops.length (clL x.ops)
  rds:Row w Λ (tRds i) 21 1 r x.reads.length (rdL x.reads)
section
variable {w w':World}{Λ Λ':Lab}{M:Role->Prop}{xs:List Value}{i:Nat}{x:Msg}{o r:Value}
theorem ToldIn.fr (h:ToldIn w Λ xs i x o r)(f:Fr Λ Λ' M w w')(h1:¬ M (tOps i))(h2:¬ M (tRds i)):ToldIn w' Λ' xs i x o r:=⟨h.h0,h.h1,h.h2,h.h3,h.h4,h.h5,h.h6,h.ops.fr f h1,h.rds.fr f h2⟩
theorem get_left {xs ys:List Value}{j:Nat}{v:Value}(h:xs[j]? = some v):(xs++ys)[j]? = some v:=by
  rw [List.getElem?_append_left (List.getElem?_eq_some_iff.1 h).1]
  exact h
theorem ToldIn.left {ys:List Value}(h:ToldIn w Λ xs i x o r):ToldIn w Λ (xs++ys) i x o r:=⟨get_left h.h0,get_left h.h1,get_left h.h2,get_left h.h3,get_left h.h4,get_left h.h5,get_left h.h6,h.ops,h.rds⟩
def toldCells (x:Msg) (o r:Value):List Value:=[.int .i64 x.kind,.int .i64 x.frm,.int .i64 x.to,.int .i64 x.tx,.bool x.yes,o,r]
theorem get_right {xs ys:List Value}{j n:Nat}(h:xs.length=n):(xs++ys)[n+j]? = ys[j]?:=by
  subst h
  rw [List.getElem?_append_right (by omega)]
  congr 1
  omega
theorem ToldIn.right (hl:xs.length=i*7)(h1:Row w Λ (tOps i) 65 3 o x.ops.length (clL x.ops))(h2:Row w Λ (tRds i) 21 1 r x.reads.length (rdL x.reads)):ToldIn w Λ (xs++toldCells x o r) i x o r:=
  ⟨get_right (j:=0) hl,get_right (j:=1) hl,get_right (j:=2) hl,get_right (j:=3) hl,get_right (j:=4) hl,get_right (j:=5) hl,get_right (j:=6) hl,h1,h2⟩
end
def Msgs (w:World) (Λ:Lab) (l:List Msg) (ms:List Value):Prop:=∀ (i:Nat) (x:Msg),l[i]? = some x->∃ m,ms[i]? = some m/\MsgC w Λ x m
theorem Msgs.fr {w w':World}{Λ Λ':Lab}{M:Role->Prop}{l:List Msg}{ms:List Value}(h:Msgs w Λ l ms)(f:Fr Λ Λ' M w w')(hm:¬ M still):Msgs w' Λ' l ms:=fun i x hx=>by
  obtain ⟨m,h1,h2⟩:=h i x hx
  exact ⟨m,h1,h2.fr f hm⟩
section
variable {w:World}{Λ:Lab}{ρb:Role}{k c N nt nb D n b0 b1:Nat}{sh tx bg:Value}{ss ts bs ms:List Value}{l:List Msg}
def ToldAll (w':World) (Λ':Lab) (l:List Msg) (xs:List Value):Prop:=∀ (i:Nat) (x:Msg),l[i]? = some x->∃ o r,ToldIn w' Λ' xs i x o r
set_option maxHeartbeats 4000000 in
theorem lone_bagTold (hr:Row w Λ ρb 217 1 bg n ms)(hl:l.length=n)(hm:Msgs w Λ l ms)(hρb:¬ (ρb=tBag))(hn:n<=1048576) :
    Calls Tryz.L 199 #[bg] w fun e w'=>∃ v Λ' xs,e=.returned v/\Fr Λ Λ' (· = tBag) w w'/\Row w' Λ' tBag 238 7 v n xs/\ToldAll w' Λ' l xs:=by
  obtain ⟨i,z,s1,s2,s3,s4,s5⟩:=slotMs.get
  have hb1:i.bytes*n<=281474976710656:=by rw [s4];omega
  have hb2:n<=maxLen:=by unfold maxLen;omega
  have s0:=slotMs.und
  obtain ⟨zc,hzc⟩:∃ zc,z.cells=zc:=⟨_,rfl⟩
  obtain ⟨bo,bc,rfl⟩:=hr.slice
  let ΛA:Lab:=fun x=>if x=w.heap.size then tBag else Λ x
  have fA:Fr Λ ΛA (· = tBag) w (w.alloc (.cells (madeCells zc (n*7)) 238)):=((Fr.refl Λ _ w).alloc _).relab fun x hx=>if_neg (by omega)
  have rA:Row (w.alloc (.cells (madeCells zc (n*7)) 238)) ΛA tBag 238 7 (.slice (some ⟨w.heap.size,0,none⟩) 0 n) 0 []:=row_room (size_madeCells _ _) hb2
  have hX:=hid' (And.intro hr hm)
  have hA:=hid' (And.intro fA rA)
  clear hr hm fA rA
  clear_value ΛA
  go_enter LL.func199,Tryz.ntmps199
  go_wp2_with (at_make;refine wpList_make_cap rfl _ _ 235 rfl 238 i z zc hzc 7 0 n s0 s1 s2 s3 .i64 .i64 (by simp [Act.eval,Act.put]) (by simp [Act.eval,Act.put]) (Nat.zero_le _) hb1 hb2 ?_)
  go_loopw [3,11] (fun v i wr=>∃ (q:Nat) (Λr:Lab) (xs:List Value),q<=n/\i=.int .i64 q/\Fr Λ Λr (· = tBag) w wr/\Row wr Λr tBag 238 7 v q xs/\∀ j x,j<q->l[j]? = some x->∃ o r,ToldIn wr Λr xs j x o r) (fun _ i _=>n - (intOf i).toNat)
  case atStart=>exact ⟨0,ΛA,[],by omega,rfl,hA.out.1,hA.out.2,fun j x hj=>absurd hj (by omega)⟩
  case round=>
    obtain ⟨q,Λr,xs,hq,rfl,hF,hR,hT⟩:=hrel
    obtain ⟨vo,vc,rfl⟩:=hR.slice
    have hV:=hid' (And.intro hF (And.intro hR hT))
    clear hF hR hT
    by_cases hlt:q<n
    · obtain ⟨g,cap,hg,_⟩:=hX.out.1.some (by omega)
      cases hg
      obtain ⟨x,hx⟩:∃ x,l[q]? = some x:=⟨_,List.getElem?_eq_getElem (by omega)⟩
      obtain ⟨m,hm1,hm2⟩:=hX.out.2 q x hx
      have d0:=(hX.out.1.fr hV.out.1 hρb).cell rfl hm1
      obtain ⟨ty,p,f,fn,rfl,hmt,hf,hb,hnn,hcc⟩:=lone_tells (tOps q) (tRds q) (hm2.fr hV.out.1 (by decide))
      have hcc':=hid' (hcc.mono (R':=fun e w'=>∃ y,e=.returned y/\∃ Λ' o r,y=toldV x.kind x.frm x.to x.tx x.yes o r/\Fr Λr Λ' (fun _=>False) wr w'/\Row w' Λ' (tOps q) 65 3 o x.ops.length (clL x.ops)/\Row w' Λ' (tRds q) 21 1 r x.reads.length (rdL x.reads)) fun e w' ⟨Λ',o,r,h1,h2⟩=>⟨_,h1,Λ',o,r,rfl,h2⟩)
      clear hcc hm1 hm2
      go_wp2_with (refine wpList_invoke (x:=.tmp 16) (nm:= "shardlog/cluster.told") rfl rfl rfl hmt hf hb hnn hcc'.out ?_)
      rintro y w2 Λ2 o r rfl f2 r1 r2
      obtain ⟨oo,oc,rfl⟩:=r1.slice
      obtain ⟨ro,rc,rfl⟩:=r2.slice
      have hS:=hid' (And.intro f2 (And.intro r1 r2))
      clear f2 r1 r2 hcc' hmt d0
      unfold toldV
      go_wp2_with (at_builtin;refine park ?_)
      have fX:Fr Λr Λ2 (fun _=>False) wr (w2.alloc (.cells (toldCells x (.slice oo x.ops.length oc) (.slice ro x.reads.length rc)).toArray 238)):=hS.out.1.alloc _
      refine append_list (c:=1) (p:=⟨w2.heap.size,0,none⟩) (m:=1) (news:=toldCells x (.slice oo x.ops.length oc) (.slice ro x.reads.length rc)) slotMs slotMs.und _ _ rfl rfl (hV.out.2.1.fr fX fun z=>z) rfl rfl rfl (alloc_cells w2 _ 238) (by simp [toldCells,Value.oneCell']) (by unfold maxLen;omega) (by omega) (fun v' w3 Λ3 hF3 hR3=>?_)
      obtain ⟨vo',vc',rfl⟩:=hR3.slice
      have hlen:=hV.out.2.1.len
      have hfin:=hid' (And.intro ((hV.out.1.trans (fX.mono fun _ z=>z.elim)).trans hF3) (And.intro hR3 (fun j (y:Msg) (hj:j<q+1) (hy:l[j]? = some y)=>(by
        by_cases e:j=q
        · subst e
          rw [hx] at hy
          cases hy
          have f3:=((Fr.refl Λ2 (fun _=>False) w2).alloc (.cells (toldCells x (.slice oo x.ops.length oc) (.slice ro x.reads.length rc)).toArray 238)).mono (M':=(· = tBag)) (fun _ z=>z.elim)
          exact ⟨_,_,ToldIn.right hlen ((hS.out.2.1.fr f3 (by simp [tOps,tBag])).fr hF3 (by simp [tOps,tBag])) ((hS.out.2.2.fr f3 (by simp [tRds,tBag])).fr hF3 (by simp [tRds,tBag]))⟩
        · obtain ⟨o,r,h⟩:=hV.out.2.2 j y (by omega) hy
          exact ⟨o,r,((h.fr fX (fun z=>z) fun z=>z).fr hF3 (by simp [tOps,tBag]) (by simp [tRds,tBag])).left⟩:∃ o r,ToldIn w3 Λ3 (xs++toldCells x (.slice oo x.ops.length oc) (.slice ro x.reads.length rc)) j y o r))))
      clear hF3 hR3 fX
      go_wp2
      go_roundw
      all_goals first
        | exact ⟨q+1,Λ3,_,by omega,by go_num,hfin.out.1,hfin.out.2.1,hfin.out.2.2⟩
        | (simp [intOf];omega)
    · have hqn:q=n:=by omega
      subst hqn
      go_wp2
      go_ret
      exact ⟨_,Λr,xs,rfl,hV.out.1,hV.out.2.1,fun j x hx=>hV.out.2.2 j x (by have:=(List.getElem?_eq_some_iff.1 hx).1;omega) hx⟩
end
end
section
section
variable {v w:World}{Λ:Lab}{k c N nt nb D f b0 b1:Nat}{sh tx bg:Value}{ss ts bs:List Value}{l:List Msg}
theorem lone_asksS {R:World->Lab->Prop}{cap:Array Value}(hf:∀ (args:Array Value) (u:World),Sem.run Tryz.L (callFunc f args) u=.ok (.enter f args) u)(hC:Clu v Λ k c N nt nb 0 sh tx bg D ss ts bs)
    (hcl:∀ w1,Fr Λ Λ (· = (k,0,0)) v w1->Clu w1 Λ k c N nt nb 1 sh tx bg D ss ts bs->Calls Tryz.L f cap w1 fun e w2=>e=.returned (.tuple #[])/\∃ Λ2,Fr Λ Λ2 scr w1 w2/\R w2 Λ2) (hk:0<k) :
    Calls Tryz.L 31 #[.pointer (some ⟨c,0,none⟩),.func (.func f) #[] cap] v fun e w'=>e=.returned (.tuple #[])/\∃ w2 Λ2,R w2 Λ2/\Fr Λ Λ2 (mineS k) v w2/\w'=w2.setCell ⟨c,0,none⟩ (.int .i32 0)/\Clu w' Λ2 k c N nt nb 0 sh tx bg D ss ts bs/\Fr Λ2 Λ2 (· = (k,0,0)) w2 w':=by
  have f1:Fr Λ Λ (· = (k,0,0)) v (v.setCell ⟨c,0,none⟩ (.int .i32 1)):=Fr.set' hC.blk.lab
  have hC1:=hC.setMu 1
  have e0:∀ r:Role,r.1=k->¬ scr r:=fun r hr=>scr_away hk hr
  refine (lone_aloneF (R:=fun w2=>∃ Λ2,Fr Λ Λ2 scr (v.setCell ⟨c,0,none⟩ (.int .i32 1)) w2/\R w2 Λ2) hf (hC.blk.cell rfl) (hC.blk.thaw (by simp)) ((hcl _ f1 hC1).mono fun e w2 ⟨h1,Λ2,h2,h3⟩=>⟨h1,(hC1.blk.fr h2 (e0 _ rfl)).cell rfl,(hC1.blk.fr h2 (e0 _ rfl)).thaw (by simp),Λ2,h2,h3⟩)).mono ?_
  rintro e w' ⟨rfl,w2,⟨Λ2,h2,h3⟩,rfl⟩
  exact ⟨rfl,w2,Λ2,h3,(f1.mono fun r h=>.inl (by rw [h])).trans (h2.mono fun r h=>.inr h),rfl,(hC1.fr h2 fun r hr=>e0 r hr).setMu 0,Fr.set' (hC1.fr h2 fun r hr=>e0 r hr).blk.lab⟩
set_option maxHeartbeats 1000000 in
theorem lone_bag1 (hk:0<k)(hC:Clu w Λ k c N nt nb 1 sh tx bg D ss ts bs)(h0:At w Λ still b0 (.cells #[.pointer (some ⟨c,0,none⟩)] 23))(h1:At w Λ slip b1 (.cells #[.slice none 0 0] 235))(hl:l.length=nb)(hm:Msgs w Λ l bs)(hn:nb<=1048576) :
    Calls Tryz.L 198 #[.pointer (some ⟨b0,0,none⟩),.pointer (some ⟨b1,0,none⟩)] w fun e w'=>e=.returned (.tuple #[])/\∃ Λ2,Fr Λ Λ2 scr w w'/\∃ y xs,At w' Λ2 slip b1 (.cells #[y] 235)/\Row w' Λ2 tBag 238 7 y nb xs/\ToldAll w' Λ2 l xs:=by
  have hT:=hid' (lone_bagTold hC.bag hl hm (ne_of_fst (by simp [tBag];omega)) hn)
  have c1:=h0.cell (i:=0) rfl
  have c2:w.cell? ⟨c,4,none⟩=some bg:=hC.blk.cell rfl
  have hX:=hid' (And.intro hC h1)
  obtain ⟨bo,bc,rfl⟩:=hC.bag.slice
  clear hC h0 h1 hm
  go_enter LL.func198,Tryz.ntmps198
  go_wp2_with fail
  refine hT.out.mono ?_
  rintro e w1 ⟨y,Λ1,xs,rfl,f1,r1,t1⟩
  obtain ⟨yo,yc,rfl⟩:=r1.slice
  have a1:=hX.out.2.fr f1 (by decide)
  have k1:=a1.cell (i:=0) rfl
  have k2:=a1.thaw (i:=0) (by simp)
  have hY:=hid' (And.intro f1 (And.intro r1 (And.intro t1 a1)))
  clear f1 r1 t1 a1 hT
  go_wp2
  go_end0
  have f2:Fr Λ1 Λ1 (· = slip) w1 (w1.setCell ⟨b1,0,none⟩ (.slice yo nb yc)):=Fr.set' hY.out.2.2.2.lab
  refine ⟨rfl,Λ1,(hY.out.1.mono fun r h=>by subst h;exact ⟨rfl,by decide⟩).trans (f2.mono fun r h=>by subst h;exact ⟨rfl,by decide⟩),_,xs,hY.out.2.2.2.set 0 _,hY.out.2.1.fr f2 (by decide),fun i x hx=>?_⟩
  obtain ⟨o,r,h⟩:=hY.out.2.2.1 i x hx
  exact ⟨o,r,h.fr f2 (by simp [tOps,slip]) (by simp [tRds,slip])⟩
noncomputable def bagW (w:World) (c:Nat):World:=(w.alloc (.cells #[.pointer (some ⟨c,0,none⟩)] 23)).alloc (.cells #[.slice none 0 0] 235)
noncomputable def bagΛ (w:World) (Λ:Lab):Lab:=fun x=>if x=w.heap.size+1 then slip else if x=w.heap.size then still else Λ x
theorem bagFr:Fr Λ (bagΛ w Λ) (fun _=>False) w (bagW w c):=by
  refine (((Fr.refl Λ _ w).alloc _).alloc _).relab fun x hx=>?_
  show (if _ then _ else _)=_
  rw [if_neg (by omega),if_neg (by omega)]
theorem bag_b0:At (bagW w c) (bagΛ w Λ) still w.heap.size (.cells #[.pointer (some ⟨c,0,none⟩)] 23):=by
  refine ⟨?_,?_⟩
  · unfold bagW
    rw [alloc_get,if_neg (by rw [alloc_size];omega),alloc_get,if_pos rfl]
  · show (if _ then _ else _)=_
    rw [if_neg (by omega),if_pos rfl]
theorem bag_b1:At (bagW w c) (bagΛ w Λ) slip (w.heap.size+1) (.cells #[.slice none 0 0] 235):=by
  refine ⟨?_,?_⟩
  · unfold bagW
    rw [alloc_get,if_pos (by rw [alloc_size])]
  · show (if _ then _ else _)=_
    rw [if_pos rfl]
def BagOut (w:World) (Λ:Lab) (k c N nt nb D:Nat) (sh tx bg:Value) (ss ts bs:List Value) (l:List Msg) (e:Ending) (w':World):Prop:=
  ∃ y Λ' xs,e=.returned y/\Fr Λ Λ' (mineS k) w w'/\Clu w' Λ' k c N nt nb 0 sh tx bg D ss ts bs/\Row w' Λ' tBag 238 7 y nb xs/\ToldAll w' Λ' l xs
set_option maxHeartbeats 1000000 in
theorem lone_Bag (hk:0<k)(hC:Clu w Λ k c N nt nb 0 sh tx bg D ss ts bs)(hl:l.length=nb)(hm:Msgs w Λ l bs)(hn:nb<=1048576) :
    Calls Tryz.L 150 #[.pointer (some ⟨c,0,none⟩)] w (BagOut w Λ k c N nt nb D sh tx bg ss ts bs l):=by
  have e1:¬ (still=((k,0,0):Role)):=ne_of_fst (by simp [still];omega)
  have e2:¬ (slip=((k,0,0):Role)):=ne_of_fst (by simp [slip];omega)
  have e3:¬ (tBag=((k,0,0):Role)):=ne_of_fst (by simp [tBag];omega)
  have hI:=hid' (lone_asksS (v:=bagW w c) (Λ:=bagΛ w Λ) (R:=fun w2 Λ2=>∃ y xs,At w2 Λ2 slip (w.heap.size+1) (.cells #[y] 235)/\Row w2 Λ2 tBag 238 7 y nb xs/\ToldAll w2 Λ2 l xs) LL.call198 (hC.fr bagFr fun _ _ z=>z)
    (fun w1 f1 hC1=>lone_bag1 hk hC1 (bag_b0.fr f1 e1) (bag_b1.fr f1 e2) hl ((hm.fr bagFr fun z=>z).fr f1 e1) hn) hk)
  clear hC hm
  go_enter LL.func150,Tryz.ntmps150
  go_wp2_with fail
  refine hI.out.mono ?_
  rintro e w' ⟨rfl,w2,Λ2,⟨y,xs,h1,h2,h3⟩,h4,h5,h6,fc⟩
  have a1:=h1.fr fc e2
  have k1:=a1.cell (i:=0) rfl
  have r1:=h2.fr fc e3
  obtain ⟨yo,yc,rfl⟩:=r1.slice
  have hX:=hid' (And.intro h4 (And.intro h6 (And.intro fc (And.intro r1 h3))))
  clear h1 h2 h3 h4 h5 h6 fc a1 r1 hI
  go_wp2
  go_ret
  refine ⟨_,Λ2,xs,rfl,(bagFr.mono fun _ z=>z.elim).trans (hX.out.1.trans (hX.out.2.2.1.mono fun r h=>.inl (by rw [h]))),hX.out.2.1,hX.out.2.2.2.1,fun i x hx=>?_⟩
  obtain ⟨o,r,h⟩:=hX.out.2.2.2.2 i x hx
  exact ⟨o,r,h.fr hX.out.2.2.1 (ne_of_fst (by simp [tOps];omega)) (ne_of_fst (by simp [tRds];omega))⟩
end
end
section
theorem LL.und138:Tryz.L.underlying 138=some (.map 5 21):=by kernel_rfl
theorem LL.und139:Tryz.L.underlying 139=some (.map 5 3):=by kernel_rfl
theorem LL.und5:Tryz.L.underlying 5=some (.int .u8):=by kernel_rfl
theorem LL.und21:Tryz.L.underlying 21=some (.int .i32):=by kernel_rfl
theorem LL.und3:Tryz.L.underlying 3=some (.int .i64):=by kernel_rfl
theorem LL.keyed5:Maps.Keyed Tryz.L 5:=Maps.int_keyed LL.und5
def tMap:Role:=(0,8,0)
section
variable {w:World}{Λ:Lab}{k ks c N nt nb D b bs bm bt bc bi i:Nat}{t:Int}{sh tx bg x:Value}{ss ts bs':List Value}
theorem owns_empty {e:TypeId}(h:w.heap[bs]? = some emptyMap):w.ownsMap Tryz.L 5 (plainElem (H:=Unit) Tryz.L e) bs 0 (.map []):=
  ⟨#[],0,h,⟨by simp,MapKept.stamped_empty 0,by simp⟩,Nat.le_refl _,rfl⟩
set_option maxHeartbeats 1000000 in
theorem lone_copy32_nil (h:w.heap[bs]? = some emptyMap):Calls Tryz.L 239 #[x,.map (some bs)] w fun e w'=>e=.returned (.tuple #[])/\Fr Λ Λ (fun _=>False) w w':=by
  have hown:=owns_empty (e:=21) h
  clear h
  go_enter LL.func239,Tryz.ntmps239
  go_wp2_with (first
    | (at_range;refine wpList_range_own _ rfl _ 138 rfl 5 21 LL.keyed5 LL.und138 _ bs 0 _ rfl hown ?_;intro w0 hrg0 hg0 hs0)
    | go_in)
  go_frame
  refine wp_loop_rounds 1 ?_
  rw [rounds_succ]
  go_wp2_with (first
    | (at_next;refine wpList_next_ranges_ii _ rfl _ rfl 5 21 .u8 .i32 LL.keyed5 LL.und5 LL.und21 bs w.heap.size 0 _ _ _ rfl hrg0 ?_ ?_)
    | go_in)
  · intro _ hl0
    go_wp2
    go_end0
    exact ⟨rfl,Fr.grown hg0 fun b hb=>by cases hb⟩
  · intro x c w1 cnt1 _ _ _ _ _ hlt
    exact absurd hlt (Nat.not_lt_zero _)
set_option maxHeartbeats 1000000 in
theorem lone_copy64_nil (h:w.heap[bs]? = some emptyMap):Calls Tryz.L 243 #[x,.map (some bs)] w fun e w'=>e=.returned (.tuple #[])/\Fr Λ Λ (fun _=>False) w w':=by
  have hown:=owns_empty (e:=3) h
  clear h
  go_enter LL.func243,Tryz.ntmps243
  go_wp2_with (first
    | (at_range;refine wpList_range_own _ rfl _ 139 rfl 5 3 LL.keyed5 LL.und139 _ bs 0 _ rfl hown ?_;intro w0 hrg0 hg0 hs0)
    | go_in)
  go_frame
  refine wp_loop_rounds 1 ?_
  rw [rounds_succ]
  go_wp2_with (first
    | (at_next;refine wpList_next_ranges_ii _ rfl _ rfl 5 3 .u8 .i64 LL.keyed5 LL.und5 LL.und3 bs w.heap.size 0 _ _ _ rfl hrg0 ?_ ?_)
    | go_in)
  · intro _ hl0
    go_wp2
    go_end0
    exact ⟨rfl,Fr.grown hg0 fun b hb=>by cases hb⟩
  · intro x c w1 cnt1 _ _ _ _ _ hlt
    exact absurd hlt (Nat.not_lt_zero _)
set_option maxHeartbeats 1000000 in
theorem lone_delFunc_nil {f:Value}(h:w.heap[bs]? = some emptyMap):Calls Tryz.L 240 #[.map (some bs),f] w fun e w'=>e=.returned (.tuple #[])/\Fr Λ Λ (fun _=>False) w w':=by
  have hown:=owns_empty (e:=21) h
  clear h
  go_enter LL.func240,Tryz.ntmps240
  go_wp2_with (first
    | (at_range;refine wpList_range_own _ rfl _ 138 rfl 5 21 LL.keyed5 LL.und138 _ bs 0 _ rfl hown ?_;intro w0 hrg0 hg0 hs0)
    | go_in)
  go_frame
  refine wp_loop_rounds 1 ?_
  rw [rounds_succ]
  go_wp2_with (first
    | (at_next;refine wpList_next_ranges_ii _ rfl _ rfl 5 21 .u8 .i32 LL.keyed5 LL.und5 LL.und21 bs w.heap.size 0 _ _ _ rfl hrg0 ?_ ?_)
    | go_in)
  · intro _ hl0
    go_wp2
    go_end0
    exact ⟨rfl,Fr.grown hg0 fun b hb=>by cases hb⟩
  · intro x c w1 cnt1 _ _ _ _ _ hlt
    exact absurd hlt (Nat.not_lt_zero _)
set_option maxHeartbeats 2000000 in
theorem lone_vals1_no (hC:Clu w Λ k c N nt nb 1 sh tx bg D ss ts bs')(hbc:At w Λ still bc (.cells #[.pointer (some ⟨c,0,none⟩)] 23))(hbi:At w Λ still bi (.cells #[.int .i64 t] 3))(ht:¬ (0<=t/\t<N)) :
    Calls Tryz.L 238 #[.pointer (some ⟨bc,0,none⟩),.pointer (some ⟨bi,0,none⟩),.pointer (some ⟨bt,0,none⟩)] w fun e w'=>e=.returned (.tuple #[])/\Fr Λ Λ (fun _=>False) w w':=by
  obtain ⟨os,cs,rfl⟩:=hC.shards.slice
  have c1:w.cell? ⟨bc,0,none⟩=some (.pointer (some ⟨c,0,none⟩)):=hbc.cell rfl
  have c2:w.cell? ⟨bi,0,none⟩=some (.int .i64 t):=hbi.cell rfl
  have c5:w.cell? ⟨c,2,none⟩=some (.slice os N cs):=hC.blk.cell rfl
  have hh:∀ u:World,u.cell? ⟨c,2,none⟩=some (.slice os N cs)->Calls Tryz.L 156 #[.pointer (some ⟨c,0,none⟩),.int .i64 t] u fun e w'=>e=.returned (.bool false)/\w'=u:=fun u hu=>by
    have:=lone_hasShard (w:=u) (c:=c) (t:=t) (o:=os) (N:=N) (cp:=cs) hu
    rwa [decide_eq_false ht] at this
  have hh':=hid' hh
  clear hC hh ht hbc hbi
  go_enter LL.func238,Tryz.ntmps238
  go_wp2_with fail
  go_quiet ((go_at_call 156;exact Calls.quiet_of_same (hh'.out _ (by assumption))))
  go_wp2
  go_end0
  exact ⟨rfl,Fr.same rfl rfl⟩
set_option maxHeartbeats 4000000 in
theorem lone_vals1_up {σ:Role}{cells:Array Value}{fz:Nat × Nat}{bd:Nat}{R:World->Lab->Prop}(hk:0<k)(hC:Clu w Λ k c N nt nb 1 sh tx bg D ss ts bs')(hbc:At w Λ still bc (.cells #[.pointer (some ⟨c,0,none⟩)] 23))(hbi:At w Λ still bi (.cells #[.int .i64 i] 3))(hbt:At w Λ slip bt (.cells #[.map (some bd)] 138))(hi:i<N)(hN:N<=4)(hs:ss[i]? = some (.pointer (some ⟨b,0,none⟩)))(hb:At w Λ σ b (.cells cells 154 fz))(hσ:¬ (σ=tMap))(hup:cells[2]? = some (.bool true))(hmp:cells[5]? = some (.map (some bm)))
    (hcp:∀ u:World,u.heap=w.heap->u.os=w.os->Calls Tryz.L 239 #[.map (some bd),.map (some bm)] u fun e w'=>e=.returned (.tuple #[])/\∃ Λ',Fr Λ Λ' (· = tMap) u w'/\R w' Λ') :
    Calls Tryz.L 238 #[.pointer (some ⟨bc,0,none⟩),.pointer (some ⟨bi,0,none⟩),.pointer (some ⟨bt,0,none⟩)] w fun e w'=>e=.returned (.tuple #[])/\∃ Λ',Fr Λ Λ' (· = tMap) w w'/\R w' Λ':=by
  obtain ⟨g,cs,rfl,_⟩:=hC.shards.some (by omega)
  have c1:w.cell? ⟨bc,0,none⟩=some (.pointer (some ⟨c,0,none⟩)):=hbc.cell rfl
  have c2:w.cell? ⟨bi,0,none⟩=some (.int .i64 i):=hbi.cell rfl
  have c3:w.cell? ⟨bt,0,none⟩=some (.map (some bd)):=hbt.cell rfl
  have c5:w.cell? ⟨c,2,none⟩=some (.slice (some ⟨g,0,none⟩) N cs):=hC.blk.cell rfl
  have c6:w.cell? ⟨g,i,none⟩=some (.pointer (some ⟨b,0,none⟩)):=hC.shards.cell rfl hs
  have c7:w.cell? ⟨b,2,none⟩=some (.bool true):=hb.cell hup
  have c8:w.cell? ⟨b,5,none⟩=some (.map (some bm)):=hb.cell hmp
  have hh:∀ u:World,u.cell? ⟨c,2,none⟩=some (.slice (some ⟨g,0,none⟩) N cs)->Calls Tryz.L 156 #[.pointer (some ⟨c,0,none⟩),.int .i64 i] u fun e w'=>e=.returned (.bool true)/\w'=u:=fun u hu=>by
    have:=lone_hasShard (w:=u) (c:=c) (t:=i) (o:=some ⟨g,0,none⟩) (N:=N) (cp:=cs) hu
    rwa [decide_eq_true (by omega)] at this
  have hh':=hid' hh
  have hcp':=hid' hcp
  have e0:∀ r:Role,r.1=k->¬ (r=tMap):=fun r hr z=>by rw [z] at hr;simp [tMap] at hr;omega
  have hG:=hid' (fun (u u':World) (Λ':Lab) (hu:u.heap=w.heap) (ho:u.os=w.os) (f':Fr Λ Λ' (· = tMap) u u')=>(⟨((hbt.fr (Fr.same (M:=fun _=>False) hu ho) fun z=>z).fr f' (by decide)).cell rfl,((hbc.fr (Fr.same (M:=fun _=>False) hu ho) fun z=>z).fr f' (by decide)).cell rfl,((hbi.fr (Fr.same (M:=fun _=>False) hu ho) fun z=>z).fr f' (by decide)).cell rfl,((hC.blk.fr (Fr.same (M:=fun _=>False) hu ho) fun z=>z).fr f' (e0 _ rfl)).cell rfl,((hC.shards.fr (Fr.same (M:=fun _=>False) hu ho) fun z=>z).fr f' (e0 _ rfl)).cell rfl hs,((hb.fr (Fr.same (M:=fun _=>False) hu ho) fun z=>z).fr f' hσ).cell hmp⟩ :
    u'.cell? ⟨bt,0,none⟩=some (.map (some bd))/\u'.cell? ⟨bc,0,none⟩=some (.pointer (some ⟨c,0,none⟩))/\u'.cell? ⟨bi,0,none⟩=some (.int .i64 i)/\u'.cell? ⟨c,2,none⟩=some (.slice (some ⟨g,0,none⟩) N cs)/\u'.cell? ⟨g,i,none⟩=some (.pointer (some ⟨b,0,none⟩))/\u'.cell? ⟨b,5,none⟩=some (.map (some bm))))
  clear hC hh hcp hbc hbi hbt hs hb hup hmp
  go_enter LL.func238,Tryz.ntmps238
  go_wp2_with fail
  go_quiet ((go_at_call 156;exact Calls.quiet_of_same (hh'.out _ (by assumption))))
  go_wp2_with fail
  go_region_held3 (fun u=>u.cell? ⟨bt,0,none⟩=some (.map (some bd))/\u.cell? ⟨bc,0,none⟩=some (.pointer (some ⟨c,0,none⟩))/\u.cell? ⟨bi,0,none⟩=some (.int .i64 i)/\u.cell? ⟨c,2,none⟩=some (.slice (some ⟨g,0,none⟩) N cs)/\u.cell? ⟨g,i,none⟩=some (.pointer (some ⟨b,0,none⟩))/\u.cell? ⟨b,5,none⟩=some (.map (some bm))) (first|go_keep)
    (first
      | (go_at_call 239;refine (hcp'.out (w.drewN (nq+1)) rfl rfl).mono ?_;rintro e w6 ⟨rfl,Λ6,hF6,hR6⟩;obtain ⟨g1,g2,g3,g4,g5,g6⟩:=hG.out (w.drewN (nq+1)) w6 Λ6 rfl rfl hF6))
  all_goals go_end0
  all_goals exact ⟨rfl,Λ6,(Fr.same rfl rfl:Fr Λ Λ (· = tMap) w (w.drewN (nq+1))).trans hF6,hR6⟩
end
end
section
structure ShdE (w:World) (Λ:Lab) (ks i b m N W R:Nat) (fz:Nat × Nat):Prop where
  blk:At w Λ (ks,1,0) b (.cells (newCells i N m W R) 154 fz)
  vals:At w Λ (ks,2,0) m emptyMap
  locks:At w Λ (ks,2,0) (m+1) emptyMap
theorem ShdE.fr {w w':World}{Λ Λ':Lab}{M:Role->Prop}{ks i b m N W R:Nat}{fz:Nat × Nat}(h:ShdE w Λ ks i b m N W R fz)(f:Fr Λ Λ' M w w')(hm:∀ r,r.1=ks->¬ M r):ShdE w' Λ' ks i b m N W R fz:=
  ⟨h.blk.fr f (hm _ rfl),h.vals.fr f (hm _ rfl),h.locks.fr f (hm _ rfl)⟩
def ShdsE (w:World) (Λ:Lab) (ks N:Nat) (ss:List Value):Prop:=∀ i,i<N->∃ b m W R fz,ss[i]? = some (.pointer (some ⟨b,0,none⟩))/\ShdE w Λ ks i b m N W R fz
theorem ShdsE.fr {w w':World}{Λ Λ':Lab}{M:Role->Prop}{ks N:Nat}{ss:List Value}(h:ShdsE w Λ ks N ss)(f:Fr Λ Λ' M w w')(hm:∀ r,r.1=ks->¬ M r):ShdsE w' Λ' ks N ss:=fun i hi=>by
  obtain ⟨b,m,W,R,fz,h1,h2⟩:=h i hi
  exact ⟨b,m,W,R,fz,h1,h2.fr f hm⟩
section
variable {w:World}{Λ:Lab}{k ks c N nt nb D i:Nat}{t:Int}{sh tx bg x:Value}{ss ts bs':List Value}
noncomputable def valsW (w:World) (c:Nat) (t:Int):World:=((metW w c t).alloc (.map #[] 0)).alloc (.cells #[.map (some (w.heap.size+1+1))] 138)
noncomputable def valsΛ (w:World) (Λ:Lab):Lab:=fun x=>if x=w.heap.size+1+1 then tMap else if x=w.heap.size+1+1+1 then slip else metΛ w Λ x
theorem valsFr:Fr Λ (valsΛ w Λ) (fun _=>False) w (valsW w c t):=by
  refine (((metFr (w:=w) (Λ:=Λ)).alloc _).alloc _).relab fun x hx=>?_
  show (if _ then _ else _)=_
  rw [if_neg (by omega),if_neg (by omega)]
theorem vals_keep {ρ:Role}{x:Nat}{o:Obj}(h:At (metW w c t) (metΛ w Λ) ρ x o):At (valsW w c t) (valsΛ w Λ) ρ x o:=by
  have hlt:=h.lt
  rw [metW_size] at hlt
  refine ⟨?_,?_⟩
  · unfold valsW
    rw [alloc_get,if_neg (by rw [alloc_size,metW_size];omega),alloc_get,if_neg (by rw [metW_size];omega)]
    exact h.obj
  · show (if _ then _ else _)=_
    rw [if_neg (by omega),if_neg (by omega)]
    exact h.lab
theorem vals_bm:At (valsW w c t) (valsΛ w Λ) tMap (w.heap.size+1+1) emptyMap:=by
  refine ⟨?_,?_⟩
  · unfold valsW
    rw [alloc_get,if_neg (by rw [alloc_size,metW_size];omega),alloc_get,if_pos (by rw [metW_size])]
    rfl
  · show (if _ then _ else _)=_
    rw [if_pos rfl]
theorem vals_bt:At (valsW w c t) (valsΛ w Λ) slip (w.heap.size+1+1+1) (.cells #[.map (some (w.heap.size+1+1))] 138):=by
  refine ⟨?_,?_⟩
  · unfold valsW
    rw [alloc_get,if_pos (by rw [alloc_size,metW_size])]
  · show (if _ then _ else _)=_
    rw [if_neg (by omega),if_pos rfl]
def ValsOut (w:World) (Λ:Lab) (k c N nt nb D:Nat) (sh tx bg:Value) (ss ts bs:List Value) (e:Ending) (w':World):Prop:=
  ∃ bm Λ',e=.returned (.map (some bm))/\Fr Λ Λ' (mineS k) w w'/\Clu w' Λ' k c N nt nb 0 sh tx bg D ss ts bs/\At w' Λ' tMap bm emptyMap
set_option maxHeartbeats 1000000 in
theorem lone_Values (hk:0<k)(hks:0<ks)(hC:Clu w Λ k c N nt nb 0 sh tx bg D ss ts bs')(hS:ShdsE w Λ ks N ss)(hkk:ks≠k)(hN:N<=4) :
    Calls Tryz.L 202 #[.pointer (some ⟨c,0,none⟩),.int .i64 t] w (ValsOut w Λ k c N nt nb D sh tx bg ss ts bs'):=by
  have e1:¬ (still=((k,0,0):Role)):=ne_of_fst (by simp [still];omega)
  have e2:¬ (slip=((k,0,0):Role)):=ne_of_fst (by simp [slip];omega)
  have e3:¬ (tMap=((k,0,0):Role)):=ne_of_fst (by simp [tMap];omega)
  have hmm:=@run_makeMap Tryz.L
  have hI:=hid' (lone_asksS (v:=valsW w c t) (Λ:=valsΛ w Λ) (cap:=#[.pointer (some ⟨w.heap.size,0,none⟩),.pointer (some ⟨w.heap.size+1,0,none⟩),.pointer (some ⟨w.heap.size+1+1+1,0,none⟩)]) (R:=fun w2 Λ2=>At w2 Λ2 tMap (w.heap.size+1+1) emptyMap/\At w2 Λ2 slip (w.heap.size+1+1+1) (.cells #[.map (some (w.heap.size+1+1))] 138)) LL.call238 (hC.fr valsFr fun _ _ z=>z)
    (fun w1 f1 hC1=>by
      have h0:=(vals_keep (w:=w) (c:=c) (t:=t) met_bc).fr f1 e1
      have h1:=(vals_keep (w:=w) (c:=c) (t:=t) met_bi).fr f1 e1
      have h2:=(vals_bm (w:=w) (Λ:=Λ) (c:=c) (t:=t)).fr f1 e3
      have h3:=(vals_bt (w:=w) (Λ:=Λ) (c:=c) (t:=t)).fr f1 e2
      by_cases ht:0<=t/\t<N
      · obtain ⟨i,rfl⟩:∃ i:Nat,t=i:=⟨t.toNat,by omega⟩
        have hi:i<N:=by omega
        obtain ⟨b,m,W,R,fz,hs,hE⟩:=(hS.fr (valsFr (w:=w) (c:=c) (t:=i)) fun _ _ z=>z).fr f1 (fun r hr z=>by rw [z] at hr;exact hkk hr.symm) i hi
        refine (lone_vals1_up (R:=fun w' Λ'=>At w' Λ' tMap (w.heap.size+1+1) emptyMap) hk hC1 h0 h1 h3 hi hN hs hE.blk (ne_of_fst (by simp [tMap];omega)) rfl rfl (fun u hu ho=>?_)).mono ?_
        · have fu:Fr (valsΛ w Λ) (valsΛ w Λ) (fun _=>False) w1 u:=Fr.same hu ho
          exact (lone_copy32_nil (Λ:=valsΛ w Λ) (hE.vals.fr fu fun z=>z).obj).mono fun e w' ⟨k1,k2⟩=>⟨k1,_,k2.mono fun _ z=>z.elim,(h2.fr fu fun z=>z).fr k2 fun z=>z⟩
        · rintro e w' ⟨rfl,Λ',k1,k2⟩
          exact ⟨rfl,Λ',k1.mono fun r h=>by subst h;exact ⟨rfl,by decide⟩,k2,h3.fr k1 (by decide)⟩
      · exact (lone_vals1_no hC1 h0 h1 ht).mono fun e w' ⟨k1,k2⟩=>⟨k1,_,k2.mono fun _ z=>z.elim,h2.fr k2 fun z=>z,h3.fr k2 fun z=>z⟩) hk)
  clear hC hS
  go_enter LL.func202,Tryz.ntmps202
  go_wp2_with fail
  refine hI.out.mono ?_
  rintro e w' ⟨rfl,w2,Λ2,⟨h1,h2⟩,h4,h5,h6,fc⟩
  have a1:=h2.fr fc e2
  have a2:=h1.fr fc e3
  have k1:w'.cell? ⟨w.heap.size+1+1+1,0,none⟩=some (.map (some (w.heap.size+1+1))):=a1.cell rfl
  have hX:=hid' (And.intro h4 (And.intro h6 (And.intro fc (And.intro a1 a2))))
  have hdel:=hid' (fun (f:Value)=>lone_delFunc_nil (Λ:=Λ2) (f:=f) a2.obj)
  clear h1 h2 h4 h5 h6 fc a1 a2 hI
  go_wp2_with fail
  refine (hdel.out _).mono ?_
  rintro e w3 ⟨rfl,f3⟩
  have k2:w3.cell? ⟨w.heap.size+1+1+1,0,none⟩=some (.map (some (w.heap.size+1+1))):=(hX.out.2.2.2.1.fr f3 fun z=>z).cell rfl
  have hY:=hid' f3
  clear f3 hdel k1
  go_wp2
  go_ret
  exact ⟨_,Λ2,rfl,(valsFr.mono fun _ z=>z.elim).trans ((hX.out.1.trans (hX.out.2.2.1.mono fun r h=>.inl (by rw [h]))).trans (hY.out.mono fun _ z=>z.elim)),hX.out.2.1.fr hY.out fun _ _ z=>z,hX.out.2.2.2.2.fr hY.out fun z=>z⟩
end
end
section
structure Doc (w:World) (Λ:Lab) (k m N nb nt:Nat) (sh bag txs:Value) (stop:Bool) (rs rb rt:List Value):Prop where
  blk:At w Λ (k,0,0) m (.cells #[sh,bag,txs,.bool stop] 51 (0,0))
  shards:Row w Λ (k,1,0) 52 1 sh N rs
  bag:Row w Λ (k,3,0) 122 7 bag nb rb
  txs:Row w Λ (k,2,0) 69 3 txs nt rt
theorem slotRM:Slot 48 122 7 88:=⟨by kernel_rfl,by kernel_rfl,by decide⟩
theorem slotRT:Slot 49 69 3 56:=⟨by kernel_rfl,by kernel_rfl,by decide⟩
theorem slotRO:Slot 27 61 3 24:=⟨by kernel_rfl,by kernel_rfl,by decide⟩
theorem refL_lst (o:Nat->OpD):∀ n,refL (lst o n)=refRow o n
  | 0=>rfl
  | n+1=>by
    show refL ((List.range (n+1)).map o)=_
    rw [List.range_succ,List.map_append]
    show ((List.range n).map o ++ [o n]).flatMap _=_
    rw [List.flatMap_append]
    show refL (lst o n)++_=_
    rw [refL_lst o n]
    rfl
section
variable {w w':World}{Λ Λ':Lab}{M:Role->Prop}{k m N nb nt:Nat}{sh bag txs:Value}{stop:Bool}{rs rb rt:List Value}
theorem Doc.fr (h:Doc w Λ k m N nb nt sh bag txs stop rs rb rt)(f:Fr Λ Λ' M w w')(hm:∀ r,r.1=k->¬ M r):Doc w' Λ' k m N nb nt sh bag txs stop rs rb rt:=
  ⟨h.blk.fr f (hm _ rfl),h.shards.fr f (hm _ rfl),h.bag.fr f (hm _ rfl),h.txs.fr f (hm _ rfl)⟩
theorem Doc.bagged {w1 w2:World}{Λ2:Lab}{v':Value}{j:Nat}{msg:List Value}(h:Doc w Λ k m N nb nt sh bag txs stop rs rb rt)(f1:Fr Λ Λ (fun _=>False) w w1)(f2:Fr Λ Λ2 (· = (k,3,0)) w1 w2)(hr:Row w2 Λ2 (k,3,0) 122 7 v' (nb+j) (rb++msg)) :
    (∃ o c,v'=.slice o (nb+j) c)/\w2.cell? ⟨m,1,none⟩=some bag/\w2.frozen? ⟨m,1,none⟩=false/\Fr Λ Λ2 (fun r=>r.1=k) w (w2.setCell ⟨m,1,none⟩ v')/\Doc (w2.setCell ⟨m,1,none⟩ v') Λ2 k m N (nb+j) nt sh v' txs stop rs (rb++msg) rt:=by
  have h1:=h.fr f1 fun _ _ z=>z
  have hb:=h1.blk.fr f2 (by simp)
  have f3:Fr Λ2 Λ2 (· = (k,0,0)) w2 (w2.setCell ⟨m,1,none⟩ v'):=Fr.set' hb.lab
  exact ⟨hr.slice,hb.cell rfl,hb.thaw (by simp),((f1.mono fun _ z=>z.elim).trans (f2.mono fun r z=>by rw [z])).trans (f3.mono fun r z=>by rw [z]),
    hb.set 1 v',(h1.shards.fr f2 (by simp)).fr f3 (by simp),hr.fr f3 (by simp),(h1.txs.fr f2 (by simp)).fr f3 (by simp)⟩
theorem plc_tmod {key:Int}{N:Nat}(h:97<=key):(key - 97).tmod N=((plc key N:Nat):Int):=by
  unfold plc
  obtain ⟨a,ha⟩:∃ a:Nat,key - 97=a:=⟨(key - 97).toNat,by omega⟩
  rw [ha]
  simp
  rfl
set_option maxHeartbeats 4000000 in
theorem doc_begin {t g n cap:Nat}{l:List OpD}{o:OpD}(hD:Doc w Λ k m N nb nt sh bag txs stop rs rb rt)(ht:t<nt)(hop:rt[t*3]? = some (.slice (some ⟨g,0,none⟩) n cap))(ho:Row w Λ still 61 3 (.slice (some ⟨g,0,none⟩) n cap) n (refL l))(h0:l[0]? = some o)(hkey:97<=o.key/\o.key<=122)(hN:1<=N)(hN4:N<=4)(hnb:nb<=1048576)(hnt:nt<=1048576) :
    Calls Tryz.L 30 #[.pointer (some ⟨m,0,none⟩),.int .i64 t] w fun e w'=>e=.returned (.tuple #[])/\∃ Λ' bag',Fr Λ Λ' (fun r=>r.1=k) w w'/\Doc w' Λ' k m N (nb+1) nt sh bag' txs stop rs (rb++refBegin (plc o.key N:Nat) t (.slice (some ⟨g,0,none⟩) n cap)) rt:=by
  obtain ⟨osh,csh,hsh⟩:=hD.shards.slice
  obtain ⟨obg,cbg,hbg⟩:=hD.bag.slice
  obtain ⟨gt,ct,htx,_⟩:=hD.txs.some (by omega)
  have hn0:0<n:=by
    have:=ho.len
    rw [len_refL] at this
    have:=(List.getElem?_eq_some_iff.1 h0).1
    omega
  have hc0:w.cell? ⟨m,0,none⟩=some (.slice osh N csh):=by rw [← hsh];exact hD.blk.cell rfl
  have hc1:w.cell? ⟨m,1,none⟩=some (.slice obg nb cbg):=by rw [← hbg];exact hD.blk.cell rfl
  have hc2:w.cell? ⟨m,2,none⟩=some (.slice (some ⟨gt,0,none⟩) nt ct):=by rw [← htx];exact hD.blk.cell rfl
  have hct:w.cell? ⟨gt,t*3,none⟩=some (.slice (some ⟨g,0,none⟩) n cap):=hD.txs.cell (by rw [htx];rfl) hop
  have hk0:w.cell? ⟨g,1,none⟩=some (.int .i64 o.key):=ho.cell (j:=1) rfl (by have:=(refL_get l 0 o h0).2.1;simpa using this)
  have hkk:0<=o.key/\o.key<=255:=by omega
  have hmx:nb+1<=maxLen:=by unfold maxLen;omega
  have hby:(nb+1)*88<=140737488355328:=by omega
  have hone:∀ u ∈ refBegin (plc o.key N:Nat) t (.slice (some ⟨g,0,none⟩) n cap),u.oneCell'=true:=by simp [refBegin,Value.oneCell']
  have fs:∀ w1,Same w.drew w1->Fr Λ Λ (fun _=>False) w (w1.alloc (.cells (refBegin (plc o.key N:Nat) t (.slice (some ⟨g,0,none⟩) n cap)).toArray 122)):=fun w1 hs=>(Fr.same (undrew hs).heap (undrew hs).os).alloc _
  have HA:=hid' (fun (w1 w2:World) (Λ2:Lab) (v':Value) (hs:Same w.drew w1) (f2:Fr Λ Λ2 (· = (k,3,0)) (w1.alloc (.cells (refBegin (plc o.key N:Nat) t (.slice (some ⟨g,0,none⟩) n cap)).toArray 122)) w2) (hr:Row w2 Λ2 (k,3,0) 122 7 v' (nb+1) (rb++refBegin (plc o.key N:Nat) t (.slice (some ⟨g,0,none⟩) n cap)))=>hD.bagged (fs w1 hs) f2 hr)
  have HB:=hid' (fun (w1:World) (hs:Same w.drew w1)=>hD.bag.fr (fs w1 hs) fun z=>z)
  have hAt:=hid' (fun (u:World)=>by have:=lone_at (w:=u) o.key N hN hN4 hkk;rw [plc_tmod hkey.1] at this;exact this)
  clear hD ho hop h0 fs
  subst hbg htx hsh
  go_enter LL.func30,Tryz.ntmps30
  go_wp2_with fail
  go_region_law (first
    | (refine call_step (f:=54) (args:=#[.int .i64 o.key,.int .i64 N]) rfl rfl (by simp [Act.eval,Act.put]) LL.func54 f54_body f54_name (hAt.out _) ?_;intro y w1 hyw;obtain ⟨rfl,hs1⟩:=hyw;have k1:=(undrew hs1).cell ⟨m,1,none⟩;rw [hc1] at k1;have k2:=(World.grownBy_alloc w1 (Obj.cells #[Value.int IntKind.i64 1,Value.int IntKind.i64 (-1),Value.int IntKind.i64 (plc o.key N:Nat),Value.int IntKind.i64 t,Value.bool false,Value.slice (some ⟨g,0,none⟩) n cap,Value.slice none 0 0] 122) none).cell k1 (by simp))
    | (refine append_draw (m:=1) (c:=1) (p:=⟨w1.heap.size,0,none⟩) (news:=refBegin (plc o.key N:Nat) t (.slice (some ⟨g,0,none⟩) n cap)) slotRM slotRM.und (.tmp 17) (.tmp 31) rfl rfl (HB.out w1 hs1) (by simp [Act.eval,Act.put]) (by simp [Act.eval,Act.put]) rfl (fun j u hu=>(made_cell w1 (refBegin (plc o.key N:Nat) t (.slice (some ⟨g,0,none⟩) n cap)).toArray 122 j).trans (by simpa using hu)) hone hmx hby (fun v' w2 Λ2 hF2 hR2=>?_);obtain ⟨⟨o',c',rfl⟩,hc3,hf3,hf4,hd4⟩:=HA.out w1 w2 Λ2 v' hs1 hF2 hR2;have hNR:=hid' (And.intro hf4 hd4);clear hF2 hR2 hf4 hd4 hc0 hc1 hc2 hct hk0 k1 k2 hs1))
  all_goals go_wp2
  all_goals exact ⟨rfl,.tuple #[],results_none rfl _ _ _,rfl,_,_,hNR.out.1,hNR.out.2⟩
end
end
section
section
variable {w w':World}{Λ Λ':Lab}{k m N nb nt:Nat}{sh bag txs:Value}{stop:Bool}{rs rb rt:List Value}{q a b:Int}
theorem doc_do_stop (hD:Doc w Λ k m N nb nt sh bag txs true rs rb rt)(h1:¬ q<1)(h8:¬ 8<q):Calls Tryz.L 68 #[.pointer (some ⟨m,0,none⟩),.int .i64 q,.int .i64 a,.int .i64 b] w fun e w'=>e=.returned (.int .i64 9)/\Fr Λ Λ (fun _=>False) w w':=by
  have c3:w.cell? ⟨m,3,none⟩=some (.bool true):=hD.blk.cell rfl
  clear hD
  go_enter LL.func68,Tryz.ntmps68
  go_wp2
  go_ret
  exact ⟨rfl,Fr.same rfl rfl⟩
theorem doc_again_tx (hD:Doc w Λ k m N nb nt sh bag txs false rs rb rt)(ha:¬ (0<=a/\a<nt)):Calls Tryz.L 68 #[.pointer (some ⟨m,0,none⟩),.int .i64 1,.int .i64 a,.int .i64 b] w fun e w'=>e=.returned (.int .i64 4)/\Fr Λ Λ (fun _=>False) w w':=by
  have c3:w.cell? ⟨m,3,none⟩=some (.bool false):=hD.blk.cell rfl
  obtain ⟨ot,ct,rfl⟩:=hD.txs.slice
  have c2:w.cell? ⟨m,2,none⟩=some (.slice ot nt ct):=hD.blk.cell rfl
  clear hD
  by_cases h1:a<0
  · go_enter LL.func68,Tryz.ntmps68
    go_wp2
    go_ret
    exact ⟨rfl,Fr.same rfl rfl⟩
  · have h2:(nt:Int)<=a:=by omega
    clear ha
    go_enter LL.func68,Tryz.ntmps68
    go_wp2
    go_ret
    exact ⟨rfl,Fr.same rfl rfl⟩
theorem doc_again_many (hD:Doc w Λ k m N nb nt sh bag txs false rs rb rt)(ha:0<=a/\a<nt)(hnb:400<=nb):Calls Tryz.L 68 #[.pointer (some ⟨m,0,none⟩),.int .i64 1,.int .i64 a,.int .i64 b] w fun e w'=>e=.returned (.int .i64 3)/\Fr Λ Λ (fun _=>False) w w':=by
  have c3:w.cell? ⟨m,3,none⟩=some (.bool false):=hD.blk.cell rfl
  obtain ⟨ot,ct,rfl⟩:=hD.txs.slice
  obtain ⟨ob,cb,rfl⟩:=hD.bag.slice
  have c2:w.cell? ⟨m,2,none⟩=some (.slice ot nt ct):=hD.blk.cell rfl
  have c1:w.cell? ⟨m,1,none⟩=some (.slice ob nb cb):=hD.blk.cell rfl
  clear hD
  have h1:¬ a<0:=by omega
  have h2:¬ (nt:Int)<=a:=by omega
  have h3:(400:Int)<=nb:=by omega
  clear ha hnb
  go_enter LL.func68,Tryz.ntmps68
  go_wp2
  go_ret
  exact ⟨rfl,Fr.same rfl rfl⟩
theorem doc_again_yes {t g n cap:Nat}{l:List OpD}{o:OpD}(hD:Doc w Λ k m N nb nt sh bag txs false rs rb rt)(ht:t<nt)(hop:rt[t*3]? = some (.slice (some ⟨g,0,none⟩) n cap))(ho:Row w Λ still 61 3 (.slice (some ⟨g,0,none⟩) n cap) n (refL l))(h0:l[0]? = some o)(hkey:97<=o.key/\o.key<=122)(hN:1<=N)(hN4:N<=4)(hnb:nb<400)(hnt:nt<=1048576) :
    Calls Tryz.L 68 #[.pointer (some ⟨m,0,none⟩),.int .i64 1,.int .i64 t,.int .i64 b] w fun e w'=>e=.returned (.int .i64 0)/\∃ Λ' bag',Fr Λ Λ' (fun r=>r.1=k) w w'/\Doc w' Λ' k m N (nb+1) nt sh bag' txs false rs (rb++refBegin (plc o.key N:Nat) t (.slice (some ⟨g,0,none⟩) n cap)) rt:=by
  have c3:w.cell? ⟨m,3,none⟩=some (.bool false):=hD.blk.cell rfl
  have hB:=hid' (doc_begin hD ht hop ho h0 hkey hN hN4 (by omega) hnt)
  obtain ⟨ot,ct,rfl⟩:=hD.txs.slice
  obtain ⟨ob,cb,rfl⟩:=hD.bag.slice
  have c2:w.cell? ⟨m,2,none⟩=some (.slice ot nt ct):=hD.blk.cell rfl
  have c1:w.cell? ⟨m,1,none⟩=some (.slice ob nb cb):=hD.blk.cell rfl
  clear hD hop ho h0
  have h1:¬ (t:Int)<0:=by omega
  have h2:¬ (nt:Int)<=t:=by omega
  have h3:¬ (400:Int)<=nb:=by omega
  go_enter LL.func68,Tryz.ntmps68
  go_wp2_with fail
  refine hB.out.mono ?_
  rintro e w1 ⟨rfl,hX⟩
  have hX':=hid' hX
  clear hX hB
  go_wp2
  go_ret
  exact ⟨rfl,hX'.out⟩
end
end
section
theorem cell_alloc {w:World}{a:Addr}{o:Obj}{v:Value}(h:w.cell? a=some v):(w.alloc o).cell? a=some v:=by
  rw [← h]
  unfold World.cell?
  rw [Mem.alloc_get,if_neg (World.new_ne w a h).symm]
section
variable {w:World}{Λ:Lab}{i:Nat}{bs:List Value}{k c N nt nb bc bi D:Nat}{E:Nat->Addr}{mu t:Int}{sh tx bg:Value}{ss ts:List Value}
set_option maxHeartbeats 2000000 in
theorem lone_copy1_msg (hE:Errs w Λ E)(hC:Clu w Λ k c N nt nb mu sh tx bg D ss ts bs)(hbc:w.cell? ⟨bc,0,none⟩=some (.pointer (some ⟨c,0,none⟩)))(hbi:w.cell? ⟨bi,0,none⟩=some (.int .i64 t))(ht:¬ (0<=t/\t<nb)) :
    Calls Tryz.L 134 #[.pointer (some ⟨bc,0,none⟩),.pointer (some ⟨bi,0,none⟩)] w fun e w'=>e=.returned (errV (E 6))/\Fr Λ Λ (fun _=>False) w w':=by
  obtain ⟨obg,cbg,rfl⟩:=hC.bag.slice
  have g6:=hE.glob 6 (by omega) (by omega)
  have c4:w.cell? ⟨c,4,none⟩=some (.slice obg nb cbg):=hC.blk.cell rfl
  have hh:∀ u:World,Calls Tryz.L 127 #[.slice obg nb cbg,.int .i64 t] u fun e w'=>e=.returned (.bool false)/\w'=u:=fun u=>by
    have:=lone_bagHas (w:=u) obg nb cbg t
    rwa [decide_eq_false ht] at this
  have hh':=hid' hh
  clear hE hC hh ht
  unfold errV at *
  go_enter LL.func134,Tryz.ntmps134
  go_wp2_with fail
  go_quiet ((go_at_call 127;exact Calls.quiet_of_same (hh'.out _)))
  go_wp2
  go_ret
  exact ⟨rfl,Fr.same rfl rfl⟩
set_option maxHeartbeats 2000000 in
theorem lone_copy1_many (hE:Errs w Λ E)(hC:Clu w Λ k c N nt nb mu sh tx bg D ss ts bs)(hbc:w.cell? ⟨bc,0,none⟩=some (.pointer (some ⟨c,0,none⟩)))(hbi:w.cell? ⟨bi,0,none⟩=some (.int .i64 t))(ht:0<=t/\t<nb)(hnb:400<=nb) :
    Calls Tryz.L 134 #[.pointer (some ⟨bc,0,none⟩),.pointer (some ⟨bi,0,none⟩)] w fun e w'=>e=.returned (errV (E 2))/\Fr Λ Λ (fun _=>False) w w':=by
  obtain ⟨obg,cbg,rfl⟩:=hC.bag.slice
  have g2:=hE.glob 2 (by omega) (by omega)
  have c4:w.cell? ⟨c,4,none⟩=some (.slice obg nb cbg):=hC.blk.cell rfl
  have e400:decide (400<=nb)=true:=by simpa using hnb
  have hh:∀ u:World,Calls Tryz.L 127 #[.slice obg nb cbg,.int .i64 t] u fun e w'=>e=.returned (.bool true)/\w'=u:=fun u=>by
    have:=lone_bagHas (w:=u) obg nb cbg t
    rwa [decide_eq_true ht] at this
  have hh':=hid' hh
  clear hE hC hh ht
  unfold errV at *
  go_enter LL.func134,Tryz.ntmps134
  go_wp2_with fail
  go_quiet ((go_at_call 127;exact Calls.quiet_of_same (hh'.out _)))
  go_wp2_with (go_at_call 46;refine (lone_bagFull _ _ _).mono ?_;rintro e w2 ⟨rfl,rfl⟩)
  go_ret
  exact ⟨rfl,Fr.same rfl rfl⟩
set_option maxHeartbeats 4000000 in
theorem lone_copy1_yes {ty:TypeId}{x:Value}(hk:0<k)(hC:Clu w Λ k c N nt nb mu sh tx bg D ss ts bs)(hbc:At w Λ still bc (.cells #[.pointer (some ⟨c,0,none⟩)] 23 (0,0)))(hbi:At w Λ still bi (.cells #[.int .i64 i] 3 (0,0)))(hm:bs[i]? = some (.iface ty x))(hnb:nb<400) :
    Calls Tryz.L 134 #[.pointer (some ⟨bc,0,none⟩),.pointer (some ⟨bi,0,none⟩)] w fun e w'=>e=.returned .nilIface/\∃ Λ' bg',Fr Λ Λ' (fun r=>r.1=k) w w'/\Clu w' Λ' k c N nt (nb+1) mu sh tx bg' D ss ts (bs ++ [.iface ty x]):=by
  have hi:i<nb:=by
    have:=hC.bag.len
    have:=(List.getElem?_eq_some_iff.1 hm).1
    omega
  obtain ⟨g,cbg,rfl,hcap,_⟩:=hC.bag.some (by omega)
  have c1:w.cell? ⟨bc,0,none⟩=some (.pointer (some ⟨c,0,none⟩)):=hbc.cell rfl
  have c2:w.cell? ⟨bi,0,none⟩=some (.int .i64 i):=hbi.cell rfl
  have c4:w.cell? ⟨c,4,none⟩=some (.slice (some ⟨g,0,none⟩) nb cbg):=hC.blk.cell rfl
  have cg:w.cell? ⟨g,i,none⟩=some (.iface ty x):=hC.bag.cell rfl hm
  have e400:decide (400<=nb)=false:=by simp;omega
  have nk:¬ (still.1=k):=by simp [still];omega
  have hh:∀ u:World,Calls Tryz.L 127 #[.slice (some ⟨g,0,none⟩) nb cbg,.int .i64 i] u fun e w'=>e=.returned (.bool true)/\w'=u:=fun u=>by
    have:=lone_bagHas (w:=u) (some ⟨g,0,none⟩) nb cbg i
    rwa [decide_eq_true (by omega)] at this
  have hh':=hid' hh
  have hP:=hid' (fun (u:World) (f:Fr Λ Λ (fun _=>False) w u)=>lone_put1 (msg:=.iface ty x) (ρ:=still) (x:=#[]) (f:=(0,0)) (i:=0) hk (w0:=w) (Λ0:=Λ) (f.mono fun _ z=>z.elim) (hC.fr f fun _ _ z=>z) rfl (by omega))
  have hG:=hid' (fun (u u':World) (Λ':Lab) (f:Fr Λ Λ (fun _=>False) w u) (f':Fr Λ Λ' (fun r=>r.1=k) u u')=>(⟨((hbc.fr f fun z=>z).fr f' nk).cell rfl,((hbi.fr f fun z=>z).fr f' nk).cell rfl⟩:u'.cell? ⟨bc,0,none⟩=some (.pointer (some ⟨c,0,none⟩))/\u'.cell? ⟨bi,0,none⟩=some (.int .i64 i)))
  clear hC hh hbc hbi hm
  go_enter LL.func134,Tryz.ntmps134
  go_wp2_with fail
  go_quiet ((go_at_call 127;exact Calls.quiet_of_same (hh'.out _)))
  go_wp2_with (go_at_call 46;refine (lone_bagFull _ _ _).mono ?_;rintro e w2 ⟨rfl,rfl⟩)
  have a1:((w.drewN (nq+1)).alloc (.cells #[.iface ty x] 217)).cell? ⟨bc,0,none⟩=some (.pointer (some ⟨c,0,none⟩)):=cell_alloc c1
  have a2:((w.drewN (nq+1)).alloc (.cells #[.iface ty x] 217)).cell? ⟨bi,0,none⟩=some (.int .i64 i):=cell_alloc c2
  have a3:((w.drewN (nq+1)).alloc (.cells #[.iface ty x] 217)).cell? ⟨c,4,none⟩=some (.slice (some ⟨g,0,none⟩) nb cbg):=cell_alloc c4
  have a4:((w.drewN (nq+1)).alloc (.cells #[.iface ty x] 217)).cell? ⟨g,i,none⟩=some (.iface ty x):=cell_alloc cg
  have fq:∀ j,Fr Λ Λ (fun _=>False) w ((w.drewN j).drew):=fun j=>Fr.same rfl rfl
  go_region_law (refine call_draw (f:=48) (args:=#[.pointer (some ⟨c,4,none⟩),.slice (some ⟨(w.drewN nq).drew.heap.size,0,none⟩) 1 1]) rfl rfl (by simp [Act.eval,Act.put]) LL.func48 f48_body f48_name (hP.out (w.drewN nq).drew (fq nq)) ?_;intro y w6 hy;obtain ⟨rfl,Λ6,bg',h6,h7,h8⟩:=hy;have hM6:=hid' (And.intro h6 (And.intro h7 h8));clear h6 h7 h8)
  all_goals
    have hM7:=hM6
    go_wp2
    go_ret
    exact ⟨rfl,Λ6,bg',(fq nq).mono (fun _ z=>z.elim) |>.trans hM7.out.2.2,hM7.out.2.1⟩
end
end
section
section
variable {w w':World}{Λ Λ':Lab}{k m N nb nt i:Nat}{sh bag txs:Value}{stop:Bool}{rs rb rt:List Value}{q a b:Int}
theorem doc_msg_no (hD:Doc w Λ k m N nb nt sh bag txs stop rs rb rt)(ha:¬ (0<=a/\a<nb)):Calls Tryz.L 102 #[.pointer (some ⟨m,0,none⟩),.int .i64 q,.int .i64 a] w fun e w'=>e=.returned (.int .i64 5)/\Fr Λ Λ (fun _=>False) w w':=by
  obtain ⟨ob,cb,rfl⟩:=hD.bag.slice
  have c1:w.cell? ⟨m,1,none⟩=some (.slice ob nb cb):=hD.blk.cell rfl
  clear hD
  by_cases h1:a<0
  · go_enter LL.func102,Tryz.ntmps102
    go_wp2
    go_ret
    exact ⟨rfl,Fr.same rfl rfl⟩
  · have h2:(nb:Int)<=a:=by omega
    clear ha
    go_enter LL.func102,Tryz.ntmps102
    go_wp2
    go_ret
    exact ⟨rfl,Fr.same rfl rfl⟩
structure RM where
  kind:Int
  frm:Int
  to:Int
  tx:Int
  yes:Bool
  oo:Option Addr
  on:Nat
  oc:Nat
  ro:Option Addr
  rn:Nat
  rc:Nat
def RM.cells (x:RM):List Value:=[.int .i64 x.kind,.int .i64 x.frm,.int .i64 x.to,.int .i64 x.tx,.bool x.yes,.slice x.oo x.on x.oc,.slice x.ro x.rn x.rc]
structure RM.In (x:RM) (rb:List Value) (i:Nat):Prop where
  h0:rb[i*7]? = some (.int .i64 x.kind)
  h1:rb[i*7+1]? = some (.int .i64 x.frm)
  h2:rb[i*7+2]? = some (.int .i64 x.to)
  h3:rb[i*7+3]? = some (.int .i64 x.tx)
  h4:rb[i*7+4]? = some (.bool x.yes)
  h5:rb[i*7+5]? = some (.slice x.oo x.on x.oc)
  h6:rb[i*7+6]? = some (.slice x.ro x.rn x.rc)
set_option maxHeartbeats 4000000 in
theorem doc_copy_many {x:RM}(hD:Doc w Λ k m N nb nt sh bag txs stop rs rb rt)(hi:i<nb)(hx:x.In rb i)(hnb:400<=nb)(hn:nb<=1048576):Calls Tryz.L 102 #[.pointer (some ⟨m,0,none⟩),.int .i64 4,.int .i64 i] w fun e w'=>e=.returned (.int .i64 3)/\Fr Λ Λ (fun _=>False) w w':=by
  obtain ⟨gb,cb,rfl,_⟩:=hD.bag.some (by omega)
  have c1:w.cell? ⟨m,1,none⟩=some (.slice (some ⟨gb,0,none⟩) nb cb):=hD.blk.cell rfl
  have d0:=hD.bag.cell rfl hx.h0
  have d1:=hD.bag.cell rfl hx.h1
  have d2:=hD.bag.cell rfl hx.h2
  have d3:=hD.bag.cell rfl hx.h3
  have d4:=hD.bag.cell rfl hx.h4
  have d5:=hD.bag.cell rfl hx.h5
  have d6:=hD.bag.cell rfl hx.h6
  clear hD
  have h1:¬ (i:Int)<0:=by omega
  have h2:¬ (nb:Int)<=i:=by omega
  have h3:(400:Int)<=nb:=by omega
  have b1:(w.alloc (.cells x.cells.toArray 122)).cell? ⟨m,1,none⟩=some (.slice (some ⟨gb,0,none⟩) nb cb):=cell_alloc c1
  unfold RM.cells at b1
  go_enter LL.func102,Tryz.ntmps102
  go_wp2
  go_ret
  exact ⟨rfl,Fr.alloc' _ _⟩
theorem RM.one (x:RM):∀ u ∈ x.cells,u.oneCell'=true:=by simp [RM.cells,Value.oneCell']
set_option maxHeartbeats 4000000 in
theorem doc_copy_yes {x:RM}(hD:Doc w Λ k m N nb nt sh bag txs stop rs rb rt)(hi:i<nb)(hx:x.In rb i)(hnb:nb<400):Calls Tryz.L 102 #[.pointer (some ⟨m,0,none⟩),.int .i64 4,.int .i64 i] w fun e w'=>e=.returned (.int .i64 0)/\∃ Λ' bag',Fr Λ Λ' (fun r=>r.1=k) w w'/\Doc w' Λ' k m N (nb+1) nt sh bag' txs stop rs (rb++x.cells) rt:=by
  obtain ⟨gb,cb,hbg,_⟩:=hD.bag.some (by omega)
  have c1:w.cell? ⟨m,1,none⟩=some (.slice (some ⟨gb,0,none⟩) nb cb):=by rw [← hbg];exact hD.blk.cell rfl
  have d0:=hD.bag.cell (g:=gb) (by rw [hbg];rfl) hx.h0
  have d1:=hD.bag.cell (g:=gb) (by rw [hbg];rfl) hx.h1
  have d2:=hD.bag.cell (g:=gb) (by rw [hbg];rfl) hx.h2
  have d3:=hD.bag.cell (g:=gb) (by rw [hbg];rfl) hx.h3
  have d4:=hD.bag.cell (g:=gb) (by rw [hbg];rfl) hx.h4
  have d5:=hD.bag.cell (g:=gb) (by rw [hbg];rfl) hx.h5
  have d6:=hD.bag.cell (g:=gb) (by rw [hbg];rfl) hx.h6
  have fA:Fr Λ Λ (fun _=>False) w (((w.alloc (.cells x.cells.toArray 122)).alloc (.cells x.cells.toArray 122)).drew):=(((Fr.refl Λ _ w).alloc _).alloc _).drew
  have HB:=hid' (hD.bag.fr fA fun z=>z)
  have HA:=hid' (fun (w2:World) (Λ2:Lab) (v':Value) (f2:Fr Λ Λ2 (· = (k,3,0)) (((w.alloc (.cells x.cells.toArray 122)).alloc (.cells x.cells.toArray 122)).drew) w2) (hr:Row w2 Λ2 (k,3,0) 122 7 v' (nb+1) (rb++x.cells))=>hD.bagged fA f2 hr)
  have HN:=hid' (fun (j:Nat) (u:Value) (hu:x.cells[j]? = some u)=>(alloc_cells (w.alloc (.cells x.cells.toArray 122)) x.cells 122 j u hu:(((w.alloc (.cells x.cells.toArray 122)).alloc (.cells x.cells.toArray 122)).drew).cell? _=_))
  have hsz:(w.alloc (.cells x.cells.toArray 122)).heap.size=w.heap.size+1:=alloc_size _ _
  rw [hsz] at HN
  clear hD hx fA hsz
  have h1:¬ (i:Int)<0:=by omega
  have h2:¬ (nb:Int)<=i:=by omega
  have h3:¬ (400:Int)<=nb:=by omega
  have hmx:nb+1<=maxLen:=by unfold maxLen;omega
  have hby:(nb+1)*88<=140737488355328:=by omega
  have b1:(w.alloc (.cells x.cells.toArray 122)).cell? ⟨m,1,none⟩=some (.slice (some ⟨gb,0,none⟩) nb cb):=cell_alloc c1
  have b2:((w.alloc (.cells x.cells.toArray 122)).alloc (.cells x.cells.toArray 122)).cell? ⟨m,1,none⟩=some (.slice (some ⟨gb,0,none⟩) nb cb):=cell_alloc b1
  subst hbg
  unfold RM.cells at b1 b2
  go_enter LL.func102,Tryz.ntmps102
  go_wp2_with fail
  go_region_law (refine append_draw (m:=1) (c:=1) (p:=⟨w.heap.size+1,0,none⟩) (news:=x.cells) slotRM slotRM.und (.tmp 41) (.tmp 43) rfl rfl HB.out (by simp [Act.eval,Act.put]) (by simp [Act.eval,Act.put]) rfl HN.out x.one hmx hby (fun v' w2 Λ2 hF2 hR2=>?_);obtain ⟨⟨o',c',rfl⟩,hc3,hf3,hf4,hd4⟩:=HA.out w2 Λ2 v' hF2 hR2;have hNR:=hid' (And.intro hf4 hd4);clear hF2 hR2 hf4 hd4 c1 b1 b2)
  all_goals go_wp2
  all_goals go_ret
  all_goals exact ⟨rfl,_,_,hNR.out.1,hNR.out.2⟩
end
end
section
section
variable {w:World}{t t' e e':TypeId}{size bytes m c:Nat}{news:List Value}{p:Addr}
theorem run_append_nil (Λ:Lab)(ρ:Role)(sl:Slot t e size bytes)(ht':Tryz.L.underlying t'=some (.slice e'))(hl:news.length=m*size)(hn:∀ j u,news[j]? = some u->w.cell? (p.add j)=some u)(h1:∀ u ∈ news,u.oneCell'=true)(hm:m<=maxLen)(hb:m*bytes<=140737488355328)(ty:TypeId) :
    ∃ v' w' Λ',(Builtin.append_ #[t,t'] ty #[.slice none 0 0,.slice (some p) m c]).run Tryz.L w=.ok v' w'/\Fr Λ Λ' (fun _=>False) w w'/\Row w' Λ' ρ e size v' m news:=by
  obtain ⟨i,z,s1,s2,s3,s4,s5⟩:=sl.get
  obtain ⟨v',w',h1,h2,h3,_,h5⟩:=run_append_own_at (P:=Tryz.L) w 0 t ty e i z size bytes sl.und s1 s2 s3 s4 s5 sl.pos (.slice none 0 0) 0 [] (World.ownsRow_nil _ _ _ _) p m c news hl hn h1 (by omega) (by rw [Nat.zero_add];exact hb) (Nat.zero_le _)
  rw [Nat.zero_add,List.nil_append] at h2
  refine ⟨v',w',fun x=>if x=w.heap.size then ρ else Λ x,(append_types sl.und ht' _ _ _).trans h1,(Fr.grown h3 fun b hb=>by cases hb).relab fun x hx=>if_neg (by omega),h2,fun b hb=>?_⟩
  rcases h5 with z|z
  · rw [z] at hb
    cases hb
  · rw [z] at hb
    cases hb
    exact if_pos rfl
theorem append_list_nil {ops:Array Oper}{rest:List Oper}{o:Oper}{a:Act}{Q:Exit->Act->World->Prop}(Λ:Lab)(ρ:Role)(sl:Slot t e size bytes)(ht':Tryz.L.underlying t'=some (.slice e'))(x y:Operand)(hg:o.guard=none)(hop:o.op=.call { callee:=.builtin .append,args:=#[x,y],argTypes:=#[t,t'] })
    (hx:a.eval x=.slice none 0 0) (hy:a.eval y=.slice (some p) m c) (hl:news.length=m*size) (hn:∀ j u,news[j]? = some u->w.cell? (p.add j)=some u) (h1:∀ u ∈ news,u.oneCell'=true) (hm:m<=maxLen) (hb:m*bytes<=140737488355328)
    (hK:∀ v' w' Λ',Fr Λ Λ' (fun _=>False) w w'->Row w' Λ' ρ e size v' m news->wpList Tryz.L ops Q rest (a.put o.dst v') w'):wpList Tryz.L ops Q (o :: rest) a w:=by
  refine wpList_plain hg fun K hK'=>?_
  obtain ⟨v',w',Λ',h1,h2,h3⟩:=run_append_nil (c:=c) Λ ρ sl ht' hl hn h1 hm hb o.type
  unfold Oper.wp
  rw [exec_append (ty:=o.type) hop hx hy,Sem.run_bind,h1]
  exact hK' _ _ (hK v' w' Λ' h2 h3)
end
theorem add_off (g o t:Nat):(⟨g,o,none⟩:Addr).add t=⟨g,o+t,none⟩:=by unfold Addr.add;split <;> simp_all
section
variable {w w':World}{Λ Λ':Lab}{k m N nb nt i:Nat}{sh bag txs:Value}{stop:Bool}{rs rb rt:List Value}
theorem Doc.rebag {w1 w2:World}{Λ1 Λ2:Lab}{v':Value}{n':Nat}{rb':List Value}(h:Doc w Λ k m N nb nt sh bag txs stop rs rb rt)(f1:Fr Λ Λ1 (fun _=>False) w w1)(f2:Fr Λ1 Λ2 (· = (k,3,0)) w1 w2)(hr:Row w2 Λ2 (k,3,0) 122 7 v' n' rb') :
    (∃ o c,v'=.slice o n' c)/\w2.cell? ⟨m,1,none⟩=some bag/\w2.frozen? ⟨m,1,none⟩=false/\Fr Λ Λ2 (fun r=>r.1=k) w (w2.setCell ⟨m,1,none⟩ v')/\Doc (w2.setCell ⟨m,1,none⟩ v') Λ2 k m N n' nt sh v' txs stop rs rb' rt:=by
  have h1:=h.fr f1 fun _ _ z=>z
  have hb:=h1.blk.fr f2 (by simp)
  have f3:Fr Λ2 Λ2 (· = (k,0,0)) w2 (w2.setCell ⟨m,1,none⟩ v'):=Fr.set' hb.lab
  exact ⟨hr.slice,hb.cell rfl,hb.thaw (by simp),((f1.mono fun _ z=>z.elim).trans (f2.mono fun r z=>by rw [z])).trans (f3.mono fun r z=>by rw [z]),
    hb.set 1 v',(h1.shards.fr f2 (by simp)).fr f3 (by simp),hr.fr f3 (by simp),(h1.txs.fr f2 (by simp)).fr f3 (by simp)⟩
set_option maxHeartbeats 4000000 in
theorem doc_drop {x:RM}(hD:Doc w Λ k m N nb nt sh bag txs stop rs rb rt)(hone:∀ u ∈ rb,u.oneCell'=true)(hi:i<nb)(hx:x.In rb i)(hnb:nb<=1048576):Calls Tryz.L 102 #[.pointer (some ⟨m,0,none⟩),.int .i64 3,.int .i64 i] w fun e w'=>e=.returned (.int .i64 0)/\∃ Λ' bag',Fr Λ Λ' (fun r=>r.1=k) w w'/\Doc w' Λ' k m N (nb - 1) nt sh bag' txs stop rs (rb.take (i*7)++rb.drop ((i+1)*7)) rt:=by
  obtain ⟨gb,cb,hbg,hcb,h63,_⟩:=hD.bag.some (by omega)
  have hl:=hD.bag.len
  have c1:w.cell? ⟨m,1,none⟩=some (.slice (some ⟨gb,0,none⟩) nb cb):=by rw [← hbg];exact hD.blk.cell rfl
  have d0:=hD.bag.cell (g:=gb) (by rw [hbg];rfl) hx.h0
  have d1:=hD.bag.cell (g:=gb) (by rw [hbg];rfl) hx.h1
  have d2:=hD.bag.cell (g:=gb) (by rw [hbg];rfl) hx.h2
  have d3:=hD.bag.cell (g:=gb) (by rw [hbg];rfl) hx.h3
  have d4:=hD.bag.cell (g:=gb) (by rw [hbg];rfl) hx.h4
  have d5:=hD.bag.cell (g:=gb) (by rw [hbg];rfl) hx.h5
  have d6:=hD.bag.cell (g:=gb) (by rw [hbg];rfl) hx.h6
  have fA:Fr Λ Λ (fun _=>False) w (w.alloc (.cells x.cells.toArray 122)):=(Fr.refl Λ _ w).alloc _
  have b1:(w.alloc (.cells x.cells.toArray 122)).cell? ⟨m,1,none⟩=some (.slice (some ⟨gb,0,none⟩) nb cb):=cell_alloc c1
  have h1:¬ (i:Int)<0:=by omega
  have h2:¬ (nb:Int)<=i:=by omega
  have hb1:0<=(i:Int)+1/\(i:Int)+1<=nb:=by omega
  have hn1:∀ j u,(rb.take (i*7))[j]? = some u->(w.alloc (.cells x.cells.toArray 122)).cell? ((⟨gb,0,none⟩:Addr).add j)=some u:=fun j u hu=>by
    rw [add_off,Nat.zero_add]
    refine (hD.bag.fr fA fun z=>z).cell (by rw [hbg];rfl) ?_
    rw [List.getElem?_take] at hu
    split at hu
    · exact hu
    · cases hu
  obtain ⟨A,hA,hn2⟩:∃ A:Addr,(if cb=i+1 then some (⟨gb,0,none⟩:Addr) else some ⟨gb,(i+1)*7,none⟩)=some A/\Hid (∀ (w1:World) (Λ1:Lab),Fr Λ Λ1 (fun _=>False) w w1->∀ j u,(rb.drop ((i+1)*7))[j]? = some u->w1.cell? (A.add j)=some u):=by
    by_cases h:cb=i+1
    · refine ⟨⟨gb,0,none⟩,by simp [h],fun w1 Λ1 f j u hu=>?_⟩
      rw [List.drop_eq_nil_of_le (by omega)] at hu
      simp at hu
    · refine ⟨⟨gb,(i+1)*7,none⟩,by simp [h],fun w1 Λ1 f j u hu=>?_⟩
      rw [add_off]
      rw [List.getElem?_drop] at hu
      exact (hD.bag.fr f fun z=>z).cell (by rw [hbg];rfl) hu
  have hl1:(rb.take (i*7)).length=i*7:=by simp;omega
  have hl2:(rb.drop ((i+1)*7)).length=(nb - (i+1))*7:=by simp;omega
  have ho1:∀ u ∈ rb.take (i*7),u.oneCell'=true:=fun u hu=>hone u (List.mem_of_mem_take hu)
  have ho2:∀ u ∈ rb.drop ((i+1)*7),u.oneCell'=true:=fun u hu=>hone u (List.mem_of_mem_drop hu)
  have hC:=hid' (fun (w1:World) (Λ1:Lab) (f:Fr Λ Λ1 (fun _=>False) w w1)=>((hD.fr f fun _ _ z=>z).blk.cell rfl:w1.cell? ⟨m,1,none⟩=some bag))
  have HA:=hid' (fun (w1 w2:World) (Λ1 Λ2:Lab) (v':Value) (n':Nat) (rb':List Value) (f1:Fr Λ Λ1 (fun _=>False) w w1) (f2:Fr Λ1 Λ2 (· = (k,3,0)) w1 w2) (hr:Row w2 Λ2 (k,3,0) 122 7 v' n' rb')=>hD.rebag f1 f2 hr)
  have fA':=hid' fA
  have hic:i<=cb:=by omega
  have hjc:i+1<=cb:=by omega
  clear hD hx fA hone
  subst hbg
  unfold RM.cells at b1
  go_enter LL.func102,Tryz.ntmps102
  go_wp2_with (at_builtin;refine park ?_)
  refine append_list_nil (c:=cb) (p:=⟨gb,0,none⟩) (m:=i) (news:=rb.take (i*7)) Λ (k,3,0) slotRM slotRM.und _ _ rfl rfl rfl rfl hl1 hn1 ho1 (by unfold maxLen;omega) (by omega) (fun v1 w1 Λ1 hF1 hR1=>?_)
  have f1:=fA'.out.trans hF1
  have k1:=hC.out w1 Λ1 f1
  obtain ⟨o1,q1,rfl⟩:=hR1.slice
  have hY:=hid' (And.intro f1 hR1)
  clear hF1 hR1 f1 c1 b1 hn1 ho1
  go_wp2_with (at_builtin;refine park ?_)
  refine append_list (c:=cb - (i+1)) (p:=A) (m:=nb - (i+1)) (news:=rb.drop ((i+1)*7)) slotRM slotRM.und _ _ rfl rfl hY.out.2 rfl rfl hl2 (hn2.out w1 Λ1 hY.out.1) ho2 (by unfold maxLen;omega) (by omega) (fun v2 w2 Λ2 hF2 hR2=>?_)
  obtain ⟨⟨o',c',rfl⟩,hc3,hf3,hf4,hd4⟩:=HA.out w1 w2 Λ1 Λ2 v2 _ _ hY.out.1 hF2 hR2
  have hNR:=hid' (And.intro hf4 hd4)
  clear hF2 hR2 hf4 hd4 k1
  go_wp2
  go_ret
  have e:i+(nb - (i+1))=nb - 1:=by omega
  refine ⟨rfl,Λ2,.slice o' (i+(nb - (i+1))) c',hNR.out.1,?_⟩
  rw [← e]
  exact hNR.out.2
end
end
end Go.Proofs.Shardlog
