/- isTransaction, alone. -/
import Derived.Test.YtblcigmggdiccaaGreatDoorPart12
import Derived.Test.YtblcigmggdiccaaGreatDoorPart10
set_option linter.unusedSectionVars false
set_option linter.unusedSimpArgs false
set_option linter.unusedVariables false
set_option maxRecDepth 100000
namespace Go.Proofs.Shardlog
open Go Go.Conc Go.Tame Go.Proofs Go.RowKit
section
structure ClOps (w:World) (b off n:Nat) (o:Nat->OpD):Prop where
  wr:∀ i,i<n->w.cell? ⟨b,off+i*3,none⟩=some (.bool (o i).wr)
  key:∀ i,i<n->w.cell? ⟨b,off+i*3+1,none⟩=some (.int .u8 (o i).key)
  val:∀ i,i<n->w.cell? ⟨b,off+i*3+2,none⟩=some (.int .i32 (o i).val)
section
variable {b off n cap:Nat}{o:Nat->OpD}{w:World}
theorem ClOps.grown {w':World}(h:ClOps w b off n o)(g:Grown w w'):ClOps w' b off n o:=⟨fun i hi=>g.cell (h.wr i hi),fun i hi=>g.cell (h.key i hi),fun i hi=>g.cell (h.val i hi)⟩
theorem Grown.drew {v v':World}(h:Grown v v'):Grown v v'.drew:=⟨h.size,h.heap,h.os⟩
theorem Grown.alloc' {v v':World}(h:Grown v v')(x:Obj):Grown v (v'.alloc x):=h.trans (Grown.alloc v' x)
theorem ClOps.less {m:Nat}(h:ClOps w b off n o)(hm:m<=n):ClOps w b off m o:=⟨fun i hi=>h.wr i (by omega),fun i hi=>h.key i (by omega),fun i hi=>h.val i (by omega)⟩
theorem alloc_get' (u:World)(x:Obj)(i:Nat):(u.alloc x).heap[i]? = if i=u.heap.size then some x else u.heap[i]?:=by
  show (u.heap.push x)[i]? = _
  rw [Array.getElem?_push]
def Tells (R:World->Prop) (p:Prop) (e:Ending) (w':World):Prop:=∃ t:Bool,e=.returned (.bool t)/\(t=true ↔ p)/\R w'
theorem Tells.yes {R:World->Prop}{p:Prop}{e:Ending}{w':World}(h:Tells R p e w')(hp:p):e=.returned (.bool true)/\R w':=by
  obtain ⟨t,rfl,ht,hr⟩:=h
  rw [ht.2 hp]
  exact ⟨rfl,hr⟩
theorem Tells.no {R:World->Prop}{p:Prop}{e:Ending}{w':World}(h:Tells R p e w')(hp:¬ p):e=.returned (.bool false)/\R w':=by
  obtain ⟨t,rfl,ht,hr⟩:=h
  cases t with
  | true=>exact absurd (ht.1 rfl) hp
  | false=>exact ⟨rfl,hr⟩
set_option maxHeartbeats 1000000 in
theorem lone_isOperation (x:OpD):Calls Tryz.L 80 #[.agg #[.bool x.wr,.int .u8 x.key,.int .i32 x.val]] w (Tells (Grown w) x.good):=by
  obtain ⟨wr,key,val⟩:=x
  dsimp only
  go_enter LL.func80,Tryz.ntmps80
  go_wp2
  all_goals go_ret
  all_goals refine ⟨_,rfl,?_,(Grown.refl w).alloc' _⟩
  · simp [OpD.good, *]
  · rename_i h1 h2 h3
    have h3:wr=false:=by simpa using h3
    simp [OpD.good,h1,h2,h3]
  · simp [OpD.good];omega
  · simp [OpD.good];omega
theorem isOp_yes {x:OpD}(h:x.good):Calls Tryz.L 80 #[.agg #[.bool x.wr,.int .u8 x.key,.int .i32 x.val]] w fun e w'=>e=.returned (.bool true)/\Grown w w':=(lone_isOperation x).mono fun _ _ k=>k.yes h
theorem isOp_no {x:OpD}(h:¬ x.good):Calls Tryz.L 80 #[.agg #[.bool x.wr,.int .u8 x.key,.int .i32 x.val]] w fun e w'=>e=.returned (.bool false)/\Grown w w':=(lone_isOperation x).mono fun _ _ k=>k.no h
def touched (o:Nat->OpD) (n:Nat) (key:Int):Prop:=∃ i,i<n/\(o i).key=key
set_option maxHeartbeats 1000000 in
theorem lone_touches (h:ClOps w b off n o)(hn:n<=5864062014805)(key:Int):Calls Tryz.L 81 #[.slice (some ⟨b,off,none⟩) n cap,.int .u8 key] w (Tells (Grown w) (touched o n key)):=by
  go_enter LL.func81,Tryz.ntmps81
  go_wp2
  go_loopw [9] (fun i wr=>∃ k:Nat,k<=n/\i=.int .i64 k/\(∀ j,j<k->(o j).key≠key)/\Grown w wr) (fun i _=>n - (intOf i).toNat)
  case atStart=>exact ⟨0,by omega,rfl,fun i hi=>by omega,Grown.refl w⟩
  case round=>
    obtain ⟨k,hk,rfl,hok,hs⟩:=hrel
    by_cases hlt:k<n
    · have h1:=hs.cell (h.wr k hlt)
      have h2:=hs.cell (h.key k hlt)
      have h3:=hs.cell (h.val k hlt)
      by_cases he:(o k).key=key
      · have hx:touched o n key:=⟨k,hlt,he⟩
        subst he
        go_wp2
        go_ret
        first|exact ⟨true,rfl,by simp [hx],hs.alloc' _⟩
      · go_wp2
        go_roundw
        case rel=>exact ⟨k+1,by omega,by go_num,fun i hi=>by
          by_cases hi':i=k
          · rw [hi'];exact he
          · exact hok i (by omega),hs.alloc' _⟩
        case measure=>simp [intOf];omega
    · have hkn:k=n:=by omega
      subst hkn
      have hx:¬ touched o k key:=fun ⟨i,hi,e⟩=>hok i hi e
      go_wp2
      go_ret
      exact ⟨false,rfl,by simp [hx],hs⟩
theorem touches_yes (h:ClOps w b off n o)(hn:n<=5864062014805){key:Int}(ht:touched o n key):Calls Tryz.L 81 #[.slice (some ⟨b,off,none⟩) n cap,.int .u8 key] w fun e w'=>e=.returned (.bool true)/\Grown w w':=(lone_touches h hn key).mono fun _ _ k=>k.yes ht
theorem touches_no (h:ClOps w b off n o)(hn:n<=5864062014805){key:Int}(ht:¬ touched o n key):Calls Tryz.L 81 #[.slice (some ⟨b,off,none⟩) n cap,.int .u8 key] w fun e w'=>e=.returned (.bool false)/\Grown w w':=(lone_touches h hn key).mono fun _ _ k=>k.no ht
set_option maxHeartbeats 4000000 in
theorem lone_isTx (h:ClOps w b off n o)(hn:n<=5864062014805)(hcap:n<=cap):Calls Tryz.L 44 #[.slice (some ⟨b,off,none⟩) n cap] w (Tells (Grown w) (isTx n o)):=by
  by_cases e1:1<=n
  · by_cases e6:n<=6
    · go_enter LL.func44,Tryz.ntmps44
      go_wp2
      go_loopw [15] (fun i wr=>∃ k:Nat,k<=n/\i=.int .i64 k/\firstOk o k/\Grown w wr) (fun i _=>n - (intOf i).toNat)
      case atStart=>exact ⟨0,by omega,rfl,fun i hi=>by omega,Grown.refl w⟩
      case round=>
        obtain ⟨k,hk,rfl,hok,hs⟩:=hrel
        by_cases hlt:k<n
        · have h1:=hs.cell (h.wr k hlt)
          have h2:=hs.cell (h.key k hlt)
          have h3:=hs.cell (h.val k hlt)
          have hops:=h.grown hs
          clear h
          have hk':ClOps wr b off k o:=hops.less hk
          have hkc:k<=cap:=by omega
          have hb1:((wr.alloc (Obj.cells #[Value.bool (o k).wr,Value.int IntKind.u8 (o k).key,Value.int IntKind.i32 (o k).val] 65)).drew).cell? ⟨wr.heap.size,1,none⟩=some (.int .u8 (o k).key):=by
            show (wr.alloc _).cell? _=_
            unfold World.cell?
            rw [alloc_get',if_pos rfl]
            rfl
          have hgr:Grown wr ((wr.alloc (Obj.cells #[Value.bool (o k).wr,Value.int IntKind.u8 (o k).key,Value.int IntKind.i32 (o k).val] 65)).drew):=((Grown.refl wr).alloc' _).drew
          by_cases hg:(o k).good
          · by_cases ht:touched o k (o k).key
            · have hx:¬ isTx n o:=fun hx=>by
                obtain ⟨i,hi,e⟩:=ht
                exact (hx.2.2 k hlt).2 i hi e
              go_wp2_with fail
              go_region_with (first|(go_at_call 80;refine (isOp_yes hg).mono ?_;rintro e w1 ⟨rfl,hw1⟩;have hb2:=hw1.cell hb1)|(go_at_call 81;refine (touches_yes ((hk'.grown hgr).grown hw1) (by omega) ht).mono ?_;rintro e w2 ⟨rfl,hw2⟩))
              all_goals go_wp2
              all_goals go_ret
              all_goals exact ⟨false,rfl,by simp [hx],(hs.trans hgr).trans (hw1.trans hw2)⟩
            · go_wp2_with fail
              go_region_with (first|(go_at_call 80;refine (isOp_yes hg).mono ?_;rintro e w1 ⟨rfl,hw1⟩;have hb2:=hw1.cell hb1)|(go_at_call 81;refine (touches_no ((hk'.grown hgr).grown hw1) (by omega) ht).mono ?_;rintro e w2 ⟨rfl,hw2⟩))
              all_goals go_wp2
              all_goals go_roundw
              all_goals first
                | exact ⟨k+1,by omega,by go_num,fun i hi=>by
                    by_cases hi':i=k
                    · subst hi'
                      exact ⟨hg,fun j hj e=>ht ⟨j,hj,e⟩⟩
                    · exact hok i (by omega),(hs.trans hgr).trans (hw1.trans hw2)⟩
                | (simp [intOf];omega)
          · have hx:¬ isTx n o:=fun hx=>hg (hx.2.2 k hlt).1
            go_wp2_with fail
            first
              | go_region_with (go_at_call 80;refine (isOp_no hg).mono ?_;rintro e w1 ⟨rfl,hw1⟩)
              | fail
            all_goals go_wp2
            all_goals go_ret
            all_goals exact ⟨false,rfl,by simp [hx],(hs.trans hgr).trans hw1⟩
        · have hkn:k=n:=by omega
          subst hkn
          have hx:isTx k o:=⟨e1,e6,hok⟩
          go_wp2
          go_ret
          exact ⟨true,rfl,by simp [hx],hs⟩
    · have hx:¬ isTx n o:=fun hx=>e6 hx.2.1
      go_enter LL.func44,Tryz.ntmps44
      go_wp2
      go_ret
      exact ⟨_,rfl,by simp [hx],Grown.refl w⟩
  · have hx:¬ isTx n o:=fun hx=>e1 hx.1
    go_enter LL.func44,Tryz.ntmps44
    go_wp2
    go_ret
    exact ⟨_,rfl,by simp [hx],Grown.refl w⟩
end
end
end Go.Proofs.Shardlog
