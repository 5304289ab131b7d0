/- Several texts in one: Errs, Script, TameEnd, Close. -/
import Derived.Test.YtblcigmggdiccaaGreatDoorRows
import Derived.Test.YtblcigmggdiccaaGreatDoorPart17
import Derived.Test.YtblcigmggdiccaaGreatDoorPart25
import Derived.ChangeSame
import Derived.LaidLaws
import Derived.LaidHandle
import Derived.Test.YtblcigmggdiccaaGreatDoorPart23
import Derived.Deep.Slices
import Derived.Deep.Fields
import Derived.SizedLaws
import Derived.ProofKit
import Derived.Conc.Beside
import Derived.Carry
import Derived.LaidMore
import Derived.Conc.HoldsTime
import Derived.Stop.Joined
import Derived.SevenTiedAt
set_option linter.unusedSectionVars false
set_option linter.unusedSimpArgs false
set_option linter.unusedVariables false
set_option maxRecDepth 100000
namespace Go.Proofs.Shardlog
open Go Go.Conc Go.Tame Go.Proofs Go.Mem Go.ChangeShapes
section
def IsErr (d:DataW Unit):Prop:=∃ text,d=.iface "*errors.errorString" (.ptr (.agg [.lit (.string text)]))
section
variable {P:Program}{ti tp te ts:TypeId}{ms:Array (String × TypeId)}{f:Field}
theorem sentinels (hi:P.underlying ti=some (.interface ms))(hrow:∀ u,P.typeName? 3 u=some "*errors.errorString" -> u=tp)
    (hp:P.underlying tp=some (.pointer te)) (he:P.underlying te=some (.struct #[f])) (hft:f.type=ts) (hfo:f.offset=0) (hs:P.underlying ts=some .string) (hc:P.cellsOf te=1) (hcs:P.cellsOf ts=1)
    {W:World} (l:List (String × DataW Unit)):∀ (G:Nat->Nat) (ps:List MemPlace),
    (∀ j x,l[j]? = some x->IsErr x.2/\P.globalNamed x.1=some (G j)/\(P.globals[G j]?).map (·.type)=some ti) ->
    DataW.LaidVars P W l ps ->
    (∀ b off,MemPlace.cell b off ∈ ps->∀ u v,W.cell? ⟨b,off,none⟩=some (.iface u v)->Value.okWide P W .any 0 u v) ->
    ∃ la:List Addr,la.length=l.length/\(∀ j a,la[j]? = some a->W.cell? ⟨G j,0,none⟩=some (.iface tp (.pointer (some a))))/\(la.map fun a=>MemPlace.cell a.block a.off).Sublist ps:=by
  induction l with
  | nil=>exact fun G ps _ hl _=>⟨[],rfl,fun j a h=>by simp at h,by simp⟩
  | cons x r ih=>
    intro G ps hx hl hok
    obtain ⟨name,d⟩:=x
    obtain ⟨g,t,cs,fuel,p,q,hg,ht,hv,hd,hr,rfl⟩:=hl
    obtain ⟨⟨text,hd'⟩,hgn,htn⟩:=hx 0 _ rfl
    simp only at hd' hgn htn
    subst hd'
    have hgn':g=G 0:=Option.some.inj (hg.symm.trans hgn)
    subst hgn'
    obtain rfl:=Option.some.inj (ht.symm.trans htn)
    obtain ⟨lcs⟩:=cs
    have ok0:∀ u v,lcs = [.iface u v]->Value.okWide P W .any 0 u v:=fun u v e=>by
      subst e
      exact hok (G 0) 0 (by simp [MemPlace.row]) u v (by simpa using World.var?_cell hg hv 0)
    obtain ⟨a,s,rfl,_,_,_,rfl⟩:=errorString_of_trod hi hrow hp he hft hfo hs hc hcs hd ok0
    obtain ⟨la,hlen,hcell,hsub⟩:=ih (fun j=>G (j+1)) q
      (fun j y hy=>hx (j+1) y (by simpa using hy))
      hr (fun b off hm=>hok b off (by simp [hm]))
    refine ⟨a :: la,by simp [hlen],fun j b hb=>?_,?_⟩
    · rcases j with _|j
      · obtain rfl:a=b:=by simpa using hb
        simpa using World.var?_cell hg hv 0
      · exact hcell j b (by simpa using hb)
    · rw [show MemPlace.row a 1 = [.cell a.block a.off] from rfl,List.append_assoc]
      refine List.Sublist.trans ?_ (List.sublist_append_right _ _)
      simpa using hsub
theorem sentinels_apart {la:List Addr}{ps:List MemPlace}(hnd:ps.Nodup)(hsub:(la.map fun a=>MemPlace.cell a.block a.off).Sublist ps){i k:Nat}{a b:Addr}(ha:la[i]? = some a)(hb:la[k]? = some b)(hne:i≠k):a≠b:=by
  have h:=hnd.sublist hsub
  rintro rfl
  have e:∀ i,la[i]? = some a->∃ h:i<(la.map fun a=>MemPlace.cell a.block a.off).length,(la.map fun a=>MemPlace.cell a.block a.off)[i] = MemPlace.cell a.block a.off:=fun i ha=>by
    have hi:i<(la.map fun a=>MemPlace.cell a.block a.off).length:=by
      rw [List.length_map];exact (List.getElem?_eq_some_iff.1 ha).1
    refine ⟨hi,?_⟩
    have e1:(la.map fun a=>MemPlace.cell a.block a.off)[i]? = some (MemPlace.cell a.block a.off):=by rw [List.getElem?_map,ha];rfl
    rw [List.getElem?_eq_getElem hi] at e1
    exact Option.some.inj e1
  obtain ⟨hi,ei⟩:=e i ha
  obtain ⟨hk,ek⟩:=e k hb
  have hp:=List.pairwise_iff_getElem.1 h
  rcases Nat.lt_or_gt_of_ne hne with hlt|hlt
  · exact hp i k hi hk hlt (ei.trans ek.symm)
  · exact hp k i hk hi hlt (ek.trans ei.symm)
theorem laidMetH_parts {P:Program}{laid:List (String × DataW Unit)}{W:World}(h:laidMetH P laid W)(hne:(laid.filter fun x=>x.2.handleName?.isSome).isEmpty=false) :
    laidMet P (laid.filter fun x=>x.2.handleName?.isNone) W/\handlesMet P (laid.filter fun x=>x.2.handleName?.isSome) W:=by
  unfold laidMetH at h
  split at h
  · rename_i e
    rw [e] at hne
    cases hne
  · rename_i e
    rw [e]
    exact h
end
open YtblcigmggdiccaaGreatDoor
theorem Tryz.own:ownKnob Tryz.prog.godebug=none:=by kernel_rfl
theorem Tryz.cells406:Tryz.prog.cellsOf 406=1:=by kernel_rfl
theorem Tryz.cells9:Tryz.prog.cellsOf 9=1:=by kernel_rfl
theorem Tryz.star : "*" ++ "errors.errorString" = "*errors.errorString":=by decide
theorem Tryz.row384 (u:TypeId)(h:Tryz.prog.typeName? 3 u=some "*errors.errorString"):u=384:=
  typeName_ptr_named (nm:= "errors.errorString") (by rw [Tryz.star];kernel_rfl) (by kernel_rfl) (by decide) u (by rw [Tryz.star];exact h)
def sents:List (String × DataW Unit):=[("shardlog/cluster.ErrShape",Rows.laid_shardlog_cluster_ErrShape),("shardlog/cluster.ErrOps",Rows.laid_shardlog_cluster_ErrOps),("shardlog/cluster.ErrMany",Rows.laid_shardlog_cluster_ErrMany),("shardlog/cluster.ErrTx",Rows.laid_shardlog_cluster_ErrTx),("shardlog/cluster.ErrMessage",Rows.laid_shardlog_cluster_ErrMessage),("shardlog/cluster.ErrShard",Rows.laid_shardlog_cluster_ErrShard),("shardlog/cluster.ErrDown",Rows.laid_shardlog_cluster_ErrDown),("shardlog/cluster.ErrUp",Rows.laid_shardlog_cluster_ErrUp),("shardlog/cluster.ErrStopped",Rows.laid_shardlog_cluster_ErrStopped)]
theorem Tryz.named:((List.range 9).all fun j=>((sents[j]?).bind fun x=>Tryz.prog.globalNamed x.1) == some (ordE j) && (Tryz.prog.globals[ordE j]?).map (·.type) == some 44)=true:=by kernel_rfl
theorem Tryz.et:Tryz.prog.globalNamed "errors.errorType" = some 4:=by kernel_rfl
theorem Tryz.rt:(Tryz.prog.cutTypes.find? (·.1 == "internal/reflectlite.rtype")).map (·.2)=some 199:=by kernel_rfl
theorem Tryz.oneRow:((List.range Tryz.prog.types.size).filter fun t=>Tryz.prog.rowNamed t [101,114,114,111,114]) = [44]:=by kernel_rfl
def posE:Nat->Nat
  | 0=>0|1=>1|2=>2|5=>3|6=>4|7=>5|8=>6|9=>7|_=>8
theorem ord_pos {i:Nat}(hi:i<10)(h4:i≠4):ordE (posE i)=i:=by
  rcases i with _|_|_|_|_|_|_|_|_|_|i <;> first|rfl|omega
theorem pos_lt (i:Nat):posE i<9:=by
  unfold posE
  split <;> decide
theorem lt_of_cell {W:World}{a:Addr}{x:Value}(h:W.cell? a=some x):a.block<W.heap.size:=by
  unfold World.cell? at h
  rcases Nat.lt_or_ge a.block W.heap.size with hl|hl
  · exact hl
  · rw [Array.getElem?_eq_none_iff.2 hl] at h
    simp at h
theorem errs_of_laid {W:World}(h:laidMetH Tryz.prog (("errors.errorType",Rows.laid_errors_errorType) :: sents) W):∃ E,Errs (Tame.World.tamed W) (fun _=>still) E:=by
  obtain ⟨⟨ps,hl,hnd,hrows⟩,hh⟩:=laidMetH_parts h (by kernel_rfl)
  rw [show (("errors.errorType",Rows.laid_errors_errorType) :: sents).filter (fun x=>x.2.handleName?.isNone)=sents by kernel_rfl] at hl
  obtain ⟨name,u,ty,e1,e2,e3,e4,e5⟩:=hh ("errors.errorType",Rows.laid_errors_errorType) (by rw [List.mem_filter];exact ⟨List.mem_cons_self ..,by kernel_rfl⟩)
  have en:name = [101,114,114,111,114]:=(Option.some.inj e1).symm
  subst en
  obtain rfl:=Option.some.inj (Tryz.rt.symm.trans e2)
  have hm:ty ∈ (List.range Tryz.prog.types.size).filter fun t=>Tryz.prog.rowNamed t [101,114,114,111,114]:=List.mem_filter.2 ⟨List.mem_range.2 e3,e4⟩
  rw [Tryz.oneRow] at hm
  obtain rfl:=List.mem_singleton.1 hm
  have hth:typeHandle Tryz.prog 44=.pointer (some ⟨10,44,none⟩):=by kernel_rfl
  rw [hth] at e5
  have hty:W.cell? ⟨4,0,none⟩=some (.iface 199 (.agg #[.pointer (some ⟨10,44,none⟩)])):=by simpa using World.var?_cell Tryz.et e5 0
  obtain ⟨la,hlen,hcell,hsub⟩:=sentinels Tryz.underlying44 Tryz.row384 Tryz.underlying384 Tryz.underlying406 rfl rfl Tryz.underlying9 Tryz.cells406 Tryz.cells9 sents ordE ps
    (fun j x hx=>by
      have hj:j<9:=(List.getElem?_eq_some_iff.1 hx).1
      have hn:=List.all_eq_true.1 Tryz.named j (List.mem_range.2 hj)
      rw [hx] at hn
      simp only [Option.bind_some,Bool.and_eq_true,beq_iff_eq] at hn
      refine ⟨?_,hn.1,hn.2⟩
      match j,hj with
      | 0,_|1,_|2,_|3,_|4,_|5,_|6,_|7,_|8,_=>exact ⟨_,(congrArg Prod.snd (Option.some.inj hx)).symm⟩)
    hl (fun b off hm=>(hrows b off hm).2)
  have hlen9:la.length=9:=hlen
  have hget:∀ i,la[posE i]? = some (la.getD (posE i) default):=fun i=>by
    have:=pos_lt i
    rw [List.getD_eq_getElem?_getD,List.getElem?_eq_getElem (by omega)];rfl
  have hg:∀ i,i<10->i≠4->W.cell? ⟨i,0,none⟩=some (errV (la.getD (posE i) default)):=fun i hi h4=>by
    have:=hcell (posE i) _ (hget i)
    rwa [ord_pos hi h4] at this
  have hb:∀ i,∃ ca ta,W.heap[(la.getD (posE i) default).block]? = some (.cells ca ta (0,0)):=fun i=>
    (hrows _ (la.getD (posE i) default).off (hsub.subset (List.mem_map.2 ⟨_,List.mem_of_getElem? (hget i),rfl⟩))).1
  have hsz:(Tame.World.tamed W).heap.size=W.heap.size:=by simp [Tame.World.tamed]
  refine ⟨fun i=>la.getD (posE i) default,fun i hi h4=>?_,fun i hi h4=>?_,fun i hi h4=>?_,?_,fun i j hi hj hi4 hj4 hne=>?_,fun i hi=>⟨rfl,?_,fun h4=>⟨rfl,?_⟩⟩⟩
  · rw [tamed_cell]
    exact hg i hi h4
  · obtain ⟨ca,ta,h⟩:=hb i
    unfold World.frozen?
    rw [tamed_cells h]
    simp
  · obtain ⟨ca,ta,h⟩:=hb i
    exact ⟨ca,ta,tamed_cells h⟩
  · rw [tamed_cell]
    exact hty
  · refine sentinels_apart hnd hsub (hget i) (hget j) fun e=>hne ?_
    rw [← ord_pos hi hi4,← ord_pos hj hj4,e]
  · rw [hsz]
    by_cases h4:i=4
    · subst h4
      exact lt_of_cell hty
    · exact lt_of_cell (hg i hi h4)
  · rw [hsz]
    obtain ⟨ca,ta,h⟩:=hb i
    exact (Array.getElem?_eq_some_iff.1 h).1
end
end Go.Proofs.Shardlog
namespace Go.Proofs.Shardlog
open Go Go.Conc Go.Tame Go.Proofs Go.Deep Go.ChangeShapes
section
section
variable {H:Type}{enc:TypeId × Value->H}{w:World}{base:Nat}{sp:Nat->Bool}{held:Bool}
theorem open_structs {P:Program}{t e:TypeId}{fs:Array Field}{fuel:Nat}{cs:List Value}{x:DataW H × List MemPlace}(ht:P.underlying t=some (.slice e))(he:P.underlying e=some (.struct fs))(hone:∀ (i:Nat) (f:Field),fs[i]? = some f->f.offset=i/\P.cellsOf f.type=1)(hC:P.cellsOf e=fs.size)(hpos:0<fs.size)
    (h:DataW.trod enc P w base sp held fuel t cs=some x) :
    cs = [.slice none 0 0]∨∃ (a:Addr) (len cap n:Nat) (D:Nat->DataW H) (spare:List (DataW H)),cs = [.slice (some a) len cap]/\x.1=.slice ((List.range len).map D) spare /\
      ∀ i,i<len->a.spot=none/\∃ ys:List (DataW H × List MemPlace),D i=.agg (ys.map (·.1))/\∀ (j:Nat) (f:Field),fs[j]? = some f->∃ v y,ys[j]? = some y/\w.cell? ⟨a.block,a.off+i*fs.size+j,none⟩=some v/\DataW.trod enc P w base sp held n f.type [v] = some y:=by
  rcases open_slice ht h with ⟨h0,_⟩|⟨a,len,cap,m,n,D,Pl,rfl,hb,hl,hm,hmm,rfl,hx⟩
  · exact .inl h0
  right
  have hlm:len<=m:=by rw [hmm];split <;> omega
  cases n with
  | zero=>
    refine ⟨a,len,cap,0,D,_,rfl,rfl,fun i hi=>?_⟩
    obtain ⟨cs',_,h2⟩:=hx i (by omega)
    simp [DataW.trod] at h2
  | succ n=>
  refine ⟨a,len,cap,n,D,_,rfl,rfl,fun i hi=>?_⟩
  obtain ⟨cs',h1,h2⟩:=hx i (by omega)
  rw [hC] at h1
  obtain ⟨_,hlen,hcell⟩:=World.cells?_some h1
  obtain ⟨xs,n',hn',hxe,_,hxl,hf⟩:=DataW.trod_struct he h2
  obtain rfl:n=n':=by omega
  obtain ⟨b,o,spot⟩:=a
  have hspot:spot=none:=by
    obtain ⟨cs0,k1,_⟩:=hx 0 (by omega)
    rw [hC] at k1
    obtain ⟨_,klen,kcell⟩:=World.cells?_some k1
    have h0:=kcell 0 hpos
    rw [List.getElem?_eq_getElem (by omega)] at h0
    have:=World.cell?_spot h0
    simpa [Addr.add] using this
  subst hspot
  refine ⟨rfl,xs,(congrArg Prod.fst hxe),fun j f hj=>?_⟩
  have hlt:j<fs.size:=(Array.getElem?_eq_some_iff.1 hj).1
  obtain ⟨ho,hc1⟩:=hone j f hj
  have g:=hf j f hj
  rw [ho,hc1] at g
  rw [take1_drop cs' j undef (by omega),List.getElem?_eq_getElem (by omega)] at g
  refine ⟨cs'.getD j undef,xs[j],List.getElem?_eq_getElem _,?_,g⟩
  have:=hcell j hlt
  rw [List.getElem?_eq_getElem (by omega)] at this
  have e:((⟨b,o,none⟩:Addr).add (i*fs.size)).add j=⟨b,o+i*fs.size+j,none⟩:=by rw [WideShapes.add_plain,WideShapes.add_plain]
  rw [e] at this
  rw [this]
  simp [List.getD,List.getElem?_eq_getElem (show j<cs'.length by omega)]
theorem mem_weightsAll {P:Program}{e:TypeId}:∀ {l:List (DataW H)} {d:DataW H},d ∈ l->∀ n ∈ d.weights P e,n ∈ DataW.weightsAll P e l
  | x :: l,d,h,n,hn=>by
    unfold DataW.weightsAll
    rcases List.mem_cons.1 h with rfl|h
    · exact List.mem_append_left _ hn
    · exact List.mem_append_right _ (mem_weightsAll h n hn)
theorem slice_weights {P:Program}{t e:TypeId}{es spare:List (DataW H)}(ht:P.underlying t=some (.slice e))(n:Nat):n ∈ (DataW.slice es spare).weights P t ↔ n=(es.length+spare.length)*P.bytesOf e∨n ∈ DataW.weightsAll P e es∨n ∈ DataW.weightsAll P e spare:=by
  unfold DataW.weights
  rw [ht]
  simp
theorem wf_i64 {n:Int}(h:(Lit.int .i64 n).wf=true):inI64 n:=by
  simpa [Lit.wf,IntKind.min,IntKind.max,IntKind.signed,IntKind.bits,inI64] using h
theorem Tryz.bytes29:Tryz.prog.bytesOf 29=64:=by kernel_rfl
theorem Tryz.bytes61:Tryz.prog.bytesOf 61=24:=by kernel_rfl
theorem opsAt_of {fuel:Nat}{sl:Value}{y:DataW H × List MemPlace}(h:DataW.trod enc Tryz.prog w base sp held fuel 27 [sl] = some y)(hz:∀ n ∈ y.1.weights Tryz.prog 27,n<=reachBytes):OpsAt w sl:=by
  rcases open_structs Tryz.underlying27 Tryz.underlying61 (hone_of (by kernel_rfl)) (by kernel_rfl) (by decide) h with h0|⟨a,len,cap,n,D,spare,h1,h2,h3⟩
  · cases h0
    exact ⟨0,fun _=>⟨false,0,0⟩,by omega,.inl ⟨_,_,rfl,rfl⟩⟩
  · cases h1
    have hlen:len<=5864062014805:=by
      have:=hz _ (by rw [h2];exact (slice_weights Tryz.underlying27 _).2 (.inl rfl))
      rw [Tryz.bytes61] at this
      unfold reachBytes at this
      simp at this
      omega
    rcases Nat.eq_zero_or_pos len with rfl|h0
    · exact ⟨0,fun _=>⟨false,0,0⟩,by omega,.inl ⟨_,_,rfl,rfl⟩⟩
    · obtain ⟨b,o,s⟩:=a
      obtain rfl:s=none:=(h3 0 h0).1
      have key:∀ i,i<len->∃ x:OpD,w.cell? ⟨b,o+i*3,none⟩=some (.bool x.wr)/\w.cell? ⟨b,o+i*3+1,none⟩=some (.int .i64 x.key)/\w.cell? ⟨b,o+i*3+2,none⟩=some (.int .i64 x.val):=fun i hi=>by
        obtain ⟨_,ys,_,hf⟩:=h3 i hi
        obtain ⟨v0,y0,_,c0,t0⟩:=hf 0 _ rfl
        obtain ⟨v1,y1,_,c1,t1⟩:=hf 1 _ rfl
        obtain ⟨v2,y2,_,c2,t2⟩:=hf 2 _ rfl
        obtain ⟨b0,e0,_⟩:=DataW.trod_bool Tryz.underlying4 t0
        obtain ⟨n1,e1,_,_⟩:=DataW.trod_int Tryz.underlying3 t1
        obtain ⟨n2,e2,_,_⟩:=DataW.trod_int Tryz.underlying3 t2
        cases e0;cases e1;cases e2
        exact ⟨⟨b0,n1,n2⟩,c0,c1,c2⟩
      haveI:Inhabited OpD:=⟨⟨false,0,0⟩⟩
      obtain ⟨f,hf⟩:=choose_lt (α:=OpD) (p:=fun i x=>w.cell? ⟨b,o+i*3,none⟩=some (.bool x.wr)/\w.cell? ⟨b,o+i*3+1,none⟩=some (.int .i64 x.key)/\w.cell? ⟨b,o+i*3+2,none⟩=some (.int .i64 x.val)) key
      exact ⟨len,f,hlen,.inr ⟨b,o,cap,rfl,fun i hi=>(hf i hi).1,fun i hi=>(hf i hi).2.1,fun i hi=>(hf i hi).2.2⟩⟩
theorem script_of {r:Reach}{b0:Nat}{s:Value}{d:DataW H}{ps:List MemPlace}(hval:Value.okWide Tryz.prog w r b0 22 s)(h:DataW.Trod enc Tryz.prog w base sp held 22 s d ps)(hz:∀ n ∈ d.weights Tryz.prog 22,n<=reachBytes):∃ N,N<=2199023255552/\Script w s N:=by
  obtain ⟨fuel,h⟩:=h
  obtain ⟨a0,len0,cap0,rfl⟩:=WideShapes.okWide_slice Tryz.underlying22 hval
  change DataW.trod enc Tryz.prog w base sp held fuel 22 [.slice a0 len0 cap0] = _ at h
  rcases open_structs Tryz.underlying22 Tryz.underlying29 (hone_of (by kernel_rfl)) (by kernel_rfl) (by decide) h with h0|⟨a,len,cap,n,D,spare,h1,h2,h3⟩
  · cases h0
    exact ⟨0,by omega,.inl ⟨_,_,rfl,rfl⟩⟩
  · cases h1
    have h2:d=_:=h2
    have hlen:len0<=2199023255552:=by
      have:=hz _ (by rw [h2];exact (slice_weights Tryz.underlying22 _).2 (.inl rfl))
      rw [Tryz.bytes29] at this
      unfold reachBytes at this
      simp at this
      omega
    rcases Nat.eq_zero_or_pos len0 with rfl|h0
    · exact ⟨0,by omega,.inl ⟨_,_,rfl,rfl⟩⟩
    · obtain ⟨b,o,s⟩:=a
      obtain rfl:s=none:=(h3 0 h0).1
      refine ⟨len0,hlen,.inr ⟨b,o,cap0,rfl,fun i hi=>?_⟩⟩
      obtain ⟨_,ys,hD,hf⟩:=h3 i hi
      obtain ⟨v0,y0,_,c0,t0⟩:=hf 0 _ rfl
      obtain ⟨v1,y1,_,c1,t1⟩:=hf 1 _ rfl
      obtain ⟨v2,y2,_,c2,t2⟩:=hf 2 _ rfl
      obtain ⟨v3,y3,_,c3,t3⟩:=hf 3 _ rfl
      obtain ⟨v4,y4,_,c4,t4⟩:=hf 4 _ rfl
      obtain ⟨v5,y5,g5,c5,t5⟩:=hf 5 _ rfl
      obtain ⟨n0,e0,_,w0⟩:=DataW.trod_int Tryz.underlying3 t0
      obtain ⟨n1,e1,_,w1⟩:=DataW.trod_int Tryz.underlying3 t1
      obtain ⟨n2,e2,_,w2⟩:=DataW.trod_int Tryz.underlying3 t2
      obtain ⟨n3,e3,_,w3⟩:=DataW.trod_int Tryz.underlying3 t3
      obtain ⟨n4,e4,_,w4⟩:=DataW.trod_int Tryz.underlying3 t4
      cases e0;cases e1;cases e2;cases e3;cases e4
      refine ⟨n0,n1,n2,n3,n4,v5,c0,c1,c2,c3,c4,c5,wf_i64 w0,wf_i64 w1,wf_i64 w2,wf_i64 w3,wf_i64 w4,opsAt_of t5 fun k hk=>?_⟩
      refine hz k ?_
      rw [h2]
      refine (slice_weights Tryz.underlying22 k).2 (.inr (.inl (mem_weightsAll (d:=D i) (List.mem_map.2 ⟨i,List.mem_range.2 hi,rfl⟩) k ?_)))
      rw [hD]
      unfold DataW.weights
      rw [Tryz.underlying29]
      exact DataW.weights_mem_each (j:=5) (t:=27) (d:=y5.1) rfl (by rw [List.getElem?_map,g5];rfl) k hk
end
end
end Go.Proofs.Shardlog
namespace Go.Tame
open Go.Conc
section
open Go.ConcN (sumTo upd sumTo_upd upd_ne upd_same)
section
variable {P:Program}{S:Prot}{In:Nat->Option Chair}{T:Trace}{gs:Array Goroutine}{w:World}{q:Nat->Nat}
theorem House.handed {t:Trace}(H:Tr (stillOf In) (nearOf In) (goneOf S) (Knows t 0) t)(hIn:∀ j,In j=Option.none):t.HandedOver:=by
  intro i g hg h0 ⟨x,hx,hm,hc⟩
  have hx':touchAt t i=some x:=hx
  rcases H.known i x hx' hm with ⟨j,op,h1,h2,h3⟩|⟨_,g',⟨c,hc',_⟩,_⟩|⟨_,h2,h3⟩
  · refine ⟨j,by rw [g?_of h1,h2],?_⟩
    rcases h3 with rfl|h3
    · rw [g?_of h1,h2] at hg
      exact absurd (Option.some.inj hg).symm h0
    · exact h3
  · rw [hIn] at hc';cases hc'
  · rcases hc with hc|hc
    · exact absurd h2 hc
    · exact absurd hc h3
theorem House.ends (C:House P S In 0 T gs w q)(hIn:∀ j,In j=Option.none){a:Goroutine}{sl:Option (Nat × Nat)}{Post:Value->World->Prop}(ha:gs[0]? = some a)(hrun:a.status=.running)
    (hend:∀ d,∃ v es,stepG P true a (w.at d)=.ended (.done v) (w.at d) es/\(∀ e ∈ es,EvGood S e)/\Post v (w.at d)) :
    ∃ N last o w' t',runNT P (N+1) (crowd gs w sl) T=(.ended o w',t')/\runN P N (crowd gs w sl)=.next last/\step P last=.ended o w'/\Conc.Good P Post last o w' t':=by
  refine run_of_inv Nat.lt_wfRel.wf (fun μ m t=>∃ gs d sl q,m=crowd gs (w.at d) sl/\gs[0]? = some a/\House P S In 0 t gs (w.at d) q/\μ=sumTo gs.size q) (Conc.Good P Post) (fun μ m t h=>?_) _ _ _ ⟨gs,w.drawn,sl,q,rfl,ha,C,rfl⟩
  obtain ⟨gs,d,sl,q,rfl,ha,C,rfl⟩:=h
  obtain ⟨i,g,d',sl',hi,hg,hst⟩:=crowd_pick (P:=P) (w:=w.at d) (sl:=sl) (C.awake ha hrun) ⟨0,a,ha,hrun⟩
  have hat:(w.at d).at d'=w.at d':=rfl
  have Cd:House P S In 0 t gs (w.at d') q:=House.at C d'
  rw [hat] at hst
  by_cases e:i=0
  · subst e
    obtain rfl:g=a:=by rw [ha] at hi;exact (Option.some.inj hi).symm
    obtain ⟨v,es,h1,h2,h3⟩:=hend d'
    have hrunT:=runT_many_ended (P:=P) (sl:=sl') (i:=0) hi (show stepG P (0 == 0) g (w.at d')=_ from h1)
    obtain ⟨g1,g2,g3⟩:=good_ops (fn:=g.frame.fn) (pos:=g.frame.place) Cd h2
    have H:=Cd.tr.work g1 g2 (near_gone Cd.nearGone)
    refine .inl ⟨_,_,_,hst.trans hrunT,v,rfl,h3,H.clean,House.handed H hIn,⟨fun x hx=>?_,rfl⟩,fun j x hx hj=>?_⟩
    · obtain ⟨j,hj⟩:=List.mem_iff_getElem?.1 hx
      rw [List.getElem?_drop] at hj
      have:=C.waits (1+j) x (by omega) (by simpa [crowd] using hj)
      rw [hIn] at this
      exact ⟨_,this.2.leaves⟩
    · have:=C.waits j x hj hx
      rw [hIn] at this
      refine ⟨q j,?_⟩
      have e:(t++MemOp.ofEvents 0 g.frame.fn g.frame.place es).deaf j (t++MemOp.ofEvents 0 g.frame.fn g.frame.place es).size=Deaf t j:=
        Deaf_other t (g:=j) (g':=0) (by omega) _ g1
      rw [e]
      exact this.2.hears _
  · obtain ⟨gs',ops,q',d₂,hrt,hsz,ha',C',hlt⟩:=House.by_step (sl:=sl') Cd hi e hg ha hrun
    exact .inr ⟨_,_,sumTo gs'.size q',by rw [hst];exact hrt,by rw [hsz];exact hlt,gs',d₂,sl',q',rfl,ha',C',rfl⟩
end
end
section
theorem Like.oldest {S:Prot}{w v:World}(h:Like S w v)(hs:S.base.heap.size<=w.heap.size)(hv:∀ i,i<S.base.heap.size->v.heap[i]? = (World.tamed S.base).heap[i]?)(i:Nat)(hi:i<S.base.heap.size):w.heap[i]? = S.base.heap[i]?:=by
  have h1:=hv i hi
  rw [tamed_get,Array.getElem?_eq_getElem hi] at h1
  have hw:w.heap[i]? = Option.some (w.heap[i]'(by omega)):=Array.getElem?_eq_getElem _
  have ho:=h.obj i _ _ hw h1
  rw [hw,Array.getElem?_eq_getElem hi]
  congr 1
  generalize w.heap[i]'_=o at ho
  have hb:S.base.heap[i]? = Option.some S.base.heap[i]:=Array.getElem?_eq_getElem hi
  generalize S.base.heap[i] = p at ho hb
  cases p with
  | cells c e f=>
    cases ho with
    | cells _ _ f' _ _ hq=>rw [hq hi]
    | short _ _ _ _ _ _ _ _ _ hn=>exact absurd hi (by omega)
    | same _ hp=>exact hp.elim
  | view _ _=>
    cases ho with
    | same _ hp=>exact hp.elim
    | odd _ _ hbb=>rw [hb] at hbb;exact (Option.some.inj hbb).symm
  | pending _ _=>
    cases ho with
    | same _ hp=>exact hp.elim
    | odd _ _ hbb=>rw [hb] at hbb;exact (Option.some.inj hbb).symm
  | chan _ _ _ _ _ _=>
    cases ho with
    | same _ hp=>exact hp.elim
    | odd _ _ hbb=>rw [hb] at hbb;exact (Option.some.inj hbb).symm
  | loop _=>
    cases ho with
    | same _ hp=>exact hp.elim
    | odd _ _ hbb=>rw [hb] at hbb;exact (Option.some.inj hbb).symm
  | _=>
    cases ho with
    | same _ hp=>rfl
end
end Go.Tame
namespace Go.Proofs.Shardlog
open Go Go.Conc Go.ConcM Go.Tame Go.Proofs Go.ChangeShapes Go.Mem
section
theorem step_done {f:FuncId}{fn:Func}{A:Array Value}{k:List Item}{y:Value}(hf:Tryz.prog.funcs[f]? = some fn)(hi:Tryz.prog.inits.idxOf? f=none)(hr:fn.results=#[.tmp 2])(hy:A.getD 2 undef=y)(w:World) :
    ∃ es,stepG Tryz.prog true (G { (base f).at ⟨A,[]⟩ k with mode:=.returning } []) w=.ended (.done y) w es/\es=_root_.Go.seen Tryz.prog f #[]:=by
  have hres:(results fn A).run Tryz.prog w=.ok y w/\(results fn A).events Tryz.prog w #[] = #[]:=by
    unfold results
    rw [hr,Array.mapM_eq_mapM_toList,map_eq_pure_bind]
    show Sem.run Tryz.prog (((do
      let __do_lift ← List.mapM _ [ResultVar.tmp 2]
      pure __do_lift.toArray):Sem (Array Value)) >>= _) w=_/\_
    simp only [List.mapM_cons,List.mapM_nil]
    rw [← hy]
    exact ⟨rfl,rfl⟩
  have:stepG Tryz.prog true (G { (base f).at ⟨A,[]⟩ k with mode:=.returning } []) w=GStep.after (_root_.Go.seen Tryz.prog f ((results fn A).events Tryz.prog w #[])) (match (results fn A).run Tryz.prog w with
        | .ok y x'=>doReturn Tryz.prog true { (base f).at ⟨A,[]⟩ k with mode:=.returning } [] none y x'
        | .halt (.stuck s) x'=>.ended (.stuck s (Frame.pos Tryz.prog { (base f).at ⟨A,[]⟩ k with mode:=.returning })) x'
        | .halt _ x'=>.ended (.stuck "return: the result variables cannot be read" (Frame.pos Tryz.prog { (base f).at ⟨A,[]⟩ k with mode:=.returning })) x'):=by
    simp only [stepG,G,Frame.at,base]
    unfold unwind
    simp only [hf,Sem.runT_eq]
    rfl
  refine ⟨_,?_,rfl⟩
  have hd:doReturn Tryz.prog true { (base f).at ⟨A,[]⟩ k with mode:=.returning } [] none y w=.ended (.done y) w:=by
    unfold doReturn
    show (if !true then _ else match Tryz.prog.inits.idxOf? f with|some k=>_|none=>_)=_
    rw [hi]
    rfl
  rw [this,hres.1,hres.2]
  show GStep.after _ (doReturn Tryz.prog true { (base f).at ⟨A,[]⟩ k with mode:=.returning } [] none y w)=_
  rw [hd]
  simp [GStep.after]
section
variable {H:Type}{enc:TypeId × Value->H}
theorem run_of_walk {f:FuncId}{fn:Func}{s y:Value}(hf:Tryz.prog.funcs[f]? = some fn)(hi:Tryz.prog.inits.idxOf? f=none)(hr:fn.results=#[.tmp 2])(W:World)
    (walk:CW (ZZ W) [] (Frame.enter Tryz.prog f #[s] .normal) [] (Tame.World.tamed W) (EndsWith f y [] fun g' v'=>Grown (Tame.World.tamed W) v'/\AllDead g')) :
    ∃ M last o w' t',runNT Tryz.prog (M+1) (solo (G (Frame.enter Tryz.prog f #[s] .normal) []) W) #[] = (.ended o w',t')/\runN Tryz.prog M (solo (G (Frame.enter Tryz.prog f #[s] .normal) []) W)=.next last /\
      step Tryz.prog last=.ended o w'/\Conc.Good Tryz.prog (fun v w'=>v=y/\w'.os=W.os/\w'.output=W.output/\W.heap.size<=w'.heap.size/\∀ i,i<W.heap.size->w'.heap[i]? = W.heap[i]?) last o w' t':=by
  have hl:Like (protOf W []) W (Tame.World.tamed W):=like_tamed W rfl (fun a h=>by obtain ⟨r,h,_⟩:=h;cases h) (fun a h=>by obtain ⟨r,h,_⟩:=h;cases h)
  have hh:House Tryz.prog (protOf W []) (fun _=>none) 0 #[] #[G (Frame.enter Tryz.prog f #[s] .normal) []] W (fun _=>0):=house_alone _ W fun a h=>by obtain ⟨r,h,_⟩:=h;cases h
  have hj:Held [] W (fun _=>none):=⟨(fun j c h=>by cases h),(fun r h=>by cases h),(fun r h=>by cases h),(fun r h=>by cases h),(fun r h=>by cases h)⟩
  obtain ⟨N,gs',g',fr',cs',w',v',sl',T',q',In',h1,h2,⟨rfl,A,k,rfl,hy,hG,hdead⟩,h4,h5,h6⟩:=walk W hl (fun _=>none) #[] _ (fun _=>0) none hh hj rfl
  have hIn:∀ j,In' j=none:=fun j=>by
    cases e:In' j with
    | none=>rfl
    | some c=>
      obtain ⟨r,hr',hlv,_⟩:=h6.who j c e
      rw [hdead r hr'] at hlv
      cases hlv
  have hsz:(Tame.World.tamed W).heap.size=W.heap.size:=by simp [Tame.World.tamed]
  have hend:∀ d,∃ v es,stepG Tryz.prog true (G { (base f).at ⟨A,[]⟩ k with mode:=.returning } []) (w'.at d)=.ended (.done v) (w'.at d) es/\(∀ e ∈ es,EvGood ((ZZ W).S g') e)/\(fun v w'=>v=y/\w'.os=W.os/\w'.output=W.output/\W.heap.size<=w'.heap.size/\∀ i,i<W.heap.size->w'.heap[i]? = W.heap[i]?) v (w'.at d):=fun d=>by
    obtain ⟨es,e1,e2⟩:=step_done (k:=k) hf hi hr hy (w'.at d)
    refine ⟨y,es,e1,fun e he=>?_,rfl,?_,h4.out,?_,fun i hi=>?_⟩
    · rw [e2] at he
      have:=Go.Conc.mem_seen he
      simp at this
    · show w'.os=W.os
      rw [← h4.os,hG.os]
      rfl
    · have:=hG.size
      have:=h4.size
      show W.heap.size<=w'.heap.size
      omega
    · have hs:=hG.size
      have hs2:=h4.size
      exact h4.oldest (show W.heap.size<=w'.heap.size by omega) (fun i hi=>hG.heap i (by rw [hsz];exact hi)) i hi
  obtain ⟨M,last,o,w2,t2,k1,k2,k3,k4⟩:=House.ends (Post:=fun v w'=>v=y/\w'.os=W.os/\w'.output=W.output/\W.heap.size<=w'.heap.size/\∀ i,i<W.heap.size->w'.heap[i]? = W.heap[i]?) h5 hIn (sl:=sl') h2 rfl hend
  refine ⟨N+M,last,o,w2,t2,?_,?_,k3,k4⟩
  · rw [show N+M+1=N+(M+1) by omega,runNT_add]
    have h1':runNT Tryz.prog N (solo (G (Frame.enter Tryz.prog f #[s] .normal) []) W) #[] = (.next (crowd gs' w' sl'),T'):=h1
    rw [h1']
    exact k1
  · have h1':runNT Tryz.prog N (solo (G (Frame.enter Tryz.prog f #[s] .normal) []) W) #[] = (.next (crowd gs' w' sl'),T'):=h1
    have h1n:runN Tryz.prog N (solo (G (Frame.enter Tryz.prog f #[s] .normal) []) W)=.next (crowd gs' w' sl'):=by rw [← runNT_fst _ _ _ #[],h1']
    rw [runN_add,h1n]
    exact k2
theorem runs_true {f:FuncId}{fn:Func}{spec:ChangeSpec}{apart fresh handsOn:Bool}(hf:Tryz.prog.funcs[f]? = some fn)(hi:Tryz.prog.inits.idxOf? f=none)(hp:fn.params=#[22])(hrt:fn.resultTypes=#[4])(hr:fn.results=#[.tmp 2])(hv:spec.vars = [])(hfn:∀ d:DataW H,spec.fn H [d] = { results:=[.lit (.bool true)],args:=[d] })
    (walk:∀ (W:World) (s:Value) (N:Nat) (E:Nat->Addr),N<=2199023255552->Script (Tame.World.tamed W) s N->Errs (Tame.World.tamed W) (fun _=>still) E->CW (ZZ W) [] (Frame.enter Tryz.prog f #[s] .normal) [] (Tame.World.tamed W) (EndsWith f (.bool true) [] fun g' v'=>Grown (Tame.World.tamed W) v'/\AllDead g'))
    {W:World} {b0:Nat} {args:Array Value} {ds gs:List (DataW H)} {before:List MemPlace} (hval:∀ (j:Nat) t v,fn.params[j]? = some t->args[j]? = some v->Value.okWide Tryz.prog W .any b0 t v)
    (hw:DataW.Whole enc Tryz.prog fn.params.toList spec.vars apart W args.toList ds gs before) (hz:(DataW.weightsEach Tryz.prog (fn.params.toList++spec.plain.varTypes Tryz.prog) (ds++gs)).all (· <= reachBytes)=true)
    (hL:laidMetH Tryz.prog (("errors.errorType",YtblcigmggdiccaaGreatDoor.Rows.laid_errors_errorType) :: sents) W) :
    ∃ M last o w' t',runNT Tryz.prog (M+1) (solo (G (Frame.enter Tryz.prog f args .normal) []) W) #[] = (.ended o w',t')/\runN Tryz.prog M (solo (G (Frame.enter Tryz.prog f args .normal) []) W)=.next last /\
      step Tryz.prog last=.ended o w'/\Conc.Good Tryz.prog (fun v W'=>spec.post enc Tryz.prog fn apart fresh handsOn false W args v { W' with os:=W.os }/\OsLater W.os W'.os) last o w' t':=by
  have hW':=hw
  obtain ⟨p,q,hA0,hV0,rfl,hfz,hnd⟩:=hw
  have hA:DataW.TrodAll enc Tryz.prog W 0 (fun _=>true) true fn.params.toList args.toList ds p:=hA0
  have hV:DataW.TrodVars enc Tryz.prog W (fun _=>true) spec.vars gs q:=hV0
  rw [hp] at hA hval
  rw [hv] at hV
  obtain ⟨s,d,rfl,rfl,h0⟩:=trodAll_one hA
  obtain ⟨rfl,rfl⟩:gs = []/\q = []:=by
    cases gs with
    | nil=>exact ⟨rfl,hV⟩
    | cons g r=>exact absurd hV (by intro h;cases h)
  obtain ⟨N,hN,hS⟩:=script_of (hval 0 22 s rfl rfl) h0 (fun n hn=>by
    have:=List.all_eq_true.1 hz n (by
      rw [hp]
      exact DataW.weights_mem_each (j:=0) (t:=22) (d:=d) rfl rfl n hn)
    simpa using this)
  obtain ⟨E,hE⟩:=errs_of_laid hL
  have hS':Script (Tame.World.tamed W) s N:=by
    unfold Script OpsAt at hS ⊢
    simp only [tamed_cell]
    refine hS.imp id ?_
    rintro ⟨b,off,cap,e,h⟩
    refine ⟨b,off,cap,e,fun i hi=>?_⟩
    obtain ⟨kd,W',A,B,C,sl,k0,k1,k2,k3,k4,k5,r0,r1,r2,r3,r4,n,o,hn,ho⟩:=h i hi
    refine ⟨kd,W',A,B,C,sl,k0,k1,k2,k3,k4,k5,r0,r1,r2,r3,r4,n,o,hn,ho.imp id ?_⟩
    rintro ⟨g,f,cap,e,hr⟩
    exact ⟨g,f,cap,e,fun i hi=>by rw [tamed_cell];exact hr.wr i hi,fun i hi=>by rw [tamed_cell];exact hr.key i hi,fun i hi=>by rw [tamed_cell];exact hr.val i hi⟩
  obtain ⟨M,last,o,w',t',k1,k2,k3,v,e,⟨rfl,hos,hout,hsz,hheap⟩,r1,r2,r3,r4⟩:=run_of_walk hf hi hr W (walk W s N E hN hS' hE)
  have e1:spec.fn H ([d] ++ [])={ results:=[.lit (.bool true)],args:=[d] }:=hfn d
  refine ⟨M,last,o,w',t',k1,k2,k3,_,e,⟨?_,by rw [hos];exact OsLater.refl _⟩,r1,r2,r3,r4⟩
  have hb:RowKit.Below W.heap.size W { w' with os:=W.os,tape:=W.tape }:=⟨rfl,rfl,hout,hsz,hheap⟩
  have hk:W.keptBut { w' with os:=W.os } (fun p_1=>p_1 ∈ p ++ []/\(p_1 ∈ ([]:List MemPlace)∨p_1 ∈ p∨p_1 ∈ ([]:List MemPlace))):=by
    have:=RowKit.Below.frame hb (fun p_1=>p_1 ∈ p ++ []/\(p_1 ∈ ([]:List MemPlace)∨p_1 ∈ p∨p_1 ∈ ([]:List MemPlace)))
    exact this
  have hlt:∀ x ∈ p,x.block<W.heap.size:=fun x hx=>hW'.lt x (by simpa using hx)
  refine ⟨[d],[],p ++ [],[],p,[],hW',?_,?_,?_,hk,fun h=>by cases h⟩
  · rw [hrt,e1]
    exact trodAll_mk1 (RowKit.shut_bool Tryz.underlying4 true)
  · rw [hp,e1]
    have:=RowKit.Below.trod (by kernel_rfl) (by kernel_rfl) (of_decide_eq_true (by kernel_rfl)) h0 hb hlt
    exact trodAll_mk1 (DataW.Trod.of_heap (by rfl) this)
  · rw [hv,e1]
    rfl
end
end
end Go.Proofs.Shardlog
