/- Several texts in one: Tame, TameLib, TameOps, TameMaps, TameBin, TameOp. -/
import Derived.Laws.Sem
import Derived.Conc.Events
import Derived.Conc.Machine
set_option linter.unusedSectionVars false
set_option linter.unusedSimpArgs false
set_option linter.unusedVariables false
namespace Go.Tame
section
def retape (w:World) (t:Nat->Question->Nat):World:={ w with tape:=t }
def Within (f g:Nat × Nat):Prop:=∀ i,f.1<=i->i<f.2->g.1<=i/\i<g.2
theorem Within.refl (f:Nat × Nat):Within f f:=fun _ a b=>⟨a,b⟩
def plainObj:Obj->Prop
  | .cells .. | .view .. | .pending .. | .chan .. | .loop ..=>False
  | _=>True
def oddObj:Obj->Prop
  | .view .. | .pending .. | .chan .. | .loop ..=>True
  | _=>False
def oddView:Obj:=.view ⟨0,0,some 0⟩ 0
structure Prot where
  keep:Addr->Prop
  gone:Addr->Prop
  base:World
inductive ObjLike (B:World) (i:Nat):Obj->Obj->Prop
  | cells (c:Array Value) (e:TypeId) (f g:Nat × Nat) (h:Within f g) (hq:i<B.heap.size->f=g):ObjLike B i (.cells c e f) (.cells c e g)
  | short (c c':Array Value) (e:TypeId) (f g:Nat × Nat) (h0:0<c'.size) (hle:c'.size<=c.size) (h:∀ k,k<c'.size->c'[k]? = c[k]?) (hf:∀ k,f.1<=k->¬ k<f.2) (hn:B.heap.size<=i):ObjLike B i (.cells c e f) (.cells c' e g)
  | chan (cap:Nat) (closed:Bool) (s r s' r':Nat) (tm:Bool):ObjLike B i (.chan cap #[] closed s r tm) (.chan cap #[] closed s' r' tm)
  | same (o:Obj) (h:plainObj o):ObjLike B i o o
  | odd (o:Obj) (h:oddObj o) (hb:B.heap[i]? = some o):ObjLike B i o oddView
structure Like (S:Prot) (w v:World):Prop where
  size:v.heap.size=w.heap.size
  obj:∀ (i:Nat) (o o':Obj),w.heap[i]? = some o->v.heap[i]? = some o'->ObjLike S.base i o o'
  still:∀ a,S.keep a->a.spot=none/\v.frozen? a=true
  gone:∀ a,S.gone a->a.spot=none/\v.cell? a=none/\a.block<v.heap.size
  os:v.os=w.os
  out:w.output=S.base.output
structure Kept (S:Prot) (w w':World):Prop where
  tape:w'.tape=w.tape
  os:w'.os=w.os
  drawn:w.drawn<=w'.drawn
  size:w.heap.size<=w'.heap.size
  still:∀ a,S.keep a∨S.gone a->w'.cell? a=w.cell? a
  kind:∀ (i:Nat) (o:Obj),w.heap[i]? = some o->plainObj o->∃ o',w'.heap[i]? = some o'/\plainObj o'
  chan:∀ (i cap:Nat) (buf:Array Value) (cl:Bool) (s r:Nat) (tm:Bool),w.heap[i]? = some (.chan cap buf cl s r tm)->w'.heap[i]? = some (.chan cap buf cl s r tm)
theorem Kept.refl (S:Prot)(w:World):Kept S w w:=⟨rfl,rfl,Nat.le_refl _,Nat.le_refl _,fun _ _=>rfl,fun _ o h hp=>⟨o,h,hp⟩,fun _ _ _ _ _ _ _ h=>h⟩
theorem Kept.trans {S:Prot}{a b c:World}(h:Kept S a b)(k:Kept S b c):Kept S a c:=
  ⟨k.tape.trans h.tape,k.os.trans h.os,Nat.le_trans h.drawn k.drawn,Nat.le_trans h.size k.size,fun x hx=>(k.still x hx).trans (h.still x hx),fun i o e hp=>by obtain ⟨o',e',hp'⟩:=h.kind i o e hp;exact k.kind i o' e' hp',fun _ _ _ _ _ _ _ e=>k.chan _ _ _ _ _ _ _ (h.chan _ _ _ _ _ _ _ e)⟩
def EvGood (S:Prot) (e:Event):Prop:=
  (∀ a,e.loc=.cell a->(e.write=true->¬ S.keep a)/\¬ S.gone a)/\e.loc≠.mark .disable/\e.loc≠.mark .enable/\(∀ a,e.loc≠.mark (.read a))/\(∀ a,e.loc≠.mark (.write a))
def Dead:Halt->Prop
  | .stuck _=>True
  | .unsupported (.initOrder _)=>False
  | .unsupported _=>True
  | _=>False
def Sim {α:Type} (S:Prot) (P:Program) (s:Sem α) (w:World) (r:Result α):Prop:=
  match r with
  | .ok x v'=>∃ w',s.run P w=.ok x w'/\Like S w' v'/\Kept S w w'/\∀ e ∈ s.events P w #[],EvGood S e
  | .halt (.panic x) v'=>∃ w',s.run P w=.halt (.panic x) w'/\Like S w' v'/\Kept S w w'/\∀ e ∈ s.events P w #[],EvGood S e
  | .halt h _=>Dead h
def Agree (t u:Nat->Question->Nat) (n:Nat):Prop:=∀ j,j<n->t j=u j
theorem Agree.refl (t:Nat->Question->Nat)(n:Nat):Agree t t n:=fun _ _=>rfl
theorem Agree.trans {t u v:Nat->Question->Nat}{m n:Nat}(h:Agree t u m)(k:Agree u v n)(hn:n<=m):Agree t v n:=fun j hj=>(h j (Nat.lt_of_lt_of_le hj hn)).trans (k j hj)
theorem Agree.mono {t u:Nat->Question->Nat}{m n:Nat}(h:Agree t u m)(hn:n<=m):Agree t u n:=fun j hj=>h j (Nat.lt_of_lt_of_le hj hn)
def end' {α:Type}:Result α->World
  | .ok _ w=>w
  | .halt _ w=>w
def re {α:Type} (t:Nat->Question->Nat):Result α->Result α
  | .ok a w=>.ok a (retape w t)
  | .halt h w=>.halt h (retape w t)
def Runs {α:Type} (P:Program) (s:Sem α) (v:World) (t:Nat->Question->Nat) (r:Result α):Prop:=
  ∀ t',Agree t' t (end' r).drawn->s.run P (retape v t')=re t' r
def PlainAt (r:Nat) (w:World):Prop:=∃ o,w.heap[r]? = some o/\plainObj o
theorem PlainAt.kept {S:Prot}{r:Nat}{w w':World}(h:PlainAt r w)(k:Kept S w w'):PlainAt r w':=by
  obtain ⟨o,ho,hp⟩:=h
  exact k.kind r o ho hp
def Tame {α:Type} (S:Prot) (P P':Program) (L:List Nat) (s s':Sem α):Prop:=
  ∀ w v,Like S w v->(∀ r ∈ L,PlainAt r w)->∃ t r,Agree t v.tape v.drawn/\v.drawn<=(end' r).drawn/\Runs P' s' v t r/\Sim S P s w r
section
variable {α β:Type}{S:Prot}{P P':Program}{L:List Nat}
theorem Like.retape {w v:World}(h:Like S w v)(t:Nat->Question->Nat):Like S w (retape v t):=⟨h.size,h.obj,h.still,h.gone,h.os,h.out⟩
theorem tame_pure (a:α):Tame S P P' L (pure a) (pure a):=fun w v h _=>
  ⟨v.tape,.ok a v,Agree.refl _ _,Nat.le_refl _,fun _ _=>rfl,w,rfl,h,Kept.refl _ _,by simp⟩
theorem tame_dead (h:Halt)(hd:Dead h):Tame S P P' L (.halt h:Sem α) (.halt h):=fun w v _ _=>
  ⟨v.tape,.halt h v,Agree.refl _ _,Nat.le_refl _,fun _ _=>rfl,by cases h <;> first|exact hd|exact hd.elim⟩
theorem tame_dead' (s:Sem α)(h:Halt)(hd:Dead h):Tame S P P' L s (.halt h):=fun w v _ _=>
  ⟨v.tape,.halt h v,Agree.refl _ _,Nat.le_refl _,fun _ _=>rfl,by cases h <;> first|exact hd|exact hd.elim⟩
theorem tame_stuck (m:String):Tame S P P' L (stuck m:Sem α) (stuck m):=tame_dead _ trivial
theorem tame_unsupported (u:Unsupported)(hu:∀ g,u≠.initOrder g):Tame S P P' L (unsupported u:Sem α) (unsupported u):=
  tame_dead _ (by cases u <;> first|trivial|exact (hu _ rfl).elim)
theorem tame_goPanic (x:Value):Tame S P P' L (goPanic x:Sem α) (goPanic x):=fun w v h _=>
  ⟨v.tape,.halt (.panic x) v,Agree.refl _ _,Nat.le_refl _,fun _ _=>rfl,w,rfl,h,Kept.refl _ _,by simp⟩
theorem evGood_append {s:Sem β}{w:World}{es:Array Event}(h:∀ e ∈ es,EvGood S e)(k:∀ e ∈ s.events P w #[],EvGood S e):∀ e ∈ s.events P w es,EvGood S e:=by
  intro e he
  rw [Sem.events_acc] at he
  rcases Array.mem_append.1 he with he|he
  · exact h e he
  · exact k e he
theorem tame_bindR {x x':Sem α}{f f':α->Sem β}(hx:Tame S P P' L x x')(hf:∀ a,(∃ v v',x'.run P' v=.ok a v')->Tame S P P' L (f a) (f' a)):Tame S P P' L (x >>= f) (x' >>= f'):=by
  intro w v h hL
  obtain ⟨t,r,ha,hd,hr,hs⟩:=hx w v h hL
  match r,hd,hr,hs with
  | .ok a v₁,hd,hr,hs=>
    obtain ⟨w₁,hw,hl,hk,he⟩:=hs
    obtain ⟨t₂,r₂,ha₂,hd₂,hr₂,hs₂⟩:=hf a ⟨_,_,hr t (Agree.refl _ _)⟩ w₁ (retape v₁ t) (hl.retape t) (fun r hr=>(hL r hr).kept hk)
    have hd₂':v₁.drawn<=(end' r₂).drawn:=hd₂
    have hag:Agree t₂ t v₁.drawn:=ha₂
    refine ⟨t₂,r₂,hag.trans ha hd,Nat.le_trans hd hd₂',fun t' ht'=>?_,?_⟩
    · have h1:=hr t' (ht'.trans hag (show v₁.drawn<=(end' r₂).drawn from hd₂'))
      rw [Sem.run_bind,h1]
      exact hr₂ t' ht'
    · match r₂,hs₂ with
      | .ok b v₂,⟨w₂,hw₂,hl₂,hk₂,he₂⟩=>
        exact ⟨w₂,by rw [Sem.run_bind,hw];exact hw₂,hl₂,hk.trans hk₂,by rw [Sem.events_bind,hw];exact evGood_append he he₂⟩
      | .halt (.panic b) v₂,⟨w₂,hw₂,hl₂,hk₂,he₂⟩=>
        exact ⟨w₂,by rw [Sem.run_bind,hw];exact hw₂,hl₂,hk.trans hk₂,by rw [Sem.events_bind,hw];exact evGood_append he he₂⟩
      | .halt .blocked _,d | .halt .waiting _,d | .halt .goexit _,d | .halt (.exit _) _,d | .halt (.fatal _) _,d | .halt (.throw _) _,d=>exact d.elim
      | .halt (.unsupported _) _,d | .halt (.stuck _) _,d=>exact d
  | .halt (.panic b) v₁,hd,hr,hs=>
    obtain ⟨w₁,hw,hl,hk,he⟩:=hs
    refine ⟨t,.halt (.panic b) v₁,ha,hd,fun t' ht'=>?_,w₁,by rw [Sem.run_bind,hw];rfl,hl,hk,by rw [Sem.events_bind,hw];exact he⟩
    rw [Sem.run_bind,hr t' ht'];rfl
  | .halt (.unsupported u) v₁,hd,hr,hs=>exact ⟨t,.halt (.unsupported u) v₁,ha,hd,fun t' ht'=>by rw [Sem.run_bind,hr t' ht'];rfl,hs⟩
  | .halt (.stuck u) v₁,hd,hr,hs=>exact ⟨t,.halt (.stuck u) v₁,ha,hd,fun t' ht'=>by rw [Sem.run_bind,hr t' ht'];rfl,hs⟩
  | .halt .blocked _,_,_,d | .halt .waiting _,_,_,d | .halt .goexit _,_,_,d | .halt (.exit _) _,_,_,d | .halt (.fatal _) _,_,_,d | .halt (.throw _) _,_,_,d=>exact d.elim
theorem tame_bind {x x':Sem α}{f f':α->Sem β}(hx:Tame S P P' L x x')(hf:∀ a,Tame S P P' L (f a) (f' a)):Tame S P P' L (x >>= f) (x' >>= f'):=tame_bindR hx fun a _=>hf a
theorem Like.some {w v:World}(h:Like S w v){i:Nat}{o:Obj}(hi:w.heap[i]? = some o):∃ o',v.heap[i]? = some o'/\ObjLike S.base i o o':=by
  have hlt:i<w.heap.size:=(Array.getElem?_eq_some_iff.1 hi).1
  have:i<v.heap.size:=by rw [h.size];exact hlt
  exact ⟨v.heap[i],Array.getElem?_eq_getElem this,h.obj i _ _ hi (Array.getElem?_eq_getElem this)⟩
theorem Like.none {w v:World}(h:Like S w v){i:Nat}(hi:w.heap[i]? = none):v.heap[i]? = none:=by
  rw [Array.getElem?_eq_none_iff] at hi ⊢;rw [h.size];exact hi
theorem Like.cell {w v:World}(h:Like S w v){a:Addr}{x:Value}(hx:v.cell? a=Option.some x):w.cell? a=Option.some x:=by
  unfold World.cell? at *
  cases hi:w.heap[a.block]? with
  | none=>rw [h.none hi] at hx;cases hx
  | some o=>
    obtain ⟨o',ho',hl⟩:=h.some hi
    rw [ho'] at hx
    cases hl with
    | short c c' e f g h0 hle hc=>
      dsimp only at hx ⊢
      split at hx
      · cases hx
      · rename_i hsp
        rw [if_neg hsp,← hc a.off (Array.getElem?_eq_some_iff.1 hx).1];exact hx
    | cells=>exact hx
    | chan=>exact hx
    | same=>exact hx
    | odd=>cases hx
theorem Like.shape {w v:World}(h:Like S w v)(r:Nat):(v.shape? r=Option.none/\w.shape? r=Option.none)∨∃ e m n,w.shape? r=Option.some (e,m)/\v.shape? r=Option.some (e,n)/\(m=0 ↔ n=0)/\n<=m:=by
  unfold World.shape?
  cases hi:w.heap[r]? with
  | none=>rw [h.none hi];exact .inl ⟨rfl,rfl⟩
  | some o=>
    obtain ⟨o',ho',hl⟩:=h.some hi
    rw [ho']
    cases hl with
    | cells c e=>exact .inr ⟨e,_,_,rfl,rfl,Iff.rfl,Nat.le_refl _⟩
    | short c c' e f g h0 hle hc=>exact .inr ⟨e,_,_,rfl,rfl,by omega,hle⟩
    | chan=>exact .inl ⟨rfl,rfl⟩
    | same o hp=>cases o <;> first|exact .inl ⟨rfl,rfl⟩|exact hp.elim
    | odd o hp=>cases o <;> first|exact .inl ⟨rfl,rfl⟩|exact hp.elim
theorem Like.frozen {w v:World}(h:Like S w v)(a:Addr)(hf:w.frozen? a=true):v.frozen? a=true:=by
  unfold World.frozen? at *
  cases hi:w.heap[a.block]? with
  | none=>rw [hi] at hf;cases hf
  | some o=>
    obtain ⟨o',ho',hl⟩:=h.some hi
    rw [hi] at hf
    rw [ho']
    cases hl with
    | cells c e f g hw=>
      simp only [decide_eq_true_eq,Bool.and_eq_true] at hf ⊢
      exact hw _ hf.1 hf.2
    | short c c' e f g h0 hle hc hz=>
      simp only [decide_eq_true_eq,Bool.and_eq_true] at hf
      exact absurd hf.2 (hz _ hf.1)
    | chan=>cases hf
    | same o hp=>exact hf
    | odd o hp=>cases o <;> first|cases hf|exact hp.elim
theorem far_stuck {α:Type}{e:(Nat->Question->Nat)->Except Halt α}{m:String}(h:∀ t,e t=.error (.stuck m)):∃ y,Dead y/\∀ t,e t=.error y:=⟨.stuck m,trivial,h⟩
theorem far_uns {α:Type}{e:(Nat->Question->Nat)->Except Halt α}{m:String}(h:∀ t,e t=.error (.unsupported (.unsafePointer m))):∃ y,Dead y/\∀ t,e t=.error y:=⟨.unsupported (.unsafePointer m),trivial,h⟩
theorem seen_view (p:Program)(v:World)(u:TypeId)(a:Addr)(m:Bool):v.seen p ⟨0,0,Option.some 0⟩ u a m=.error "memory seen as another type: a place without cells":=by
  unfold World.seen
  simp only [Option.isSome_some,Bool.or_true,if_true]
  rfl
theorem Like.far {w v:World}(h:Like S w v)(a:Addr)(p:Program)(m:Bool):∃ y,Dead y/\∀ t,(Tame.retape v t).farLoad p a m=.error y:=by
  have e0:∀ t,(Tame.retape v t).heap=v.heap:=fun _=>rfl
  cases hi:w.heap[a.block]? with
  | none=>exact far_stuck (m:= "load: no such cell") fun t=>by unfold World.farLoad World.noCell;simp only [e0,h.none hi]
  | some o=>
    obtain ⟨o',ho',hl⟩:=h.some hi
    cases hl with
    | cells c e f g hw=>exact far_stuck (m:= "load: no such cell") fun t=>by unfold World.farLoad World.noCell;simp only [e0,ho']
    | short=>exact far_stuck (m:= "load: no such cell") fun t=>by unfold World.farLoad World.noCell;simp only [e0,ho']
    | chan=>exact far_stuck (m:= "load: no such cell") fun t=>by unfold World.farLoad World.noCell;simp only [e0,ho']
    | same o hp=>exact far_stuck (m:= "load: no such cell") fun t=>by unfold World.farLoad World.noCell;simp only [e0,ho'];cases o <;> first|rfl|exact hp.elim
    | odd o hp=>exact far_uns (m:= "memory seen as another type: a place without cells") fun t=>by unfold World.farLoad;simp only [e0,ho',oddView];unfold World.viewLoad;rw [seen_view];rfl
theorem Like.farS {w v:World}(h:Like S w v)(a:Addr)(x:Value)(p:Program)(m:Bool):∃ y,Dead y/\∀ t,(Tame.retape v t).farStore p a x m=.error y:=by
  have e0:∀ t,(Tame.retape v t).heap=v.heap:=fun _=>rfl
  cases hi:w.heap[a.block]? with
  | none=>exact far_stuck (m:= "store: no such cell") fun t=>by unfold World.farStore World.noCell;simp only [e0,h.none hi]
  | some o=>
    obtain ⟨o',ho',hl⟩:=h.some hi
    cases hl with
    | cells c e f g hw=>exact far_stuck (m:= "store: no such cell") fun t=>by unfold World.farStore World.noCell;simp only [e0,ho']
    | short=>exact far_stuck (m:= "store: no such cell") fun t=>by unfold World.farStore World.noCell;simp only [e0,ho']
    | chan=>exact far_stuck (m:= "store: no such cell") fun t=>by unfold World.farStore World.noCell;simp only [e0,ho']
    | same o hp=>exact far_stuck (m:= "store: no such cell") fun t=>by unfold World.farStore World.noCell;simp only [e0,ho'];cases o <;> first|rfl|exact hp.elim
    | odd o hp=>
      cases ht:(!tight p p.depth 0) with
      | true=>exact far_uns (m:= "memory seen as another type: a store through a type with padding") fun t=>by unfold World.farStore;simp only [e0,ho',oddView];unfold World.viewStore;rw [ht];rfl
      | false=>exact far_uns (m:= "memory seen as another type: a place without cells") fun t=>by unfold World.farStore;simp only [e0,ho',oddView];unfold World.viewStore;rw [ht,seen_view];rfl
theorem evGood_read (a:Addr)(b:Bool)(hg:¬ S.gone a):EvGood S ⟨.cell a,false,b⟩:=⟨fun x h=>⟨fun h=>by (cases h),by cases h;exact hg⟩,by simp,by simp,by simp,by simp⟩
theorem Like.notGone {w v:World}(h:Like S w v){a:Addr}{x:Value}(hx:v.cell? a=Option.some x):¬ S.gone a:=fun hg=>by rw [(h.gone a hg).2.1] at hx;cases hx
theorem tame_load (a:Addr)(m:Mode):Tame S P P' L (load a m) (load a m):=by
  intro w v h hL
  cases hv:v.cell? a with
  | some x=>
    have hc:w.cell? a=some x:=h.cell hv
    refine ⟨v.tape,.ok x v,Agree.refl _ _,Nat.le_refl _,fun t' _=>?_,w,?_,h,Kept.refl _ _,?_⟩
    · have:(retape v t').cell? a=some x:=hv
      simp [load,Sem.run,this,re]
    · simp [load,Sem.run,hc]
    · simp only [load,Sem.events,Sem.runT,hc]
      intro e he
      have:e=⟨.cell a,false,m == .atomic⟩:=by simpa using he
      subst this
      exact evGood_read _ _ (h.notGone hv)
  | none=>
    obtain ⟨y,hy,h2⟩:=h.far a P' (m == .atomic)
    refine ⟨v.tape,.halt y v,Agree.refl _ _,Nat.le_refl _,fun t' _=>?_,by cases y <;> first|trivial|exact hy.elim⟩
    have h1:(retape v t').cell? a=none:=hv
    simp [load,Sem.run,h1,h2 t',re]
theorem Like.setCell {w v:World}(h:Like S w v)(a:Addr)(x:Value):Like S (w.setCell a x) (v.setCell a x):=by
  refine ⟨by simp [World.setCell,h.size],fun i o o' hi hi'=>?_,fun b hb=>?_,fun b hb=>?_,h.os,h.out⟩
  · simp only [World.setCell,Array.getElem?_modify] at hi hi'
    by_cases e:a.block=i
    · simp only [e,if_true,Option.map_eq_some_iff] at hi hi'
      obtain ⟨o₁,h1,rfl⟩:=hi
      obtain ⟨o₂,h2,rfl⟩:=hi'
      have:=h.obj i _ _ h1 h2
      cases this with
      | cells c e f g hw hq=>exact .cells _ _ _ _ hw hq
      | short c c' e f g h0 hle hc hz hn=>
        refine .short _ _ _ _ _ ?_ ?_ (fun j hj=>?_) hz hn
        · split <;> simp [h0]
        · split <;> simp [hle]
        · by_cases es:a.spot.isSome=true
          · simp only [es,if_true] at hj ⊢;exact hc j hj
          · simp only [es,if_false,Bool.false_eq_true,Array.size_setIfInBounds] at hj ⊢
            have:=hc j hj
            rw [Array.getElem?_setIfInBounds,Array.getElem?_setIfInBounds]
            by_cases ej:a.off=j
            · subst ej;simp only [if_true,hj,Nat.lt_of_lt_of_le hj hle]
            · simp only [ej,if_false];exact this
      | chan=>exact .chan ..
      | same _ hp=>cases o₁ <;> first|exact .same _ hp|exact hp.elim
      | odd _ hp hb=>cases o₁ <;> first|exact .odd _ hp hb|exact hp.elim
    · simp only [e,if_false] at hi hi'
      exact h.obj i _ _ hi hi'
  · refine ⟨(h.still b hb).1,?_⟩
    have:=(h.still b hb).2
    unfold World.frozen? at *
    simp only [World.setCell,Array.getElem?_modify]
    by_cases e:a.block=b.block
    · simp only [e,if_true]
      cases hv:v.heap[b.block]? with
      | none=>rw [hv] at this;cases this
      | some o=>rw [hv] at this;cases o <;> first|exact this|cases this
    · simp only [e,if_false];exact this
  · obtain ⟨g1,g2,g3⟩:=h.gone b hb
    refine ⟨g1,?_,by simpa [World.setCell] using g3⟩
    unfold World.cell? at *
    simp only [World.setCell,Array.getElem?_modify]
    by_cases e:a.block=b.block
    · simp only [e,if_true]
      cases hv:v.heap[b.block]? with
      | none=>rfl
      | some o=>
        rw [hv] at g2
        cases o <;> first|rfl|skip
        rename_i c t f
        simp only [g1,Option.map_some,Option.isSome_none,Bool.false_eq_true,if_false] at g2 ⊢
        have hsz:=Array.getElem?_eq_none_iff.1 g2
        split
        · exact g2
        · rw [Array.getElem?_eq_none_iff];simpa using hsz
    · simp only [e,if_false];exact g2
theorem Kept.setCell {w:World}{a:Addr}{x:Value}(hS:¬ (S.keep a∨S.gone a))(hsp:∀ b,S.keep b∨S.gone b->b.spot=none)(ha:(w.cell? a).isSome=true):Kept S w (w.setCell a x):=by
  refine ⟨rfl,rfl,Nat.le_refl _,by simp [World.setCell],fun b hb=>?_,fun i o hi hp=>?_,fun i cap buf cl s r tm hi=>?_⟩
  · unfold World.cell? World.setCell
    simp only [Array.getElem?_modify]
    by_cases e:a.block=b.block
    · simp only [e,if_true]
      cases hv:w.heap[b.block]? with
      | none=>rfl
      | some o=>
        cases o <;> try rfl
        rename_i c t f
        simp only [Option.map_some]
        rw [hsp b hb]
        simp only [Option.isSome_none,Bool.false_eq_true,if_false]
        by_cases es:a.spot.isSome=true
        · simp [es]
        · simp only [es,if_false,Bool.false_eq_true]
          have:a.off≠b.off:=fun eo=>hS (by
            have hbs:=hsp b hb
            have:a=b:=by
              cases a;cases b
              simp_all
            exact this ▸ hb)
          rw [Array.getElem?_setIfInBounds_ne this]
    · simp only [e,if_false]
  · refine ⟨o,?_,hp⟩
    simp only [World.setCell,Array.getElem?_modify]
    by_cases e:a.block=i
    · simp only [e,if_true,hi]
      cases o <;> first|rfl|exact hp.elim
    · simp only [e,if_false,hi]
  · simp only [World.setCell,Array.getElem?_modify]
    by_cases e:a.block=i
    · simp only [e,if_true,hi];rfl
    · simp only [e,if_false,hi]
theorem tame_store (a:Addr)(x:Value)(m:Mode):Tame S P P' L (store a x m) (store a x m):=by
  intro w v h _
  by_cases hx:x.oneCell'=true
  · have hrun:∀ (P:Program) (w:World),(store a x m).run P w=match w.cell? a with
        | some _=>if w.frozen? a then .halt (.unsupported (.unsafePointer "a write to bytes that a string shares")) w else .ok () (w.setCell a x)
        | none=>match w.farStore P a x (m == .atomic) with | .ok (w,_)=>.ok () w | .error h=>.halt h w:=by
      intro P w;cases x <;> first|rfl|(simp [Value.oneCell'] at hx)
    cases hv:v.cell? a with
    | none=>
      obtain ⟨z,hz,h2⟩:=h.farS a x P' (m == .atomic)
      refine ⟨v.tape,.halt z v,Agree.refl _ _,Nat.le_refl _,fun t' _=>?_,by cases z <;> first|trivial|exact hz.elim⟩
      have h1:(retape v t').cell? a=none:=hv
      rw [hrun,h1]
      simp only [h2 t']
      rfl
    | some y=>
      have hc:w.cell? a=some y:=h.cell hv
      cases hf:v.frozen? a with
      | true=>
        refine ⟨v.tape,.halt (.unsupported (.unsafePointer "a write to bytes that a string shares")) v,Agree.refl _ _,Nat.le_refl _,fun t' _=>?_,trivial⟩
        have h1:(retape v t').cell? a=some y:=hv
        have h2:(retape v t').frozen? a=true:=hf
        rw [hrun,h1]
        simp only [h2,if_true]
        rfl
      | false=>
        have hS:¬ S.keep a:=fun hs=>by have:=(h.still a hs).2;rw [hf] at this;cases this
        have hG:¬ S.gone a:=h.notGone hv
        have hwf:w.frozen? a=false:=by
          cases e:w.frozen? a with
          | false=>rfl
          | true=>rw [h.frozen a e] at hf;cases hf
        refine ⟨v.tape,.ok () (v.setCell a x),Agree.refl _ _,Nat.le_refl _,fun t' _=>?_,w.setCell a x,?_,h.setCell a x,Kept.setCell (fun z=>z.elim hS hG) (fun b hb=>hb.elim (fun z=>(h.still b z).1) (fun z=>(h.gone b z).1)) (by rw [hc];rfl),?_⟩
        · have h1:(retape v t').cell? a=some y:=hv
          have h2:(retape v t').frozen? a=false:=hf
          rw [hrun,h1]
          simp only [h2,Bool.false_eq_true,if_false]
          rfl
        · rw [hrun,hc]
          simp only [hwf,Bool.false_eq_true,if_false]
        · rw [events_store P w _ a x m hx]
          simp only [hc,hwf,Bool.false_eq_true,if_false]
          intro e he
          have:e=⟨.cell a,true,m == .atomic⟩:=by simpa using he
          subst this
          exact ⟨fun b hb=>by cases hb;exact ⟨fun _=>hS,hG⟩,by simp,by simp,by simp,by simp⟩
  · refine ⟨v.tape,.halt (.stuck "store: not the value of one cell") v,Agree.refl _ _,Nat.le_refl _,fun t' _=>?_,trivial⟩
    cases x <;> first|rfl|(simp [Value.oneCell'] at hx)
theorem Like.push {w v:World}(h:Like S w v)(o:Obj)(ho:∀ B i,ObjLike B i o o):Like S { w with heap:=w.heap.push o } { v with heap:=v.heap.push o }:=by
  refine ⟨by simp [h.size],fun i o₁ o₂ h1 h2=>?_,fun a ha=>⟨(h.still a ha).1,?_⟩,fun a ha=>?_,h.os,h.out⟩
  rotate_left 2
  · obtain ⟨g1,g2,g3⟩:=h.gone a ha
    refine ⟨g1,?_,by simp only [Array.size_push];omega⟩
    unfold World.cell? at *
    rw [Array.getElem?_push]
    simp only [Nat.ne_of_lt g3,if_false]
    exact g2
  · simp only [Array.getElem?_push,h.size] at h1 h2
    by_cases e:i=w.heap.size
    · simp only [e,if_true,Option.some.injEq] at h1 h2
      subst h1;subst h2;exact ho _ _
    · simp only [e,if_false] at h1 h2
      exact h.obj i _ _ h1 h2
  · have:=(h.still a ha).2
    unfold World.frozen? at *
    simp only [Array.getElem?_push]
    by_cases e:a.block=v.heap.size
    · rw [e,Array.getElem?_eq_none (Nat.le_refl _)] at this;cases this
    · simp only [e,if_false];exact this
theorem kept_push {w v:World}(h:Like S w v)(o:Obj):Kept S w { w with heap:=w.heap.push o }:=by
  refine ⟨rfl,rfl,Nat.le_refl _,by simp,fun a ha=>?_,fun i o' hi hp=>⟨o',?_,hp⟩,fun i cap buf cl s r tm hi=>?_⟩
  · have hlt:a.block<v.heap.size:=by
      rcases ha with ha|ha
      · have hv:=(h.still a ha).2
        unfold World.frozen? at hv
        cases e:v.heap[a.block]? with
        | none=>rw [e] at hv;cases hv
        | some o=>exact (Array.getElem?_eq_some_iff.1 e).1
      · exact (h.gone a ha).2.2
    unfold World.cell?
    simp only [Array.getElem?_push]
    have e:a.block≠w.heap.size:=by rw [← h.size];exact Nat.ne_of_lt hlt
    simp only [e,if_false]
  · have:i≠w.heap.size:=fun e=>by rw [e,Array.getElem?_eq_none (Nat.le_refl _)] at hi;cases hi
    simp only [Array.getElem?_push,this,if_false,hi]
  · have:i≠w.heap.size:=fun e=>by rw [e,Array.getElem?_eq_none (Nat.le_refl _)] at hi;cases hi
    simp only [Array.getElem?_push,this,if_false,hi]
theorem objLike_refl {o:Obj}(h:(∃ c e f,o=.cells c e f)∨plainObj o∨∃ cap cl s r tm,o=.chan cap #[] cl s r tm):∀ B i,ObjLike B i o o:=by
  intro B i
  rcases h with ⟨c,e,f,rfl⟩|h|⟨cap,cl,s,r,tm,rfl⟩
  · exact .cells _ _ _ _ (Within.refl _) fun _=>rfl
  · exact .same _ h
  · exact .chan ..
theorem tame_new (o:Obj)(ho:∀ B i,ObjLike B i o o):Tame S P P' L (newObj o) (newObj o):=fun w v h _=>
  ⟨v.tape,.ok w.heap.size { v with heap:=v.heap.push o },Agree.refl _ _,Nat.le_refl _,fun t' _=>by
      show Result.ok v.heap.size _=_
      rw [h.size];rfl,_,rfl,h.push o ho,kept_push h o,by simp⟩
theorem tame_shape_bind {β:Type}{r:Nat}{f f':Option (TypeId × Nat)->Sem β}(hn:Tame S P P' L (f none) (f' none))(hs:∀ e m n,((m=0 ↔ n=0)/\n<=m)->Tame S P P' L (f (some (e,m))) (f' (some (e,n)))):Tame S P P' L (shape r >>= f) (shape r >>= f'):=by
  intro w v h hL
  have rn:∀ (Q:Program) (x:World) (g:Option (TypeId × Nat)->Sem β),(shape r >>= g).run Q x=(g (x.shape? r)).run Q x:=fun _ _ _=>rfl
  have en:(shape r >>= f).events P w #[] = (f (w.shape? r)).events P w #[]:=rfl
  obtain ⟨t,x,h1,h2,h3,h4⟩:∃ t x,Agree t v.tape v.drawn/\v.drawn<=(end' x).drawn/\Runs P' (f' (v.shape? r)) v t x/\Sim S P (f (w.shape? r)) w x:=by
    rcases h.shape r with ⟨e1,e2⟩|⟨e,m,n,e1,e2,e3⟩
    · rw [e1,e2];exact hn w v h hL
    · rw [e1,e2];exact hs e m n e3 w v h hL
  refine ⟨t,x,h1,h2,fun t' ht'=>(rn _ _ _).trans (h3 t' ht'),?_⟩
  match x,h4 with
  | .ok x v',⟨w',a,b,c,d⟩=>exact ⟨w',(rn _ _ _).trans a,b,c,by rw [en];exact d⟩
  | .halt (.panic x) v',⟨w',a,b,c,d⟩=>exact ⟨w',(rn _ _ _).trans a,b,c,by rw [en];exact d⟩
  | .halt .blocked _,d | .halt .waiting _,d | .halt .goexit _,d | .halt (.exit _) _,d | .halt (.fatal _) _,d | .halt (.throw _) _,d=>exact d.elim
  | .halt (.unsupported _) _,d | .halt (.stuck _) _,d=>exact d
theorem tame_mark (m:Mark)(hm:m≠.disable/\m≠.enable/\(∀ a,m≠.read a)/\∀ a,m≠.write a):Tame S P P' L (mark m) (mark m):=fun w v h _=>
  ⟨v.tape,.ok () v,Agree.refl _ _,Nat.le_refl _,fun t' _=>rfl,_,rfl,h,Kept.refl _ _,by
    intro e he
    have:e=⟨.mark m,false,true⟩:=by simpa using he
    subst this
    exact ⟨by simp,by simpa using hm.1,by simpa using hm.2.1,by simpa using hm.2.2.1,by simpa using hm.2.2.2⟩⟩
theorem Like.draw {w v:World}(h:Like S w v)(m n:Nat):Like S { w with drawn:=m } { v with drawn:=n }:=⟨h.size,h.obj,h.still,h.gone,h.os,h.out⟩
theorem kept_draw (w:World):Kept S w { w with drawn:=w.drawn+1 }:=⟨rfl,rfl,Nat.le_succ _,Nat.le_refl _,fun _ _=>rfl,fun _ o h hp=>⟨o,h,hp⟩,fun _ _ _ _ _ _ _ h=>h⟩
theorem tame_choose (q:Question):Tame S P P' L (choose q) (choose q):=by
  intro w v h _
  by_cases hq:q.forced=true
  · refine ⟨v.tape,.ok 0 v,Agree.refl _ _,Nat.le_refl _,fun t' _=>?_,w,?_,h,Kept.refl _ _,?_⟩
    · simp [choose,Sem.run,hq,re]
    · simp [choose,Sem.run,hq]
    · simp
  · refine ⟨fun j=>if j=v.drawn then w.tape w.drawn else v.tape j,.ok (q.cut (w.tape w.drawn q)) { v with drawn:=v.drawn+1 },fun j hj=>?_,Nat.le_succ _,fun t' ht'=>?_,
      { w with drawn:=w.drawn+1 },?_,h.draw _ _,kept_draw w,?_⟩
    · have:j≠v.drawn:=Nat.ne_of_lt hj
      simp only [this,if_false]
    · have:=ht' v.drawn (Nat.lt_succ_self _)
      simp only [if_true] at this
      simp only [choose,Sem.run,hq,Bool.false_eq_true,if_false,retape,this]
      rfl
    · simp [choose,Sem.run,hq]
    · simp
theorem tame_askRoom (n:Nat):Tame S P P' L (askRoom n) (askRoom n):=by
  unfold askRoom
  split
  · exact tame_mark _ (by simp)
  · exact tame_pure _
theorem tame_getObj {f f':Obj->Sem β}{r:Nat}(hp:∀ o,plainObj o->Tame S P P' (r :: L) (f o) (f' o))
    (hc:∀ cap buf closed s q s' q' tm,Tame S P P' L (f (.chan cap buf closed s q tm)) (f' (.chan cap buf closed s' q' tm))) (hq:∀ o a t,oddObj o->Tame S P P' L (f o) (f' (.view a t))):Tame S P P' L (getObj r >>= f) (getObj r >>= f'):=by
  intro w v h hL
  have hdead:∀ m,(∀ t',(getObj r >>= f').run P' (retape v t')=.halt (.stuck m) (retape v t'))->∃ t r',Agree t v.tape v.drawn/\v.drawn<=(end' r').drawn/\Runs P' (getObj r >>= f') v t r'/\Sim S P (getObj r >>= f) w r':=
    fun m hm=>⟨v.tape,.halt (.stuck m) v,Agree.refl _ _,Nat.le_refl _,fun t' _=>hm t',trivial⟩
  have key:∀ (o o':Obj),w.heap[r]? = some o->v.heap[r]? = some o'->(∀ c e g,o≠.cells c e g)->(∀ c e g,o'≠.cells c e g) ->
      (∃ t r',Agree t v.tape v.drawn/\v.drawn<=(end' r').drawn/\Runs P' (f' o') v t r'/\Sim S P (f o) w r') ->
      ∃ t r',Agree t v.tape v.drawn/\v.drawn<=(end' r').drawn/\Runs P' (getObj r >>= f') v t r'/\Sim S P (getObj r >>= f) w r':=by
    rintro o o' hw hv n n' ⟨t,r',h1,h2,h3,h4⟩
    have e1:∀ t',(getObj r >>= f').run P' (retape v t')=(f' o').run P' (retape v t'):=fun t'=>by
      have:(retape v t').heap[r]? = some o':=hv
      rw [Sem.run_bind]
      cases o' <;> first|(simp [getObj,Sem.run,this];done)|exact absurd rfl (n' _ _ _)
    have e2:(getObj r >>= f).run P w=(f o).run P w:=by
      rw [Sem.run_bind]
      cases o <;> first|(simp [getObj,Sem.run,hw];done)|exact absurd rfl (n _ _ _)
    have e3:∀ e ∈ (f o).events P w #[],EvGood S e->EvGood S e:=fun _ _ h=>h
    have e4:(∀ e ∈ (f o).events P w #[],EvGood S e)->∀ e ∈ (getObj r >>= f).events P w #[],EvGood S e:=by
      intro hg e he
      rw [Sem.events_bind] at he
      have hrun:(getObj r).run P w=.ok o w:=by cases o <;> first|(simp [getObj,Sem.run,hw];done)|exact absurd rfl (n _ _ _)
      have hev:(getObj r).events P w #[] = #[⟨.obj r,false,o.isChan⟩]:=by
        cases o <;> first|(simp [getObj,Sem.events,Sem.runT,hw,-Sem.runT_eq];done)|exact absurd rfl (n _ _ _)
      rw [hrun,hev] at he
      exact evGood_append (es:=#[⟨.obj r,false,o.isChan⟩]) (by
        intro e he
        have:e=⟨.obj r,false,o.isChan⟩:=by simpa using he
        subst this
        exact ⟨by simp,by simp,by simp,by simp,by simp⟩) hg e he
    refine ⟨t,r',h1,h2,fun t' ht'=>by rw [e1];exact h3 t' ht',?_⟩
    match r',h4 with
    | .ok x v',⟨w',a,b,c,d⟩=>exact ⟨w',by rw [e2];exact a,b,c,e4 d⟩
    | .halt (.panic x) v',⟨w',a,b,c,d⟩=>exact ⟨w',by rw [e2];exact a,b,c,e4 d⟩
    | .halt .blocked _,d | .halt .waiting _,d | .halt .goexit _,d | .halt (.exit _) _,d | .halt (.fatal _) _,d | .halt (.throw _) _,d=>exact d.elim
    | .halt (.unsupported _) _,d | .halt (.stuck _) _,d=>exact d
  cases hw:w.heap[r]? with
  | none=>
    have hv:=h.none hw
    exact hdead "getObj: no such block" fun t'=>by
      have:(retape v t').heap[r]? = none:=hv
      rw [Sem.run_bind];simp [getObj,Sem.run,this]
  | some o=>
    obtain ⟨o',hv,hl⟩:=h.some hw
    cases hl with
    | cells c e f' g hw'=>
      exact hdead "getObj: a row of cells" fun t'=>by
        have:(retape v t').heap[r]? = some (.cells c e g):=hv
        rw [Sem.run_bind];simp [getObj,Sem.run,this]
    | short c c' e f g=>
      exact hdead "getObj: a row of cells" fun t'=>by
        have:(retape v t').heap[r]? = some (.cells c' e g):=hv
        rw [Sem.run_bind];simp [getObj,Sem.run,this]
    | chan cap closed s q s' q' tm=>exact key _ _ hw hv (by simp) (by simp) (hc cap #[] closed s q s' q' tm w v h hL)
    | odd _ ho=>exact key _ _ hw hv (fun c e g eq=>by subst eq;exact ho) (by simp [oddView]) (hq o _ _ ho w v h hL)
    | same _ ho=>exact key _ _ hw hv (fun c e g eq=>by subst eq;exact ho) (fun c e g eq=>by subst eq;exact ho) (hp o ho w v h (by
        intro r' hr'
        rcases List.mem_cons.1 hr' with rfl|hr'
        · exact ⟨o,hw,ho⟩
        · exact hL r' hr'))
theorem tame_setObj (r:Nat)(o:Obj)(ho:plainObj o)(hr:r ∈ L):Tame S P P' L (setObj r o) (setObj r o):=by
  intro w v h hL
  obtain ⟨o₁,hw,hp⟩:=hL r hr
  obtain ⟨o₂,hv,hl⟩:=h.some hw
  have hlt:r<w.heap.size:=(Array.getElem?_eq_some_iff.1 hw).1
  have e12:o₂=o₁:=by cases hl with|cells=>exact hp.elim|short=>exact hp.elim|chan=>exact hp.elim|same=>rfl|odd _ ho=>(cases o₁ <;> first|exact hp.elim|exact ho.elim)
  subst e12
  have run:∀ (P:Program) (x:World),x.heap[r]? = some o₂->(setObj r o).run P x=.ok () { x with heap:=x.heap.setIfInBounds r o }:=fun P x hx=>by
    cases o₂ <;> first|(simp [setObj,Sem.run,hx];done)|exact hp.elim
  refine ⟨v.tape,.ok () { v with heap:=v.heap.setIfInBounds r o },Agree.refl _ _,Nat.le_refl _,fun t' _=>?_,{ w with heap:=w.heap.setIfInBounds r o },run P w hw,⟨by simp [h.size],fun i a b ha hb=>?_,fun a ha=>⟨(h.still a ha).1,?_⟩,fun a ha=>?_,h.os,h.out⟩,⟨rfl,rfl,Nat.le_refl _,by simp,fun a _=>?_,fun i a ha hpa=>?_,fun i cap buf cl s q tm hi=>?_⟩,?_⟩
  · rw [run P' (retape v t') hv];rfl
  · simp only [Array.getElem?_setIfInBounds] at ha hb
    by_cases e:r=i
    · subst e
      simp only [if_true,hlt,h.size] at ha hb
      cases ha;cases hb
      exact .same _ ho
    · simp only [e,if_false] at ha hb
      exact h.obj i _ _ ha hb
  · have hf:=(h.still a ha).2
    unfold World.frozen? at *
    simp only [Array.getElem?_setIfInBounds]
    by_cases e:r=a.block
    · rw [← e,hv] at hf
      cases o₂ <;> first|cases hf|exact hp.elim
    · simp only [e,if_false];exact hf
  · obtain ⟨g1,g2,g3⟩:=h.gone a ha
    refine ⟨g1,?_,by simpa using g3⟩
    unfold World.cell? at *
    simp only [Array.getElem?_setIfInBounds]
    by_cases e:r=a.block
    · rw [← e]
      simp only [if_true,h.size ▸ hlt]
      cases o <;> first|rfl|exact ho.elim
    · simp only [e,if_false];exact g2
  · unfold World.cell?
    simp only [Array.getElem?_setIfInBounds]
    by_cases e:r=a.block
    · rw [← e]
      simp only [if_true,hlt,hw]
      cases o₂ <;> first|exact hp.elim|(cases o <;> first|exact ho.elim|rfl)
    · simp only [e,if_false]
  · simp only [Array.getElem?_setIfInBounds]
    by_cases e:r=i
    · exact ⟨o,by simp [e,e ▸ hlt],ho⟩
    · exact ⟨a,by simp only [e,if_false];exact ha,hpa⟩
  · have e:r≠i:=fun e=>by subst e;rw [hw] at hi;cases hi;exact hp
    simp only [Array.getElem?_setIfInBounds,e,if_false];exact hi
  · intro e he
    have:e=⟨.obj r,true,o.isChan⟩:=by
      have hne:∀ c t f,w.heap[r]? ≠ some (.cells c t f):=fun c t f hh=>by rw [hw] at hh;cases hh;exact hp
      have:(setObj r o).events P w #[] = #[⟨.obj r,true,o.isChan⟩]:=by
        cases o₂ <;> first|(simp [setObj,Sem.events,Sem.runT,hw,-Sem.runT_eq];done)|exact hp.elim
      rw [this] at he
      simpa using he
    subst this
    exact ⟨by simp,by simp,by simp,by simp,by simp⟩
end
end
section
def withFuncs (P:Program) (F:Array Func):Program:={ P with funcs:=F }
def T1 {α:Type} (S:Prot) (P:Program) (F:Array Func) (L:List Nat) (s:Sem α):Prop:=Tame S P (withFuncs P F) L s s
section
variable {α β:Type}{S:Prot}{P:Program}{F:Array Func}{L:List Nat}
theorem t_pure (a:α):T1 S P F L (pure a):=tame_pure a
theorem t_stuck (m:String):T1 S P F L (stuck m:Sem α):=tame_stuck m
def notOrder:Unsupported->Bool
  | .initOrder _=>false
  | _=>true
theorem t_unsupported (u:Unsupported)(hu:notOrder u=true):T1 S P F L (unsupported u:Sem α):=tame_unsupported u fun g e=>by subst e;cases hu
theorem t_goPanic (x:Value):T1 S P F L (goPanic x:Sem α):=tame_goPanic x
theorem t_shape_bind {r:Nat}{f:Option (TypeId × Nat)->Sem β}(hn:T1 S P F L (f none))(hs:∀ e m n,((m=0 ↔ n=0)/\n<=m)->Tame S P (withFuncs P F) L (f (some (e,m))) (f (some (e,n)))):T1 S P F L (shape r >>= f):=tame_shape_bind hn hs
theorem t_load (a:Addr)(m:Mode):T1 S P F L (load a m):=tame_load a m
theorem t_store (a:Addr)(x:Value)(m:Mode):T1 S P F L (store a x m):=tame_store a x m
theorem t_choose (q:Question):T1 S P F L (choose q):=tame_choose q
theorem t_askRoom (n:Nat):T1 S P F L (askRoom n):=tame_askRoom n
theorem t_new (o:Obj)(ho:∀ B i,ObjLike B i o o):T1 S P F L (newObj o):=tame_new o ho
theorem t_mark (m:Mark)(hm:m≠.disable/\m≠.enable/\(∀ a,m≠.read a)/\∀ a,m≠.write a):T1 S P F L (mark m):=tame_mark m hm
theorem t_setObj (r:Nat)(o:Obj)(ho:plainObj o)(hr:r ∈ L):T1 S P F L (setObj r o):=tame_setObj r o ho hr
theorem t_bind {x:Sem α}{f:α->Sem β}(hx:T1 S P F L x)(hf:∀ a,T1 S P F L (f a)):T1 S P F L (x >>= f):=tame_bind hx hf
theorem t_map {x:Sem α}(f:α->β)(hx:T1 S P F L x):T1 S P F L (Functor.map f x):=by
  rw [map_eq_pure_bind]
  exact t_bind hx fun _=>t_pure _
theorem t_program {f:Program->Sem β}(h:f (withFuncs P F)=f P)(k:T1 S P F L (f P)):T1 S P F L (program >>= f):=by
  intro w v hl hL
  obtain ⟨t,r,h1,h2,h3,h4⟩:=k w v hl hL
  refine ⟨t,r,h1,h2,fun t' ht'=>?_,h4⟩
  have:=h3 t' ht'
  rw [← this]
  show (f (withFuncs P F)).run _ _=_
  rw [h]
theorem t_getObj {f:Obj->Sem β}{r:Nat}(hp:∀ o,plainObj o->T1 S P F (r :: L) (f o))
    (hc:∀ cap buf closed s q s' q' tm,Tame S P (withFuncs P F) L (f (.chan cap buf closed s q tm)) (f (.chan cap buf closed s' q' tm))) (hq:∀ o a t,oddObj o->Tame S P (withFuncs P F) L (f o) (f (.view a t))):T1 S P F L (getObj r >>= f):=tame_getObj hp hc hq
theorem tame_odd {P':Program}{s s':Sem α}(h:∃ y,Dead y/\s'=.halt y):Tame S P P' L s s':=by
  obtain ⟨y,hy,rfl⟩:=h
  exact tame_dead' s y hy
def isStuck {α:Type}:Sem α->Bool
  | .halt (.stuck _)=>true
  | _=>false
theorem tame_oddS {P':Program}{s s':Sem α}(h:isStuck s'=true):Tame S P P' L s s':=by
  match s',h with
  | .halt (.stuck m),_=>exact tame_odd ⟨.stuck m,trivial,rfl⟩
theorem t_stuck_bind (m:String)(f:α->Sem β):T1 S P F L ((stuck m:Sem α) >>= f):=tame_dead _ trivial
theorem t_ite (c:Prop) [Decidable c] {x y:Sem α}(hx:T1 S P F L x)(hy:T1 S P F L y):T1 S P F L (if c then x else y):=by split <;> assumption
theorem tame_of_t1 {s:Sem α}(h:T1 S P F L s):Tame S P (withFuncs P F) L s s:=h
theorem t_typeInfo (t:TypeId):T1 S P F L (typeInfo t):=by
  unfold typeInfo
  repeat' first
    | with_reducible exact t_pure _
    | with_reducible exact t_stuck _
    | with_reducible refine t_unsupported _ ?_
    | with_reducible exact t_goPanic _
    | with_reducible exact t_load _ _
    | with_reducible exact t_store _ _ _
    | with_reducible exact t_choose _
    | with_reducible exact t_askRoom _
    | with_reducible refine t_program ?_ ?_
    | with_reducible refine t_getObj (fun o ho=>?_) (fun _ _ _ _ _ _ _ _=>?_) (fun o _ _ ho=>?_)
    | ((with_reducible refine tame_oddS ?_);rfl)
    | with_reducible refine t_bind ?_ (fun _=>?_)
    | with_reducible refine t_map _ ?_
    | with_reducible refine tame_of_t1 ?_
    | rfl
    | with_reducible refine t_ite _ ?_ ?_
    | dsimp only
    | split
theorem t_underlying (t:TypeId):T1 S P F L (underlying t):=by
  unfold underlying
  repeat' first
    | with_reducible exact t_pure _
    | with_reducible exact t_stuck _
    | with_reducible refine t_unsupported _ ?_
    | with_reducible exact t_goPanic _
    | with_reducible exact t_load _ _
    | with_reducible exact t_store _ _ _
    | with_reducible exact t_choose _
    | with_reducible exact t_askRoom _
    | with_reducible exact t_typeInfo _
    | with_reducible refine t_program ?_ ?_
    | with_reducible refine t_getObj (fun o ho=>?_) (fun _ _ _ _ _ _ _ _=>?_) (fun o _ _ ho=>?_)
    | ((with_reducible refine tame_oddS ?_);rfl)
    | with_reducible refine t_bind ?_ (fun _=>?_)
    | with_reducible refine t_map _ ?_
    | with_reducible refine tame_of_t1 ?_
    | rfl
    | with_reducible refine t_ite _ ?_ ?_
    | dsimp only
    | split
theorem t_zeroValue (t:TypeId):T1 S P F L (zeroValue t):=by
  unfold zeroValue
  repeat' first
    | with_reducible exact t_pure _
    | with_reducible exact t_stuck _
    | with_reducible refine t_unsupported _ ?_
    | with_reducible exact t_goPanic _
    | with_reducible exact t_load _ _
    | with_reducible exact t_store _ _ _
    | with_reducible exact t_choose _
    | with_reducible exact t_askRoom _
    | with_reducible exact t_typeInfo _
    | with_reducible exact t_underlying _
    | with_reducible refine t_program ?_ ?_
    | with_reducible refine t_getObj (fun o ho=>?_) (fun _ _ _ _ _ _ _ _=>?_) (fun o _ _ ho=>?_)
    | ((with_reducible refine tame_oddS ?_);rfl)
    | with_reducible refine t_bind ?_ (fun _=>?_)
    | with_reducible refine t_map _ ?_
    | with_reducible refine tame_of_t1 ?_
    | rfl
    | with_reducible refine t_ite _ ?_ ?_
    | dsimp only
    | split
theorem t_sizeOf (t:TypeId):T1 S P F L (sizeOf t):=by
  unfold sizeOf
  repeat' first
    | with_reducible exact t_pure _
    | with_reducible exact t_stuck _
    | with_reducible refine t_unsupported _ ?_
    | with_reducible exact t_goPanic _
    | with_reducible exact t_load _ _
    | with_reducible exact t_store _ _ _
    | with_reducible exact t_choose _
    | with_reducible exact t_askRoom _
    | with_reducible exact t_typeInfo _
    | with_reducible exact t_underlying _
    | with_reducible exact t_zeroValue _
    | with_reducible refine t_program ?_ ?_
    | with_reducible refine t_getObj (fun o ho=>?_) (fun _ _ _ _ _ _ _ _=>?_) (fun o _ _ ho=>?_)
    | ((with_reducible refine tame_oddS ?_);rfl)
    | with_reducible refine t_bind ?_ (fun _=>?_)
    | with_reducible refine t_map _ ?_
    | with_reducible refine tame_of_t1 ?_
    | rfl
    | with_reducible refine t_ite _ ?_ ?_
    | dsimp only
    | split
theorem t_isAgg (t:TypeId):T1 S P F L (isAgg t):=by
  unfold isAgg
  repeat' first
    | with_reducible exact t_pure _
    | with_reducible exact t_stuck _
    | with_reducible refine t_unsupported _ ?_
    | with_reducible exact t_goPanic _
    | with_reducible exact t_load _ _
    | with_reducible exact t_store _ _ _
    | with_reducible exact t_choose _
    | with_reducible exact t_askRoom _
    | with_reducible exact t_typeInfo _
    | with_reducible exact t_underlying _
    | with_reducible exact t_zeroValue _
    | with_reducible exact t_sizeOf _
    | with_reducible refine t_program ?_ ?_
    | with_reducible refine t_getObj (fun o ho=>?_) (fun _ _ _ _ _ _ _ _=>?_) (fun o _ _ ho=>?_)
    | ((with_reducible refine tame_oddS ?_);rfl)
    | with_reducible refine t_bind ?_ (fun _=>?_)
    | with_reducible refine t_map _ ?_
    | with_reducible refine tame_of_t1 ?_
    | rfl
    | with_reducible refine t_ite _ ?_ ?_
    | dsimp only
    | split
theorem t_typeStr (t:TypeId):T1 S P F L (typeStr t):=by
  unfold typeStr
  repeat' first
    | with_reducible exact t_pure _
    | with_reducible exact t_stuck _
    | with_reducible refine t_unsupported _ ?_
    | with_reducible exact t_goPanic _
    | with_reducible exact t_load _ _
    | with_reducible exact t_store _ _ _
    | with_reducible exact t_choose _
    | with_reducible exact t_askRoom _
    | with_reducible exact t_typeInfo _
    | with_reducible exact t_underlying _
    | with_reducible exact t_zeroValue _
    | with_reducible exact t_sizeOf _
    | with_reducible exact t_isAgg _
    | with_reducible refine t_program ?_ ?_
    | with_reducible refine t_getObj (fun o ho=>?_) (fun _ _ _ _ _ _ _ _=>?_) (fun o _ _ ho=>?_)
    | ((with_reducible refine tame_oddS ?_);rfl)
    | with_reducible refine t_bind ?_ (fun _=>?_)
    | with_reducible refine t_map _ ?_
    | with_reducible refine tame_of_t1 ?_
    | rfl
    | with_reducible refine t_ite _ ?_ ?_
    | dsimp only
    | split
theorem t_elemOf (t:TypeId):T1 S P F L (elemOf t):=by
  unfold elemOf
  repeat' first
    | with_reducible exact t_pure _
    | with_reducible exact t_stuck _
    | with_reducible refine t_unsupported _ ?_
    | with_reducible exact t_goPanic _
    | with_reducible exact t_load _ _
    | with_reducible exact t_store _ _ _
    | with_reducible exact t_choose _
    | with_reducible exact t_askRoom _
    | with_reducible exact t_typeInfo _
    | with_reducible exact t_underlying _
    | with_reducible exact t_zeroValue _
    | with_reducible exact t_sizeOf _
    | with_reducible exact t_isAgg _
    | with_reducible exact t_typeStr _
    | with_reducible refine t_program ?_ ?_
    | with_reducible refine t_getObj (fun o ho=>?_) (fun _ _ _ _ _ _ _ _=>?_) (fun o _ _ ho=>?_)
    | ((with_reducible refine tame_oddS ?_);rfl)
    | with_reducible refine t_bind ?_ (fun _=>?_)
    | with_reducible refine t_map _ ?_
    | with_reducible refine tame_of_t1 ?_
    | rfl
    | with_reducible refine t_ite _ ?_ ?_
    | dsimp only
    | split
theorem t_loadCellsFrom (a:Addr):∀ (n i:Nat) (acc:Array Value),T1 S P F L (loadCellsFrom a i n acc)
  | 0,_,_=>t_pure _
  | n+1,i,_=>t_bind (t_load _ _) fun _=>t_loadCellsFrom a n (i+1) _
theorem t_loadCells (a:Addr)(n:Nat):T1 S P F L (loadCells a n):=t_loadCellsFrom a n 0 _
theorem t_storeCells (a:Addr):∀ (vs:List Value) (i:Nat),T1 S P F L (storeCells a vs i)
  | [],_=>t_pure _
  | _ :: rest,i=>t_bind (t_store _ _ _) fun _=>t_storeCells a rest (i+1)
theorem t_loadVar (t:TypeId)(a:Addr):T1 S P F L (loadVar t a):=by
  unfold loadVar
  repeat' first
    | with_reducible exact t_pure _
    | with_reducible exact t_stuck _
    | with_reducible refine t_unsupported _ ?_
    | with_reducible exact t_goPanic _
    | with_reducible exact t_load _ _
    | with_reducible exact t_store _ _ _
    | with_reducible exact t_choose _
    | with_reducible exact t_askRoom _
    | with_reducible exact t_typeInfo _
    | with_reducible exact t_underlying _
    | with_reducible exact t_zeroValue _
    | with_reducible exact t_sizeOf _
    | with_reducible exact t_isAgg _
    | with_reducible exact t_typeStr _
    | with_reducible exact t_elemOf _
    | with_reducible exact t_loadCells _ _
    | with_reducible exact t_storeCells _ _ _
    | with_reducible refine t_program ?_ ?_
    | with_reducible refine t_getObj (fun o ho=>?_) (fun _ _ _ _ _ _ _ _=>?_) (fun o _ _ ho=>?_)
    | ((with_reducible refine tame_oddS ?_);rfl)
    | with_reducible refine t_bind ?_ (fun _=>?_)
    | with_reducible refine t_map _ ?_
    | with_reducible refine tame_of_t1 ?_
    | rfl
    | with_reducible refine t_ite _ ?_ ?_
    | dsimp only
    | split
theorem t_storeVar (t:TypeId)(a:Addr)(v:Value):T1 S P F L (storeVar t a v):=by
  unfold storeVar
  repeat' first
    | with_reducible exact t_pure _
    | with_reducible exact t_stuck _
    | with_reducible refine t_unsupported _ ?_
    | with_reducible exact t_goPanic _
    | with_reducible exact t_load _ _
    | with_reducible exact t_store _ _ _
    | with_reducible exact t_choose _
    | with_reducible exact t_askRoom _
    | with_reducible exact t_typeInfo _
    | with_reducible exact t_underlying _
    | with_reducible exact t_zeroValue _
    | with_reducible exact t_sizeOf _
    | with_reducible exact t_isAgg _
    | with_reducible exact t_typeStr _
    | with_reducible exact t_elemOf _
    | with_reducible exact t_loadCells _ _
    | with_reducible exact t_storeCells _ _ _
    | with_reducible exact t_loadVar _ _
    | with_reducible refine t_program ?_ ?_
    | with_reducible refine t_getObj (fun o ho=>?_) (fun _ _ _ _ _ _ _ _=>?_) (fun o _ _ ho=>?_)
    | ((with_reducible refine tame_oddS ?_);rfl)
    | with_reducible refine t_bind ?_ (fun _=>?_)
    | with_reducible refine t_map _ ?_
    | with_reducible refine tame_of_t1 ?_
    | rfl
    | with_reducible refine t_ite _ ?_ ?_
    | dsimp only
    | split
theorem t_newRow (e:TypeId)(c:Array Value):T1 S P F L (newRow e c):=t_bind (t_new _ (fun _ _=>.cells _ _ _ _ (Within.refl _) fun _=>rfl)) fun _=>t_pure _
theorem t_newVar (t:TypeId)(v:Value):T1 S P F L (newVar t v):=t_newRow t v.cells
theorem t_part (t:TypeId)(cs:Array Value)(off:Nat):T1 S P F L (part t cs off):=by
  unfold part
  repeat' first
    | with_reducible exact t_pure _
    | with_reducible exact t_stuck _
    | with_reducible refine t_unsupported _ ?_
    | with_reducible exact t_goPanic _
    | with_reducible exact t_load _ _
    | with_reducible exact t_store _ _ _
    | with_reducible exact t_choose _
    | with_reducible exact t_askRoom _
    | with_reducible exact t_typeInfo _
    | with_reducible exact t_underlying _
    | with_reducible exact t_zeroValue _
    | with_reducible exact t_sizeOf _
    | with_reducible exact t_isAgg _
    | with_reducible exact t_typeStr _
    | with_reducible exact t_elemOf _
    | with_reducible exact t_loadCells _ _
    | with_reducible exact t_storeCells _ _ _
    | with_reducible exact t_loadVar _ _
    | with_reducible exact t_storeVar _ _ _
    | with_reducible exact t_newRow _ _
    | with_reducible exact t_newVar _ _
    | with_reducible refine t_program ?_ ?_
    | with_reducible refine t_getObj (fun o ho=>?_) (fun _ _ _ _ _ _ _ _=>?_) (fun o _ _ ho=>?_)
    | ((with_reducible refine tame_oddS ?_);rfl)
    | with_reducible refine t_bind ?_ (fun _=>?_)
    | with_reducible refine t_map _ ?_
    | with_reducible refine tame_of_t1 ?_
    | rfl
    | with_reducible refine t_ite _ ?_ ?_
    | dsimp only
    | split
theorem t_runtimePanic (e:RuntimeError):T1 S P F L ((runtimePanic e:Sem α)):=by
  unfold runtimePanic
  repeat' first
    | with_reducible exact t_pure _
    | with_reducible exact t_stuck _
    | with_reducible refine t_unsupported _ ?_
    | with_reducible exact t_goPanic _
    | with_reducible exact t_load _ _
    | with_reducible exact t_store _ _ _
    | with_reducible exact t_choose _
    | with_reducible exact t_askRoom _
    | with_reducible exact t_typeInfo _
    | with_reducible exact t_underlying _
    | with_reducible exact t_zeroValue _
    | with_reducible exact t_sizeOf _
    | with_reducible exact t_isAgg _
    | with_reducible exact t_typeStr _
    | with_reducible exact t_elemOf _
    | with_reducible exact t_loadCells _ _
    | with_reducible exact t_storeCells _ _ _
    | with_reducible exact t_loadVar _ _
    | with_reducible exact t_storeVar _ _ _
    | with_reducible exact t_newRow _ _
    | with_reducible exact t_newVar _ _
    | with_reducible exact t_part _ _ _
    | with_reducible refine t_program ?_ ?_
    | with_reducible refine t_getObj (fun o ho=>?_) (fun _ _ _ _ _ _ _ _=>?_) (fun o _ _ ho=>?_)
    | ((with_reducible refine tame_oddS ?_);rfl)
    | with_reducible refine t_bind ?_ (fun _=>?_)
    | with_reducible refine t_map _ ?_
    | with_reducible refine tame_of_t1 ?_
    | rfl
    | with_reducible refine t_ite _ ?_ ?_
    | dsimp only
    | split
theorem t_boundsPanic (k:IntKind)(x y:Int)(c:BoundsCode):T1 S P F L ((boundsPanic k x y c:Sem α)):=by
  unfold boundsPanic
  repeat' first
    | with_reducible exact t_pure _
    | with_reducible exact t_stuck _
    | with_reducible refine t_unsupported _ ?_
    | with_reducible exact t_goPanic _
    | with_reducible exact t_load _ _
    | with_reducible exact t_store _ _ _
    | with_reducible exact t_choose _
    | with_reducible exact t_askRoom _
    | with_reducible exact t_typeInfo _
    | with_reducible exact t_underlying _
    | with_reducible exact t_zeroValue _
    | with_reducible exact t_sizeOf _
    | with_reducible exact t_isAgg _
    | with_reducible exact t_typeStr _
    | with_reducible exact t_elemOf _
    | with_reducible exact t_loadCells _ _
    | with_reducible exact t_storeCells _ _ _
    | with_reducible exact t_loadVar _ _
    | with_reducible exact t_storeVar _ _ _
    | with_reducible exact t_newRow _ _
    | with_reducible exact t_newVar _ _
    | with_reducible exact t_part _ _ _
    | with_reducible exact t_runtimePanic _
    | with_reducible refine t_program ?_ ?_
    | with_reducible refine t_getObj (fun o ho=>?_) (fun _ _ _ _ _ _ _ _=>?_) (fun o _ _ ho=>?_)
    | ((with_reducible refine tame_oddS ?_);rfl)
    | with_reducible refine t_bind ?_ (fun _=>?_)
    | with_reducible refine t_map _ ?_
    | with_reducible refine tame_of_t1 ?_
    | rfl
    | with_reducible refine t_ite _ ?_ ?_
    | dsimp only
    | split
theorem t_asIntOf (v:Value):T1 S P F L (asIntOf v):=by
  unfold asIntOf
  repeat' first
    | with_reducible exact t_pure _
    | with_reducible exact t_stuck _
    | with_reducible refine t_unsupported _ ?_
    | with_reducible exact t_goPanic _
    | with_reducible exact t_load _ _
    | with_reducible exact t_store _ _ _
    | with_reducible exact t_choose _
    | with_reducible exact t_askRoom _
    | with_reducible exact t_typeInfo _
    | with_reducible exact t_underlying _
    | with_reducible exact t_zeroValue _
    | with_reducible exact t_sizeOf _
    | with_reducible exact t_isAgg _
    | with_reducible exact t_typeStr _
    | with_reducible exact t_elemOf _
    | with_reducible exact t_loadCells _ _
    | with_reducible exact t_storeCells _ _ _
    | with_reducible exact t_loadVar _ _
    | with_reducible exact t_storeVar _ _ _
    | with_reducible exact t_newRow _ _
    | with_reducible exact t_newVar _ _
    | with_reducible exact t_part _ _ _
    | with_reducible exact t_runtimePanic _
    | with_reducible exact t_boundsPanic _ _ _ _
    | with_reducible refine t_program ?_ ?_
    | with_reducible refine t_getObj (fun o ho=>?_) (fun _ _ _ _ _ _ _ _=>?_) (fun o _ _ ho=>?_)
    | ((with_reducible refine tame_oddS ?_);rfl)
    | with_reducible refine t_bind ?_ (fun _=>?_)
    | with_reducible refine t_map _ ?_
    | with_reducible refine tame_of_t1 ?_
    | rfl
    | with_reducible refine t_ite _ ?_ ?_
    | dsimp only
    | split
theorem t_asInt (v:Value):T1 S P F L (asInt v):=by
  unfold asInt
  repeat' first
    | with_reducible exact t_pure _
    | with_reducible exact t_stuck _
    | with_reducible refine t_unsupported _ ?_
    | with_reducible exact t_goPanic _
    | with_reducible exact t_load _ _
    | with_reducible exact t_store _ _ _
    | with_reducible exact t_choose _
    | with_reducible exact t_askRoom _
    | with_reducible exact t_typeInfo _
    | with_reducible exact t_underlying _
    | with_reducible exact t_zeroValue _
    | with_reducible exact t_sizeOf _
    | with_reducible exact t_isAgg _
    | with_reducible exact t_typeStr _
    | with_reducible exact t_elemOf _
    | with_reducible exact t_loadCells _ _
    | with_reducible exact t_storeCells _ _ _
    | with_reducible exact t_loadVar _ _
    | with_reducible exact t_storeVar _ _ _
    | with_reducible exact t_newRow _ _
    | with_reducible exact t_newVar _ _
    | with_reducible exact t_part _ _ _
    | with_reducible exact t_runtimePanic _
    | with_reducible exact t_boundsPanic _ _ _ _
    | with_reducible exact t_asIntOf _
    | with_reducible refine t_program ?_ ?_
    | with_reducible refine t_getObj (fun o ho=>?_) (fun _ _ _ _ _ _ _ _=>?_) (fun o _ _ ho=>?_)
    | ((with_reducible refine tame_oddS ?_);rfl)
    | with_reducible refine t_bind ?_ (fun _=>?_)
    | with_reducible refine t_map _ ?_
    | with_reducible refine tame_of_t1 ?_
    | rfl
    | with_reducible refine t_ite _ ?_ ?_
    | dsimp only
    | split
theorem t_asBool (v:Value):T1 S P F L (asBool v):=by
  unfold asBool
  repeat' first
    | with_reducible exact t_pure _
    | with_reducible exact t_stuck _
    | with_reducible refine t_unsupported _ ?_
    | with_reducible exact t_goPanic _
    | with_reducible exact t_load _ _
    | with_reducible exact t_store _ _ _
    | with_reducible exact t_choose _
    | with_reducible exact t_askRoom _
    | with_reducible exact t_typeInfo _
    | with_reducible exact t_underlying _
    | with_reducible exact t_zeroValue _
    | with_reducible exact t_sizeOf _
    | with_reducible exact t_isAgg _
    | with_reducible exact t_typeStr _
    | with_reducible exact t_elemOf _
    | with_reducible exact t_loadCells _ _
    | with_reducible exact t_storeCells _ _ _
    | with_reducible exact t_loadVar _ _
    | with_reducible exact t_storeVar _ _ _
    | with_reducible exact t_newRow _ _
    | with_reducible exact t_newVar _ _
    | with_reducible exact t_part _ _ _
    | with_reducible exact t_runtimePanic _
    | with_reducible exact t_boundsPanic _ _ _ _
    | with_reducible exact t_asIntOf _
    | with_reducible exact t_asInt _
    | with_reducible refine t_program ?_ ?_
    | with_reducible refine t_getObj (fun o ho=>?_) (fun _ _ _ _ _ _ _ _=>?_) (fun o _ _ ho=>?_)
    | ((with_reducible refine tame_oddS ?_);rfl)
    | with_reducible refine t_bind ?_ (fun _=>?_)
    | with_reducible refine t_map _ ?_
    | with_reducible refine tame_of_t1 ?_
    | rfl
    | with_reducible refine t_ite _ ?_ ?_
    | dsimp only
    | split
theorem t_asString (v:Value):T1 S P F L (asString v):=by
  unfold asString
  repeat' first
    | with_reducible exact t_pure _
    | with_reducible exact t_stuck _
    | with_reducible refine t_unsupported _ ?_
    | with_reducible exact t_goPanic _
    | with_reducible exact t_load _ _
    | with_reducible exact t_store _ _ _
    | with_reducible exact t_choose _
    | with_reducible exact t_askRoom _
    | with_reducible exact t_typeInfo _
    | with_reducible exact t_underlying _
    | with_reducible exact t_zeroValue _
    | with_reducible exact t_sizeOf _
    | with_reducible exact t_isAgg _
    | with_reducible exact t_typeStr _
    | with_reducible exact t_elemOf _
    | with_reducible exact t_loadCells _ _
    | with_reducible exact t_storeCells _ _ _
    | with_reducible exact t_loadVar _ _
    | with_reducible exact t_storeVar _ _ _
    | with_reducible exact t_newRow _ _
    | with_reducible exact t_newVar _ _
    | with_reducible exact t_part _ _ _
    | with_reducible exact t_runtimePanic _
    | with_reducible exact t_boundsPanic _ _ _ _
    | with_reducible exact t_asIntOf _
    | with_reducible exact t_asInt _
    | with_reducible exact t_asBool _
    | with_reducible refine t_program ?_ ?_
    | with_reducible refine t_getObj (fun o ho=>?_) (fun _ _ _ _ _ _ _ _=>?_) (fun o _ _ ho=>?_)
    | ((with_reducible refine tame_oddS ?_);rfl)
    | with_reducible refine t_bind ?_ (fun _=>?_)
    | with_reducible refine t_map _ ?_
    | with_reducible refine tame_of_t1 ?_
    | rfl
    | with_reducible refine t_ite _ ?_ ?_
    | dsimp only
    | split
theorem t_asAgg (v:Value):T1 S P F L (asAgg v):=by
  unfold asAgg
  repeat' first
    | with_reducible exact t_pure _
    | with_reducible exact t_stuck _
    | with_reducible refine t_unsupported _ ?_
    | with_reducible exact t_goPanic _
    | with_reducible exact t_load _ _
    | with_reducible exact t_store _ _ _
    | with_reducible exact t_choose _
    | with_reducible exact t_askRoom _
    | with_reducible exact t_typeInfo _
    | with_reducible exact t_underlying _
    | with_reducible exact t_zeroValue _
    | with_reducible exact t_sizeOf _
    | with_reducible exact t_isAgg _
    | with_reducible exact t_typeStr _
    | with_reducible exact t_elemOf _
    | with_reducible exact t_loadCells _ _
    | with_reducible exact t_storeCells _ _ _
    | with_reducible exact t_loadVar _ _
    | with_reducible exact t_storeVar _ _ _
    | with_reducible exact t_newRow _ _
    | with_reducible exact t_newVar _ _
    | with_reducible exact t_part _ _ _
    | with_reducible exact t_runtimePanic _
    | with_reducible exact t_boundsPanic _ _ _ _
    | with_reducible exact t_asIntOf _
    | with_reducible exact t_asInt _
    | with_reducible exact t_asBool _
    | with_reducible exact t_asString _
    | with_reducible refine t_program ?_ ?_
    | with_reducible refine t_getObj (fun o ho=>?_) (fun _ _ _ _ _ _ _ _=>?_) (fun o _ _ ho=>?_)
    | ((with_reducible refine tame_oddS ?_);rfl)
    | with_reducible refine t_bind ?_ (fun _=>?_)
    | with_reducible refine t_map _ ?_
    | with_reducible refine tame_of_t1 ?_
    | rfl
    | with_reducible refine t_ite _ ?_ ?_
    | dsimp only
    | split
theorem t_asAddr (v:Value):T1 S P F L (asAddr v):=by
  unfold asAddr
  repeat' first
    | with_reducible exact t_pure _
    | with_reducible exact t_stuck _
    | with_reducible refine t_unsupported _ ?_
    | with_reducible exact t_goPanic _
    | with_reducible exact t_load _ _
    | with_reducible exact t_store _ _ _
    | with_reducible exact t_choose _
    | with_reducible exact t_askRoom _
    | with_reducible exact t_typeInfo _
    | with_reducible exact t_underlying _
    | with_reducible exact t_zeroValue _
    | with_reducible exact t_sizeOf _
    | with_reducible exact t_isAgg _
    | with_reducible exact t_typeStr _
    | with_reducible exact t_elemOf _
    | with_reducible exact t_loadCells _ _
    | with_reducible exact t_storeCells _ _ _
    | with_reducible exact t_loadVar _ _
    | with_reducible exact t_storeVar _ _ _
    | with_reducible exact t_newRow _ _
    | with_reducible exact t_newVar _ _
    | with_reducible exact t_part _ _ _
    | with_reducible exact t_runtimePanic _
    | with_reducible exact t_boundsPanic _ _ _ _
    | with_reducible exact t_asIntOf _
    | with_reducible exact t_asInt _
    | with_reducible exact t_asBool _
    | with_reducible exact t_asString _
    | with_reducible exact t_asAgg _
    | with_reducible refine t_program ?_ ?_
    | with_reducible refine t_getObj (fun o ho=>?_) (fun _ _ _ _ _ _ _ _=>?_) (fun o _ _ ho=>?_)
    | ((with_reducible refine tame_oddS ?_);rfl)
    | with_reducible refine t_bind ?_ (fun _=>?_)
    | with_reducible refine t_map _ ?_
    | with_reducible refine tame_of_t1 ?_
    | rfl
    | with_reducible refine t_ite _ ?_ ?_
    | dsimp only
    | split
theorem t_sureAddr (v:Value):T1 S P F L (Instr.sureAddr v):=by
  unfold Instr.sureAddr
  repeat' first
    | with_reducible exact t_pure _
    | with_reducible exact t_stuck _
    | with_reducible refine t_unsupported _ ?_
    | with_reducible exact t_goPanic _
    | with_reducible exact t_load _ _
    | with_reducible exact t_store _ _ _
    | with_reducible exact t_choose _
    | with_reducible exact t_askRoom _
    | with_reducible exact t_typeInfo _
    | with_reducible exact t_underlying _
    | with_reducible exact t_zeroValue _
    | with_reducible exact t_sizeOf _
    | with_reducible exact t_isAgg _
    | with_reducible exact t_typeStr _
    | with_reducible exact t_elemOf _
    | with_reducible exact t_loadCells _ _
    | with_reducible exact t_storeCells _ _ _
    | with_reducible exact t_loadVar _ _
    | with_reducible exact t_storeVar _ _ _
    | with_reducible exact t_newRow _ _
    | with_reducible exact t_newVar _ _
    | with_reducible exact t_part _ _ _
    | with_reducible exact t_runtimePanic _
    | with_reducible exact t_boundsPanic _ _ _ _
    | with_reducible exact t_asIntOf _
    | with_reducible exact t_asInt _
    | with_reducible exact t_asBool _
    | with_reducible exact t_asString _
    | with_reducible exact t_asAgg _
    | with_reducible exact t_asAddr _
    | with_reducible refine t_program ?_ ?_
    | with_reducible refine t_getObj (fun o ho=>?_) (fun _ _ _ _ _ _ _ _=>?_) (fun o _ _ ho=>?_)
    | ((with_reducible refine tame_oddS ?_);rfl)
    | with_reducible refine t_bind ?_ (fun _=>?_)
    | with_reducible refine t_map _ ?_
    | with_reducible refine tame_of_t1 ?_
    | rfl
    | with_reducible refine t_ite _ ?_ ?_
    | dsimp only
    | split
end
end
section
section
variable {α β:Type}{S:Prot}{P:Program}{F:Array Func}{L:List Nat}
theorem t_forList {γ δ:Type}(f:γ->δ->Sem (ForInStep δ))(h:∀ a b,T1 S P F L (f a b)):∀ (l:List γ) (b:δ),T1 S P F L (forIn l b f)
  | [],b=>by rw [List.forIn_nil];exact t_pure _
  | a :: l,b=>by
    rw [List.forIn_cons]
    refine t_bind (h a b) fun x=>?_
    cases x with
    | done b=>exact t_pure _
    | yield b=>exact t_forList f h l b
theorem t_forArray {γ δ:Type}(l:Array γ)(b:δ)(f:γ->δ->Sem (ForInStep δ))(h:∀ a b,T1 S P F L (f a b)):T1 S P F L (forIn l b f):=by
  rw [← Array.forIn_toList]
  exact t_forList f h _ _
theorem t_forRange {δ:Type}(l:Std.Legacy.Range)(b:δ)(f:Nat->δ->Sem (ForInStep δ))(h:∀ a b,T1 S P F L (f a b)):T1 S P F L (forIn l b f):=by
  rw [Std.Legacy.Range.forIn_eq_forIn_range']
  exact t_forList f h _ _
theorem t_mapList {γ δ:Type}(f:γ->Sem δ)(h:∀ a,T1 S P F L (f a)):∀ (l:List γ),T1 S P F L (l.mapM f)
  | []=>by rw [List.mapM_nil];exact t_pure _
  | a :: l=>by
    rw [List.mapM_cons]
    exact t_bind (h a) fun _=>t_bind (t_mapList f h l) fun _=>t_pure _
theorem t_mapArray {γ δ:Type}(l:Array γ)(f:γ->Sem δ)(h:∀ a,T1 S P F L (f a)):T1 S P F L (l.mapM f):=by
  rw [Array.mapM_eq_mapM_toList]
  exact t_map _ (t_mapList f h _)
theorem byteOfCell_with (d:Nat)(t:TypeId)(off:Nat):byteOfCell (withFuncs P F) d t off=byteOfCell P d t off:=by
  induction d generalizing t off with
  | zero=>rfl
  | succ d ih=>simp only [byteOfCell,ih];rfl
theorem cellOfByte_with (d:Nat)(t:TypeId)(off:Nat):cellOfByte (withFuncs P F) d t off=cellOfByte P d t off:=by
  induction d generalizing t off with
  | zero=>rfl
  | succ d ih=>simp only [cellOfByte,ih];rfl
theorem cellAtBytes_with (d:Nat)(t:TypeId)(c off:Nat)(b:Int):cellAtBytes (withFuncs P F) d t c off b=cellAtBytes P d t c off b:=by
  unfold cellAtBytes
  simp only [cellOfByte_with,byteOfCell_with];rfl
theorem alike_with (d:Nat)(t u:TypeId):(withFuncs P F).alikeButTags d t u=P.alikeButTags d t u:=by
  induction d generalizing t u with
  | zero=>rfl
  | succ d ih=>simp only [Program.alikeButTags,ih];rfl
theorem stoodInHeld_with (t:TypeId):(withFuncs P F).stoodInHeld t=P.stoodInHeld t:=by
  unfold Program.stoodInHeld Program.stoodInAs
  simp only [alike_with];rfl
theorem packed_with (t:TypeId):(withFuncs P F).packed t=P.packed t:=by
  unfold Program.packed Program.packedAs
  simp only [alike_with];rfl
theorem holdsPacked_with (d:Nat)(t:TypeId):(withFuncs P F).holdsPacked d t=P.holdsPacked d t:=by
  induction d generalizing t with
  | zero=>rfl
  | succ d ih=>simp only [Program.holdsPacked,ih,packed_with];rfl
theorem eqGuardType_with (d:Nat)(t:TypeId):(withFuncs P F).eqGuardType d t=P.eqGuardType d t:=by
  induction d generalizing t with
  | zero=>rfl
  | succ d ih=>simp only [Program.eqGuardType,ih];rfl
theorem t_viewAt_bind {f:Option (Addr × TypeId)->Sem β}(r:Nat)(h0:∀ L,T1 S P F L (f none))(hd:∀ x,∃ y,Dead y/\f (some x)=.halt y):T1 S P F L (viewAt r >>= f):=by
  unfold viewAt
  simp only [bind_assoc]
  refine t_shape_bind ?_ (fun _ _ _ _=>by simp only [Option.isSome_some,if_true];exact h0 _)
  simp only [Option.isSome_none,Bool.false_eq_true,if_false]
  have e:(getObj r >>= fun o=>(match o with | .view a t=>pure (some (a,t))|_=>pure none:Sem (Option (Addr × TypeId)))) >>= f=getObj r >>= fun o=>(match o with | .view a t=>f (some (a,t))|_=>f none):=by
    rw [bind_assoc]
    congr 1
    funext o
    cases o <;> rfl
  have e':=congrArg (T1 S P F L) e
  refine Eq.mpr e' ?_
  refine t_getObj (fun o ho=>?_) (fun _ _ _ _ _ _ _ _=>h0 _) (fun o a t ho=>tame_odd (hd (a,t)))
  cases o <;> first|exact ho.elim|exact h0 _
theorem t_numberAt (r:Nat):T1 S P F L (numberAt r):=by
  unfold numberAt
  refine t_shape_bind ?_ (fun _ _ _ _=>tame_pure _)
  simp only [Option.isSome_none,Bool.false_eq_true,if_false]
  refine t_getObj (fun o ho=>?_) (fun _ _ _ _ _ _ _ _=>t_pure _) (fun o _ _ ho=>by cases o <;> first|exact ho.elim|exact tame_pure _)
  split <;> exact t_pure _
theorem t_behindNumber (a:Addr):T1 S P F L (behindNumber a):=by
  unfold behindNumber
  repeat' first
    | with_reducible exact t_pure _
    | with_reducible exact t_numberAt _
    | with_reducible refine t_bind ?_ (fun _=>?_)
theorem t_noView (a:Addr):T1 S P F L (noView a):=by
  unfold noView
  exact t_viewAt_bind _ (fun _=>t_pure _) fun _=>⟨.unsupported (.unsafePointer "memory seen as another type"),trivial,rfl⟩
theorem t_byteOf (a:Addr):T1 S P F L (byteOf a):=by
  unfold byteOf
  repeat' first
    | with_reducible exact t_pure _
    | with_reducible exact t_stuck _
    | with_reducible exact t_noView _
    | with_reducible refine t_program ?_ ?_
    | with_reducible refine t_shape_bind ?_ (fun _ _ _ _=>?_)
    | with_reducible refine t_bind ?_ (fun _=>?_)
    | with_reducible refine tame_of_t1 ?_
    | (simp only [byteOfCell_with];try rfl;done)
    | with_reducible refine t_ite _ ?_ ?_
    | split
theorem t_partAt (a:Addr)(c b:Nat):T1 S P F L (partAt a c b):=by
  unfold partAt
  repeat' first
    | with_reducible exact t_pure _
    | with_reducible exact t_byteOf _
    | with_reducible refine t_bind ?_ (fun _=>?_)
theorem t_fieldPlace (a:Addr)(f:Field):T1 S P F L (fieldPlace a f):=by
  unfold fieldPlace
  repeat' first
    | with_reducible exact t_pure _
    | with_reducible exact t_sizeOf _
    | with_reducible exact t_partAt _ _ _
    | with_reducible refine t_bind ?_ (fun _=>?_)
    | with_reducible refine t_ite _ ?_ ?_
theorem t_loadAt (t:TypeId)(a:Value):T1 S P F L (Instr.loadAt t a):=by
  unfold Instr.loadAt
  repeat' first
    | with_reducible exact t_loadVar _ _
    | with_reducible exact t_sureAddr _
    | with_reducible refine t_bind ?_ (fun _=>?_)
theorem t_storeAt (t:TypeId)(a x:Value):T1 S P F L (Instr.storeAt t a x):=by
  unfold Instr.storeAt
  repeat' first
    | with_reducible exact t_storeVar _ _ _
    | with_reducible exact t_sureAddr _
    | with_reducible refine t_bind ?_ (fun _=>?_)
theorem t_fieldAt (t:TypeId)(a:Value)(f:Nat):T1 S P F L (Instr.fieldAt t a f):=by
  unfold Instr.fieldAt
  repeat' first
    | with_reducible exact t_pure _
    | with_reducible exact t_stuck _
    | with_reducible exact t_underlying _
    | with_reducible exact t_sureAddr _
    | with_reducible exact t_fieldPlace _ _
    | with_reducible refine t_bind ?_ (fun _=>?_)
    | split
theorem t_indexAt (t:TypeId)(a x:Value):T1 S P F L (Instr.indexAt t a x):=by
  unfold Instr.indexAt
  repeat' first
    | with_reducible exact t_pure _
    | with_reducible exact t_stuck _
    | with_reducible refine t_unsupported _ ?_
    | with_reducible exact t_underlying _
    | with_reducible exact t_sizeOf _
    | with_reducible exact t_boundsPanic _ _ _ _
    | with_reducible exact t_asIntOf _
    | with_reducible exact t_sureAddr _
    | with_reducible refine t_bind ?_ (fun _=>?_)
    | (simp only [byteOfCell_with];try rfl;done)
    | rfl
    | with_reducible refine t_ite _ ?_ ?_
    | split
theorem t_sliceBound (x:Value)(y:Nat)(c:BoundsCode):T1 S P F L (Instr.sliceBound x y c):=by
  unfold Instr.sliceBound
  repeat' first
    | with_reducible exact t_pure _
    | with_reducible exact t_boundsPanic _ _ _ _
    | with_reducible exact t_asIntOf _
    | with_reducible refine t_bind ?_ (fun _=>?_)
    | (simp only [byteOfCell_with];try rfl;done)
    | with_reducible refine t_ite _ ?_ ?_
theorem t_sliceBounds (s:Bool)(a b:Nat)(x y z:Option Value):T1 S P F L (Instr.sliceBounds s a b x y z):=by
  unfold Instr.sliceBounds
  repeat' first
    | with_reducible exact t_pure _
    | with_reducible exact t_stuck _
    | with_reducible exact t_sliceBound _ _ _
    | with_reducible refine t_bind ?_ (fun _=>?_)
    | (simp only [byteOfCell_with];try rfl;done)
    | split
theorem t_slice (t:TypeId)(v:Value)(x y z:Option Value):T1 S P F L (Instr.slice t v x y z):=by
  unfold Instr.slice
  repeat' first
    | with_reducible exact t_pure _
    | with_reducible exact t_stuck _
    | with_reducible exact t_underlying _
    | with_reducible exact t_sizeOf _
    | with_reducible exact t_asAddr _
    | with_reducible exact t_sliceBounds _ _ _ _ _ _
    | with_reducible refine t_bind ?_ (fun _=>?_)
    | (simp only [byteOfCell_with];try rfl;done)
    | with_reducible refine t_ite _ ?_ ?_
    | split
theorem t_sliceAt (t:TypeId)(v:Value)(x y z:Option Value):T1 S P F L (Instr.sliceAt t v x y z):=by
  unfold Instr.sliceAt
  repeat' first
    | with_reducible exact t_pure _
    | with_reducible exact t_underlying _
    | with_reducible exact t_sizeOf _
    | with_reducible exact t_sureAddr _
    | with_reducible exact t_sliceBounds _ _ _ _ _ _
    | with_reducible exact t_slice _ _ _ _ _
    | with_reducible refine t_bind ?_ (fun _=>?_)
    | (simp only [byteOfCell_with];try rfl;done)
    | split
theorem t_field (t:TypeId)(a:Value)(f:Nat):T1 S P F L (Instr.field t a f):=by
  unfold Instr.field
  repeat' first
    | with_reducible exact t_stuck _
    | with_reducible exact t_underlying _
    | with_reducible exact t_part _ _ _
    | with_reducible exact t_asAgg _
    | with_reducible refine t_bind ?_ (fun _=>?_)
    | split
theorem t_index (t:TypeId)(a f:Value):T1 S P F L (Instr.index t a f):=by
  unfold Instr.index
  repeat' first
    | with_reducible exact t_pure _
    | with_reducible exact t_stuck _
    | with_reducible exact t_underlying _
    | with_reducible exact t_sizeOf _
    | with_reducible exact t_part _ _ _
    | with_reducible exact t_boundsPanic _ _ _ _
    | with_reducible exact t_asIntOf _
    | with_reducible refine t_bind ?_ (fun _=>?_)
    | with_reducible refine t_ite _ ?_ ?_
    | split
theorem t_box (t:TypeId)(a:Value):T1 S P F L (Instr.box t a):=by
  unfold Instr.box
  repeat' first
    | with_reducible exact t_pure _
    | with_reducible exact t_newVar _ _
    | with_reducible refine t_bind ?_ (fun _=>?_)
theorem t_build (t:TypeId)(a:Array (Nat × Value)):T1 S P F L (Instr.build t a):=by
  unfold Instr.build
  repeat' first
    | with_reducible exact t_pure _
    | with_reducible exact t_stuck _
    | with_reducible exact t_underlying _
    | with_reducible exact t_zeroValue _
    | with_reducible exact t_sizeOf _
    | with_reducible refine t_bind ?_ (fun _=>?_)
    | with_reducible refine t_mapArray _ _ (fun _=>?_)
    | split
theorem t_buildSlice (t:TypeId)(n:Nat)(a:Array (Nat × Value)):T1 S P F L (Instr.buildSlice t n a):=by
  unfold Instr.buildSlice
  repeat' first
    | with_reducible exact t_pure _
    | with_reducible exact t_stuck _
    | with_reducible refine t_unsupported _ ?_
    | with_reducible exact t_underlying _
    | with_reducible exact t_zeroValue _
    | with_reducible exact t_sizeOf _
    | with_reducible exact t_newRow _ _
    | with_reducible refine t_bind ?_ (fun _=>?_)
    | (simp only [byteOfCell_with];try rfl;done)
    | rfl
    | with_reducible refine t_ite _ ?_ ?_
    | split
theorem t_alloc (t:TypeId)(h:Bool)(v:Value):T1 S P F L (Instr.alloc t h v):=by
  unfold Instr.alloc
  repeat' first
    | with_reducible exact t_pure _
    | with_reducible exact t_zeroValue _
    | with_reducible exact t_storeVar _ _ _
    | with_reducible exact t_newVar _ _
    | with_reducible refine t_bind ?_ (fun _=>?_)
    | split
theorem t_makeSlice (t:TypeId)(a b:Value):T1 S P F L (Instr.makeSlice t a b):=by
  unfold Instr.makeSlice
  repeat' first
    | with_reducible exact t_pure _
    | with_reducible exact t_stuck _
    | with_reducible exact t_choose _
    | with_reducible exact t_askRoom _
    | with_reducible exact t_typeInfo _
    | with_reducible exact t_underlying _
    | with_reducible exact t_zeroValue _
    | with_reducible exact t_sizeOf _
    | with_reducible exact t_newRow _ _
    | with_reducible exact t_runtimePanic _
    | with_reducible exact t_asInt _
    | with_reducible refine t_bind ?_ (fun _=>?_)
    | (simp only [byteOfCell_with];try rfl;done)
    | with_reducible refine t_ite _ ?_ ?_
    | split
theorem t_makeInterface (t:TypeId)(a:Value):T1 S P F L (Instr.makeInterface t a):=by
  unfold Instr.makeInterface
  repeat' first
    | with_reducible exact t_pure _
    | with_reducible exact t_stuck _
    | with_reducible exact t_underlying _
    | with_reducible refine t_bind ?_ (fun _=>?_)
    | split
theorem t_makeFunc (f:Fn)(a b:Array Value):T1 S P F L (Instr.makeFunc f a b):=by
  unfold Instr.makeFunc
  repeat' first
    | with_reducible exact t_pure _
theorem t_extract (t:Value)(i:Nat):T1 S P F L (Instr.extract t i):=by
  unfold Instr.extract
  repeat' first
    | with_reducible exact t_pure _
    | with_reducible exact t_stuck _
    | split
theorem t_typeAssert (x:Value)(a b:TypeId)(c:Bool):T1 S P F L (Instr.typeAssert x a b c):=by
  unfold Instr.typeAssert
  repeat' first
    | with_reducible exact t_pure _
    | with_reducible exact t_stuck _
    | with_reducible exact t_typeInfo _
    | with_reducible exact t_underlying _
    | with_reducible exact t_zeroValue _
    | with_reducible exact t_runtimePanic _
    | with_reducible refine t_bind ?_ (fun _=>?_)
    | (simp only [byteOfCell_with];try rfl;done)
    | with_reducible refine t_ite _ ?_ ?_
    | split
theorem t_intArith (op:BinOp)(k:IntKind)(x y:Int):T1 S P F L (Op.intArith op k x y):=by
  unfold Op.intArith
  repeat' first
    | with_reducible exact t_pure _
    | with_reducible exact t_stuck _
    | split
theorem t_intBits (op:BinOp)(k:IntKind)(x y:Int):T1 S P F L (Op.intBits op k x y):=by
  unfold Op.intBits
  repeat' first
    | with_reducible exact t_pure _
    | with_reducible exact t_stuck _
    | (simp only [byteOfCell_with];try rfl;done)
    | split
theorem t_intCmp (op:BinOp)(x y:Int):T1 S P F L (Op.intCmp op x y):=by
  unfold Op.intCmp
  repeat' first
    | with_reducible exact t_pure _
    | with_reducible exact t_stuck _
    | split
theorem t_intDiv (op:BinOp)(k:IntKind)(x y:Int):T1 S P F L (Op.intDiv op k x y):=by
  unfold Op.intDiv
  repeat' first
    | with_reducible exact t_pure _
    | with_reducible exact t_stuck _
    | with_reducible exact t_runtimePanic _
    | with_reducible refine t_ite _ ?_ ?_
    | split
theorem t_shift (op:BinOp)(k:IntKind)(x:Int)(yk:IntKind)(y:Int):T1 S P F L (Op.shift op k x yk y):=by
  unfold Op.shift
  repeat' first
    | with_reducible exact t_pure _
    | with_reducible exact t_stuck _
    | with_reducible exact t_runtimePanic _
    | (simp only [byteOfCell_with];try rfl;done)
    | with_reducible refine t_ite _ ?_ ?_
    | split
theorem t_stringOp (op:BinOp)(x y:ByteArray):T1 S P F L (Op.stringOp op x y):=by
  unfold Op.stringOp
  repeat' first
    | with_reducible exact t_pure _
    | with_reducible exact t_stuck _
    | with_reducible refine t_unsupported _ ?_
    | (simp only [byteOfCell_with];try rfl;done)
    | rfl
    | with_reducible refine t_ite _ ?_ ?_
    | split
end
end
section
section
variable {α β:Type}{S:Prot}{P:Program}{F:Array Func}{L:List Nat}
def strg (x:World) (a:Addr):Bool:=x.frozen? a || (match x.shape? a.block with|some (_,n)=>x.frozen? { block:=a.block,off:=n } | none=>false)
def zer (x:World) (a:Addr):Bool:=match x.shape? a.block with|some (_,0)=>true|_=>false
theorem run_stringish (x:World)(a:Addr):(stringish a).run P x=.ok (strg x a) x/\(stringish a).events P x #[] = #[]:=by
  have fr:(frozen a).run P x=.ok (x.frozen? a) x:=rfl
  have fe:(frozen a).events P x #[] = #[]:=rfl
  have sh:(shape a.block).run P x=.ok (x.shape? a.block) x:=rfl
  have se:(shape a.block).events P x #[] = #[]:=rfl
  unfold stringish strg
  simp only [Sem.run_bind,Sem.events_bind,fr,fe,Result.andThen_ok,Result.evThen_ok]
  cases x.frozen? a with
  | true=>exact ⟨rfl,rfl⟩
  | false=>
    simp only [Bool.false_eq_true,if_false,Sem.run_bind,Sem.events_bind,sh,se,Result.andThen_ok,Result.evThen_ok,Bool.false_or]
    cases x.shape? a.block with
    | none=>exact ⟨rfl,rfl⟩
    | some y=>exact ⟨rfl,rfl⟩
theorem strg_le {w v:World}(h:Like S w v)(a:Addr)(hs:strg w a=true):strg v a=true:=by
  unfold strg at *
  simp only [Bool.or_eq_true] at hs ⊢
  rcases hs with hs|hs
  · exact .inl (h.frozen a hs)
  · refine .inr ?_
    unfold World.shape? World.frozen? at *
    dsimp only at hs ⊢
    cases hi:w.heap[a.block]? with
    | none=>rw [hi] at hs;cases hs
    | some o=>
      obtain ⟨o',ho',hl⟩:=h.some hi
      rw [hi] at hs
      rw [ho']
      cases hl with
      | cells c e f g hw=>
        simp only [decide_eq_true_eq,Bool.and_eq_true] at hs ⊢
        exact hw _ hs.1 hs.2
      | short c c' e f g h0 hle hc hz=>
        simp only [decide_eq_true_eq,Bool.and_eq_true] at hs
        exact absurd hs.2 (hz _ hs.1)
      | chan=>cases hs
      | same o hp=>exact hs
      | odd o hp=>cases o <;> first|exact hp.elim|exact absurd hs (by simp)
def mayB (x:World) (a b:Addr):Bool:=strg x a && strg x b || strg x a && zer x a || strg x b && zer x b
theorem run_mayBeOne (x:World)(a b:Addr):(mayBeOne a b).run P x=.ok (mayB x a b) x/\(mayBeOne a b).events P x #[] = #[]:=by
  have sh:∀ a:Addr,(shape a.block).run P x=.ok (x.shape? a.block) x:=fun _=>rfl
  have se:∀ a:Addr,(shape a.block).events P x #[] = #[]:=fun _=>rfl
  unfold mayBeOne
  simp only [Sem.run_bind,Sem.events_bind,(run_stringish (P:=P) x a).1,(run_stringish (P:=P) x a).2,(run_stringish (P:=P) x b).1,(run_stringish (P:=P) x b).2,Result.andThen_ok,Result.evThen_ok,sh,se]
  exact ⟨rfl,rfl⟩
theorem mayB_le {w v:World}(h:Like S w v)(a b:Addr)(hs:mayB w a b=true):mayB v a b=true:=by
  have hz:∀ a,zer v a=zer w a:=fun a=>by
    unfold zer
    rcases h.shape a.block with ⟨e1,e2⟩|⟨e,m,n,e1,e2,e3⟩
    · rw [e1,e2]
    · rw [e1,e2]
      by_cases hm:m=0
      · have:=e3.1.1 hm
        subst hm;subst this;rfl
      · have hn:n≠0:=fun z=>hm (e3.1.2 z)
        obtain ⟨m',rfl⟩:=Nat.exists_eq_succ_of_ne_zero hm
        obtain ⟨n',rfl⟩:=Nat.exists_eq_succ_of_ne_zero hn
        rfl
  unfold mayB at *
  simp only [Bool.or_eq_true,Bool.and_eq_true,hz] at *
  rcases hs with (hs|hs)|hs
  · exact .inl (.inl ⟨strg_le h a hs.1,strg_le h b hs.2⟩)
  · exact .inl (.inr ⟨strg_le h a hs.1,hs.2⟩)
  · exact .inr ⟨strg_le h b hs.1,hs.2⟩
theorem t_mayChoose (a b:Addr):T1 S P F L (do
    let r ← mayBeOne a b
    if r=true then do
        let c ← choose (Question.extern "sameAddr.stringBytes" 2)
        pure (c == 1)
      else pure false):=by
  intro w v h hL
  cases hv:mayB v a b with
  | false=>
    have hw:mayB w a b=false:=by
      cases e:mayB w a b with
      | false=>rfl
      | true=>rw [mayB_le h a b e] at hv;cases hv
    refine ⟨v.tape,.ok false v,Agree.refl _ _,Nat.le_refl _,fun t' _=>?_,w,?_,h,Kept.refl _ _,?_⟩
    · have:mayB (retape v t') a b=false:=hv
      simp [(run_mayBeOne (P:=withFuncs P F) (retape v t') a b).1,this,re]
    · simp [(run_mayBeOne (P:=P) w a b).1,hw]
    · simp [(run_mayBeOne (P:=P) w a b).1,(run_mayBeOne (P:=P) w a b).2,hw]
  | true=>
    have hq:(Question.extern "sameAddr.stringBytes" 2).forced=false:=rfl
    cases hw:mayB w a b with
    | false=>
      refine ⟨fun j=>if j=v.drawn then (fun _=>0) else v.tape j,.ok false { v with drawn:=v.drawn+1 },fun j hj=>?_,Nat.le_succ _,fun t' ht'=>?_,w,?_,⟨h.size,h.obj,h.still,h.gone,h.os,h.out⟩,Kept.refl _ _,?_⟩
      · simp only [Nat.ne_of_lt hj,if_false]
      · have h1:mayB (retape v t') a b=true:=hv
        have h2:=ht' v.drawn (Nat.lt_succ_self _)
        simp only [if_true] at h2
        simp only [Sem.run_bind,(run_mayBeOne (P:=withFuncs P F) (retape v t') a b).1,Result.andThen_ok,h1,if_true,choose,Sem.run,hq,Bool.false_eq_true,if_false]
        simp only [retape,h2,re]
        rfl
      · simp [(run_mayBeOne (P:=P) w a b).1,hw]
      · simp [(run_mayBeOne (P:=P) w a b).1,(run_mayBeOne (P:=P) w a b).2,hw]
    | true=>
      obtain ⟨t,r,h1,h2,h3,h4⟩:=(tame_bind (L:=L) (P:=P) (P':=withFuncs P F) (tame_choose (Question.extern "sameAddr.stringBytes" 2)) (fun c=>tame_pure (c == 1))) w v h hL
      have ev:∀ x,mayB x a b=true->∀ Q:Program,(do
          let r ← mayBeOne a b
          if r=true then do
              let c ← choose (Question.extern "sameAddr.stringBytes" 2)
              pure (c == 1)
            else pure false:Sem Bool).run Q x=(do
              let c ← choose (Question.extern "sameAddr.stringBytes" 2)
              pure (c == 1):Sem Bool).run Q x:=fun x hx Q=>by
        rw [Sem.run_bind,(run_mayBeOne (P:=Q) x a b).1,Result.andThen_ok,hx];rfl
      have ee:(do
          let r ← mayBeOne a b
          if r=true then do
              let c ← choose (Question.extern "sameAddr.stringBytes" 2)
              pure (c == 1)
            else pure false:Sem Bool).events P w #[] = (do
              let c ← choose (Question.extern "sameAddr.stringBytes" 2)
              pure (c == 1):Sem Bool).events P w #[]:=by
        rw [Sem.events_bind,(run_mayBeOne (P:=P) w a b).1,(run_mayBeOne (P:=P) w a b).2,Result.evThen_ok,hw];rfl
      refine ⟨t,r,h1,h2,fun t' ht'=>(ev (retape v t') hv _).trans (h3 t' ht'),?_⟩
      match r,h4 with
      | .ok x v',⟨w',a',b',c',d'⟩=>exact ⟨w',(ev w hw P).trans a',b',c',by rw [ee];exact d'⟩
      | .halt (.panic x) v',⟨w',a',b',c',d'⟩=>exact ⟨w',(ev w hw P).trans a',b',c',by rw [ee];exact d'⟩
      | .halt .blocked _,d | .halt .waiting _,d | .halt .goexit _,d | .halt (.exit _) _,d | .halt (.fatal _) _,d | .halt (.throw _) _,d=>exact d.elim
      | .halt (.unsupported _) _,d | .halt (.stuck _) _,d=>exact d
theorem t_sameAddr (a b:Addr):T1 S P F L (sameAddr a b):=by
  unfold sameAddr
  split
  · exact t_pure _
  have hrest:T1 S P F L (do
      noView a
      noView b
      let r ← mayBeOne a b
      if r=true then do
          let c ← choose (Question.extern "sameAddr.stringBytes" 2)
          pure (c == 1)
        else pure false):=t_bind (t_noView a) fun _=>t_bind (t_noView b) fun _=>t_mayChoose a b
  intro w v h hL
  have fr:∀ (P:Program) (x:World) (c:Addr),(frozen c).run P x=.ok (x.frozen? c) x:=fun _ _ _=>rfl
  have fe:∀ (P:Program) (x:World) (c:Addr),(frozen c).events P x #[] = #[]:=fun _ _ _=>rfl
  by_cases hb:(v.frozen? a && v.frozen? b)=true
  · refine ⟨v.tape,.halt (.unsupported .addressObserved) v,Agree.refl _ _,Nat.le_refl _,fun t' _=>?_,trivial⟩
    have e1:(retape v t').frozen? a=v.frozen? a:=rfl
    have e2:(retape v t').frozen? b=v.frozen? b:=rfl
    simp only [Sem.run_bind,fr,Result.andThen_ok,e1,e2,hb,if_true]
    rfl
  · have hw:¬ (w.frozen? a && w.frozen? b)=true:=fun e=>by
      rw [Bool.and_eq_true] at e
      exact hb (by rw [h.frozen a e.1,h.frozen b e.2];rfl)
    obtain ⟨t,r,h1,h2,h3,h4⟩:=hrest w v h hL
    refine ⟨t,r,h1,h2,fun t' ht'=>?_,?_⟩
    · have e1:(retape v t').frozen? a=v.frozen? a:=rfl
      have e2:(retape v t').frozen? b=v.frozen? b:=rfl
      rw [Sem.run_bind,fr,Result.andThen_ok,Sem.run_bind,fr,Result.andThen_ok,e1,e2]
      simp only [hb,if_false]
      exact h3 t' ht'
    · have er:∀ {γ:Type} (k:Bool->Bool->Sem γ),(frozen a >>= fun x=>frozen b >>= fun y=>k x y).run P w=(k (w.frozen? a) (w.frozen? b)).run P w:=fun k=>by
        rw [Sem.run_bind,fr,Result.andThen_ok,Sem.run_bind,fr,Result.andThen_ok]
      have ee:∀ {γ:Type} (k:Bool->Bool->Sem γ),(frozen a >>= fun x=>frozen b >>= fun y=>k x y).events P w #[] = (k (w.frozen? a) (w.frozen? b)).events P w #[]:=fun k=>by
        rw [Sem.events_bind,fr,fe,Result.evThen_ok,Sem.events_bind,fr,fe,Result.evThen_ok]
      match r,h4 with
      | .ok x v',⟨w',a',b',c',d'⟩=>
        refine ⟨w',?_,b',c',?_⟩
        · rw [er];simp only [hw,if_false];exact a'
        · rw [ee];simp only [hw,if_false];exact d'
      | .halt (.panic x) v',⟨w',a',b',c',d'⟩=>
        refine ⟨w',?_,b',c',?_⟩
        · rw [er];simp only [hw,if_false];exact a'
        · rw [ee];simp only [hw,if_false];exact d'
      | .halt .blocked _,d | .halt .waiting _,d | .halt .goexit _,d | .halt (.exit _) _,d | .halt (.fatal _) _,d | .halt (.throw _) _,d=>exact d.elim
      | .halt (.unsupported _) _,d | .halt (.stuck _) _,d=>exact d
theorem t_samePointer (a b:Option Addr):T1 S P F L (samePointer a b):=by
  unfold samePointer
  repeat' first
    | with_reducible exact t_pure _
    | with_reducible exact t_sameAddr _ _
    | split
theorem t_equalIn:∀ (d:Nat) (t:TypeId) (x y:Value),T1 S P F L (Op.equalIn d t x y)
  | 0,_,_,_=>t_unsupported _ rfl
  | d+1,t,x,y=>by
    unfold Op.equalIn
    repeat' first
      | with_reducible exact t_pure _
      | with_reducible exact t_stuck _
      | with_reducible refine t_unsupported _ ?_
      | with_reducible exact t_choose _
      | with_reducible exact t_typeInfo _
      | with_reducible exact t_underlying _
      | with_reducible exact t_sizeOf _
      | with_reducible exact t_typeStr _
      | with_reducible exact t_part _ _ _
      | with_reducible exact t_runtimePanic _
      | with_reducible exact t_behindNumber _
      | with_reducible exact t_byteOf _
      | with_reducible exact t_sameAddr _ _
      | with_reducible exact t_samePointer _ _
      | with_reducible exact t_equalIn d _ _ _
      | with_reducible refine t_program ?_ ?_
      | with_reducible refine t_bind ?_ (fun _=>?_)
      | (simp only [byteOfCell_with];try rfl;done)
      | (simp only [stoodInHeld_with];try rfl;done)
      | (simp only [holdsPacked_with];try rfl;done)
      | rfl
      | with_reducible refine t_ite _ ?_ ?_
      | with_reducible refine t_forArray _ _ _ (fun _ _=>?_)
      | with_reducible refine t_forRange _ _ _ (fun _ _=>?_)
      | split
theorem t_equal (t:TypeId)(x y:Value):T1 S P F L (Op.equal t x y):=t_equalIn _ _ _ _
theorem t_eqGuardIn:∀ (d:Nat) (t:TypeId) (x y:Value),T1 S P F L (Op.eqGuardIn d t x y)
  | 0,_,_,_=>t_unsupported _ rfl
  | d+1,t,x,y=>by
    unfold Op.eqGuardIn
    repeat' first
      | with_reducible exact t_pure _
      | with_reducible exact t_underlying _
      | with_reducible exact t_sizeOf _
      | with_reducible exact t_part _ _ _
      | with_reducible exact t_eqGuardIn d _ _ _
      | with_reducible refine t_bind ?_ (fun _=>?_)
      | (simp only [byteOfCell_with];try rfl;done)
      | with_reducible refine t_ite _ ?_ ?_
      | with_reducible refine t_forArray _ _ _ (fun _ _=>?_)
      | with_reducible refine t_forRange _ _ _ (fun _ _=>?_)
      | split
theorem t_eqGuard (op:BinOp)(t:TypeId)(x y:Operand)(a b:Value):T1 S P F L (eqGuard op t x y a b):=by
  unfold eqGuard
  repeat' first
    | with_reducible exact t_pure _
    | with_reducible refine t_unsupported _ ?_
    | with_reducible exact t_eqGuardIn _ _ _ _
    | with_reducible refine t_program ?_ ?_
    | with_reducible refine t_bind ?_ (fun _=>?_)
    | (simp only [eqGuardType_with];try rfl;done)
    | rfl
    | with_reducible refine t_ite _ ?_ ?_
    | split
theorem t_checkKey:∀ (e:Bool) (d:Nat) (t:TypeId) (x:Value),T1 S P F L (Instr.checkKey e d t x)
  | _,0,_,_=>t_unsupported _ rfl
  | e,d+1,t,x=>by
    unfold Instr.checkKey
    repeat' first
      | with_reducible exact t_pure _
      | with_reducible exact t_stuck _
      | with_reducible exact t_typeInfo _
      | with_reducible exact t_underlying _
      | with_reducible exact t_sizeOf _
      | with_reducible exact t_typeStr _
      | with_reducible exact t_part _ _ _
      | with_reducible exact t_runtimePanic _
      | with_reducible exact t_checkKey _ d _ _
      | with_reducible refine t_bind ?_ (fun _=>?_)
      | (simp only [byteOfCell_with];try rfl;done)
      | with_reducible refine t_ite _ ?_ ?_
      | with_reducible refine t_forArray _ _ _ (fun _ _=>?_)
      | with_reducible refine t_forRange _ _ _ (fun _ _=>?_)
      | split
theorem t_findAsking:∀ (t:TypeId) (k:Value) (l:List MapEntry) (i:Nat),T1 S P F L (Instr.findAsking t k l i)
  | _,_,[],_=>t_pure _
  | t,k,e :: l,i=>by
    unfold Instr.findAsking
    repeat' first
      | with_reducible exact t_pure _
      | with_reducible exact t_equal _ _ _
      | with_reducible exact t_findAsking _ _ l _
      | with_reducible refine t_bind ?_ (fun _=>?_)
      | with_reducible refine t_ite _ ?_ ?_
theorem t_findKey (t:TypeId)(k:Value)(l:List MapEntry):T1 S P F L (Instr.findKey t k l):=by
  unfold Instr.findKey
  repeat' first
    | with_reducible exact t_pure _
    | with_reducible exact t_underlying _
    | with_reducible exact t_findAsking _ _ _ _
    | with_reducible refine t_bind ?_ (fun _=>?_)
    | split
theorem t_lookup (t:TypeId)(x i:Value)(c:Bool):T1 S P F L (Instr.lookup t x i c):=by
  unfold Instr.lookup
  repeat' first
    | with_reducible exact t_pure _
    | with_reducible exact t_stuck _
    | with_reducible exact t_underlying _
    | with_reducible exact t_zeroValue _
    | with_reducible exact t_checkKey _ _ _ _
    | with_reducible exact t_findKey _ _ _
    | with_reducible refine t_getObj (fun o ho=>?_) (fun _ _ _ _ _ _ _ _=>?_) (fun o _ _ ho=>?_)
    | ((with_reducible refine tame_oddS ?_);rfl)
    | exact ho.elim
    | with_reducible refine t_bind ?_ (fun _=>?_)
    | with_reducible refine tame_of_t1 ?_
    | (simp only [byteOfCell_with];try rfl;done)
    | split
theorem t_keyThatStays (a b:Value):T1 S P F L (Instr.keyThatStays a b):=by
  unfold Instr.keyThatStays
  repeat' first
    | with_reducible exact t_pure _
    | with_reducible exact t_choose _
    | with_reducible refine t_bind ?_ (fun _=>?_)
    | with_reducible refine t_ite _ ?_ ?_
theorem t_mapUpdate (t:TypeId)(m k v:Value):T1 S P F L (Instr.mapUpdate t m k v):=by
  unfold Instr.mapUpdate
  repeat' first
    | with_reducible exact t_stuck _
    | with_reducible exact t_underlying _
    | with_reducible exact t_runtimePanic _
    | with_reducible exact t_checkKey _ _ _ _
    | with_reducible exact t_findKey _ _ _
    | with_reducible exact t_keyThatStays _ _
    | with_reducible refine t_getObj (fun o ho=>?_) (fun _ _ _ _ _ _ _ _=>?_) (fun o _ _ ho=>?_)
    | ((with_reducible refine tame_oddS ?_);rfl)
    | exact ho.elim
    | with_reducible refine t_bind ?_ (fun _=>?_)
    | with_reducible refine tame_of_t1 ?_
    | (refine t_setObj _ _ trivial ?_;simp;done)
    | split
theorem t_delete (a:Array TypeId)(t:TypeId)(v:Array Value):T1 S P F L (Builtin.delete_ a t v):=by
  unfold Builtin.delete_
  repeat' first
    | with_reducible exact t_pure _
    | with_reducible exact t_stuck _
    | with_reducible exact t_underlying _
    | with_reducible exact t_checkKey _ _ _ _
    | with_reducible exact t_findKey _ _ _
    | with_reducible refine t_getObj (fun o ho=>?_) (fun _ _ _ _ _ _ _ _=>?_) (fun o _ _ ho=>?_)
    | ((with_reducible refine tame_oddS ?_);rfl)
    | exact ho.elim
    | with_reducible refine t_bind ?_ (fun _=>?_)
    | with_reducible refine tame_of_t1 ?_
    | (simp only [byteOfCell_with];try rfl;done)
    | (refine t_setObj _ _ trivial ?_;simp;done)
    | split
theorem t_clear (a:Array TypeId)(t:TypeId)(v:Array Value):T1 S P F L (Builtin.clear_ a t v):=by
  unfold Builtin.clear_
  repeat' first
    | with_reducible exact t_pure _
    | with_reducible exact t_stuck _
    | with_reducible exact t_underlying _
    | with_reducible exact t_zeroValue _
    | with_reducible exact t_storeCells _ _ _
    | with_reducible refine t_getObj (fun o ho=>?_) (fun _ _ _ _ _ _ _ _=>?_) (fun o _ _ ho=>?_)
    | ((with_reducible refine tame_oddS ?_);rfl)
    | exact ho.elim
    | with_reducible refine t_bind ?_ (fun _=>?_)
    | with_reducible refine tame_of_t1 ?_
    | (simp only [byteOfCell_with];try rfl;done)
    | (refine t_setObj _ _ trivial ?_;simp;done)
    | split
theorem t_makeMap (t:TypeId)(r:Option Value):T1 S P F L (Instr.makeMap t r):=by
  unfold Instr.makeMap
  repeat' first
    | with_reducible exact t_pure _
    | with_reducible exact t_stuck _
    | with_reducible exact t_underlying _
    | with_reducible exact t_asInt _
    | with_reducible refine t_bind ?_ (fun _=>?_)
    | (simp only [byteOfCell_with];try rfl;done)
    | (refine t_new _ (objLike_refl ?_);exact .inr (.inl trivial))
    | split
theorem t_range (t:TypeId)(v:Value):T1 S P F L (Instr.range t v):=by
  have k:∀ (L:List Nat) (o:Obj),plainObj o->T1 S P F L (do let r ← newObj o;pure (Value.pointer (some ⟨r,0,none⟩))):=fun L o ho=>t_bind (t_new _ (objLike_refl (.inr (.inl ho)))) fun _=>t_pure _
  unfold Instr.range
  refine t_bind (t_underlying _) fun d=>?_
  split
  · exact k _ _ trivial
  · exact k _ _ trivial
  · simp only [bind_assoc]
    refine t_getObj (fun o ho=>?_) (fun _ _ _ _ _ _ _ _=>?_) (fun o _ _ ho=>tame_oddS rfl)
    · split
      · exact k _ _ trivial
      · exact t_stuck_bind _ _
    · exact t_stuck_bind _ _
  · exact t_stuck_bind _ _
theorem t_next (v:Value)(s:Bool)(t:TypeId):T1 S P F L (Instr.next v s t):=by
  unfold Instr.next
  repeat' first
    | with_reducible exact t_pure _
    | with_reducible exact t_stuck _
    | with_reducible refine t_unsupported _ ?_
    | with_reducible exact t_choose _
    | with_reducible refine t_getObj (fun o ho=>?_) (fun _ _ _ _ _ _ _ _=>?_) (fun o _ _ ho=>?_)
    | ((with_reducible refine tame_oddS ?_);rfl)
    | exact ho.elim
    | with_reducible refine t_bind ?_ (fun _=>?_)
    | with_reducible refine tame_of_t1 ?_
    | (simp only [byteOfCell_with];try rfl;done)
    | (refine t_setObj _ _ trivial ?_;simp;done)
    | rfl
    | with_reducible refine t_ite _ ?_ ?_
    | split
theorem t_entry (v:Value):T1 S P F L (Instr.entry v):=by
  unfold Instr.entry
  repeat' first
    | with_reducible exact t_pure _
    | with_reducible exact t_stuck _
    | with_reducible refine t_unsupported _ ?_
    | with_reducible refine t_getObj (fun o ho=>?_) (fun _ _ _ _ _ _ _ _=>?_) (fun o _ _ ho=>?_)
    | ((with_reducible refine tame_oddS ?_);rfl)
    | exact ho.elim
    | with_reducible refine t_bind ?_ (fun _=>?_)
    | with_reducible refine tame_of_t1 ?_
    | (simp only [byteOfCell_with];try rfl;done)
    | rfl
    | with_reducible refine t_ite _ ?_ ?_
    | split
theorem t_len (a:Array TypeId)(t:TypeId)(v:Array Value):T1 S P F L (Builtin.len_ a t v):=by
  unfold Builtin.len_
  repeat' first
    | with_reducible exact t_pure _
    | with_reducible exact t_stuck _
    | with_reducible exact t_underlying _
    | with_reducible refine t_getObj (fun o ho=>?_) (fun _ _ _ _ _ _ _ _=>?_) (fun o _ _ ho=>?_)
    | ((with_reducible refine tame_oddS ?_);rfl)
    | exact ho.elim
    | with_reducible refine t_bind ?_ (fun _=>?_)
    | with_reducible refine tame_of_t1 ?_
    | split
end
end
section
section
variable {α β:Type}{S:Prot}{P:Program}{F:Array Func}{L:List Nat}
theorem t_floatArith (op:BinOp)(k:FloatKind)(x y:Nat):T1 S P F L (Op.floatArith op k x y):=by
  unfold Op.floatArith
  repeat' first
    | with_reducible exact t_pure _
    | with_reducible exact t_stuck _
    | with_reducible exact t_choose _
    | with_reducible refine t_bind ?_ (fun _=>?_)
    | (simp only [byteOfCell_with];try rfl;done)
    | split
theorem t_floatCmp (op:BinOp)(k:FloatKind)(x y:Nat):T1 S P F L (Op.floatCmp op k x y):=by
  unfold Op.floatCmp
  repeat' first
    | with_reducible exact t_pure _
    | with_reducible exact t_stuck _
    | (simp only [byteOfCell_with];try rfl;done)
    | split
theorem t_floatToFloat (s:FloatKind)(x:Nat)(d:FloatKind):T1 S P F L (Conv.floatToFloat s x d):=by
  unfold Conv.floatToFloat
  repeat' first
    | with_reducible exact t_pure _
    | with_reducible exact t_choose _
    | with_reducible refine t_bind ?_ (fun _=>?_)
    | (simp only [byteOfCell_with];try rfl;done)
    | with_reducible refine t_ite _ ?_ ?_
    | split
theorem t_floatToInt (s:FloatKind)(x:Nat)(d:IntKind):T1 S P F L (Conv.floatToInt s x d):=by
  unfold Conv.floatToInt
  repeat' first
    | with_reducible exact t_pure _
    | with_reducible exact t_choose _
    | with_reducible refine t_bind ?_ (fun _=>?_)
    | (simp only [byteOfCell_with];try rfl;done)
    | with_reducible refine t_ite _ ?_ ?_
    | split
theorem t_intToInt (d:IntKind)(x:Int):T1 S P F L (Conv.intToInt d x):=by
  unfold Conv.intToInt
  repeat' first
    | with_reducible exact t_pure _
theorem t_cxArith (op:BinOp)(k:FloatKind)(x y:Nat):T1 S P F L (Op.Complex.arith op k x y):=by
  unfold Op.Complex.arith
  repeat' first
    | with_reducible exact t_pure _
    | with_reducible exact t_stuck _
    | with_reducible exact t_floatArith _ _ _ _
    | with_reducible refine t_bind ?_ (fun _=>?_)
    | split
theorem t_cxCmp (op:BinOp)(k:FloatKind)(x y:Nat):T1 S P F L (Op.Complex.cmp op k x y):=by
  unfold Op.Complex.cmp
  repeat' first
    | with_reducible exact t_asBool _
    | with_reducible exact t_floatCmp _ _ _ _
    | with_reducible refine t_bind ?_ (fun _=>?_)
theorem t_cxConv (s:FloatKind)(x:Nat)(d:FloatKind):T1 S P F L (Op.Complex.conv s x d):=by
  unfold Op.Complex.conv
  repeat' first
    | with_reducible exact t_pure _
    | with_reducible exact t_stuck _
    | with_reducible exact t_floatToFloat _ _ _
    | with_reducible refine t_bind ?_ (fun _=>?_)
    | with_reducible refine t_ite _ ?_ ?_
    | split
theorem t_cxAdd (x y:Nat):T1 S P F L (Op.Complex.add x y):=t_cxArith _ _ _ _
theorem t_cxSub (x y:Nat):T1 S P F L (Op.Complex.sub x y):=t_cxArith _ _ _ _
theorem t_cxMul (x y:Nat):T1 S P F L (Op.Complex.mul x y):=t_cxArith _ _ _ _
theorem t_cxQuo (x y:Nat):T1 S P F L (Op.Complex.quo x y):=t_cxArith _ _ _ _
theorem t_cxProduct (a b c d:Nat):T1 S P F L (Op.Complex.product a b c d):=by
  unfold Op.Complex.product
  repeat' first
    | with_reducible exact t_pure _
    | with_reducible exact t_cxAdd _ _
    | with_reducible exact t_cxSub _ _
    | with_reducible exact t_cxMul _ _
    | with_reducible refine t_bind ?_ (fun _=>?_)
theorem t_cxCorrected (s a b c d:Nat):T1 S P F L (Op.Complex.corrected s a b c d):=by
  unfold Op.Complex.corrected
  repeat' first
    | with_reducible exact t_pure _
    | with_reducible exact t_cxAdd _ _
    | with_reducible exact t_cxSub _ _
    | with_reducible exact t_cxMul _ _
    | with_reducible refine t_bind ?_ (fun _=>?_)
theorem t_cxQuotient (a b c d:Nat):T1 S P F L (Op.Complex.quotient a b c d):=by
  unfold Op.Complex.quotient
  repeat' first
    | with_reducible exact t_pure _
    | with_reducible exact t_cxCmp _ _ _ _
    | with_reducible exact t_cxAdd _ _
    | with_reducible exact t_cxSub _ _
    | with_reducible exact t_cxMul _ _
    | with_reducible exact t_cxQuo _ _
    | with_reducible exact t_cxCorrected _ _ _ _ _
    | with_reducible refine t_bind ?_ (fun _=>?_)
    | (simp only [byteOfCell_with];try rfl;done)
    | with_reducible refine t_ite _ ?_ ?_
theorem t_complexOp (op:BinOp)(k:FloatKind)(a b c d:Nat):T1 S P F L (Op.complexOp op k a b c d):=by
  unfold Op.complexOp
  repeat' first
    | with_reducible exact t_pure _
    | with_reducible exact t_stuck _
    | with_reducible exact t_cxArith _ _ _ _
    | with_reducible exact t_cxCmp _ _ _ _
    | with_reducible exact t_cxConv _ _ _
    | with_reducible exact t_cxProduct _ _ _ _
    | with_reducible exact t_cxQuotient _ _ _ _
    | with_reducible refine t_bind ?_ (fun _=>?_)
    | (simp only [byteOfCell_with];try rfl;done)
    | with_reducible refine t_ite _ ?_ ?_
    | split
theorem t_unary (op:UnOp)(x:Value):T1 S P F L (Op.unary op x):=by
  unfold Op.unary
  repeat' first
    | with_reducible exact t_pure _
    | with_reducible exact t_stuck _
    | with_reducible refine t_unsupported _ ?_
    | with_reducible exact t_intArith _ _ _ _
    | with_reducible exact t_intBits _ _ _ _
    | rfl
    | split
theorem t_twoPlaces (a b:Addr):T1 S P F L (Op.twoPlaces a b):=by
  unfold Op.twoPlaces
  repeat' first
    | with_reducible exact t_pure _
    | with_reducible refine t_unsupported _ ?_
    | with_reducible exact t_byteOf _
    | with_reducible refine t_program ?_ ?_
    | with_reducible refine t_bind ?_ (fun _=>?_)
    | (simp only [byteOfCell_with];try rfl;done)
    | rfl
    | with_reducible refine t_ite _ ?_ ?_
theorem t_addrSub (k:IntKind)(a b:Addr):T1 S P F L (Op.addrSub k a b):=by
  unfold Op.addrSub
  repeat' first
    | with_reducible exact t_pure _
    | with_reducible exact t_twoPlaces _ _
    | with_reducible refine t_bind ?_ (fun _=>?_)
theorem t_addrCmp (o:BinOp)(a b:Addr):T1 S P F L (Op.addrCmp o a b):=by
  unfold Op.addrCmp
  repeat' first
    | with_reducible exact t_pure _
    | with_reducible refine t_unsupported _ ?_
    | with_reducible exact t_twoPlaces _ _
    | with_reducible refine t_bind ?_ (fun _=>?_)
    | (simp only [byteOfCell_with];try rfl;done)
    | rfl
    | split
theorem t_addrMod (k:IntKind)(a:Addr)(n:Int):T1 S P F L (Op.addrMod k a n):=by
  unfold Op.addrMod
  repeat' first
    | with_reducible exact t_pure _
    | with_reducible refine t_unsupported _ ?_
    | with_reducible exact t_typeInfo _
    | with_reducible exact t_byteOf _
    | with_reducible refine t_shape_bind ?_ (fun _ _ _ _=>?_)
    | with_reducible refine t_bind ?_ (fun _=>?_)
    | with_reducible refine tame_of_t1 ?_
    | (simp only [byteOfCell_with];try rfl;done)
    | rfl
    | with_reducible refine t_ite _ ?_ ?_
theorem m4a (p:Option Addr)(y:Value)(f:Option Addr->Value->Sem Value)(g:Array Value->Sem Value):Builtin.unsafeAdd_.match_4 (fun _=>Sem Value) #[.pointer p,y] f g=f p y:=rfl
theorem m4b (x y:Value)(f:Option Addr->Value->Sem Value)(g:Array Value->Sem Value)(h:∀ p,x≠.pointer p):Builtin.unsafeAdd_.match_4 (fun _=>Sem Value) #[x,y] f g=g #[x,y]:=by
  cases x <;> first|rfl|exact absurd rfl (h _)
theorem cellAtBytes_mono (p:Program)(d:Nat)(e:TypeId){m n:Nat}(h:n<=m)(off:Nat)(b:Int){x:Nat}(hx:cellAtBytes p d e n off b=some x):cellAtBytes p d e m off b=some x:=by
  unfold cellAtBytes at *
  dsimp only at *
  split at hx
  · cases hx
  · rename_i h0
    rw [if_neg h0]
    cases hb:byteOfCell p d e (off % p.cellsOf e) with
    | none=>rw [hb] at hx;cases hx
    | some here=>
      rw [hb] at hx
      simp only [Option.bind_eq_bind,Option.bind_some] at hx ⊢
      split at hx
      · cases hx
      · rename_i h1
        have:n*p.bytesOf e<=m*p.bytesOf e:=Nat.mul_le_mul_right _ h
        rw [if_neg (by
          simp only [Bool.or_eq_true,decide_eq_true_eq,not_or,Int.not_lt,ge_iff_le,Int.not_le] at h1 ⊢
          simp only [Int.ofNat_eq_natCast] at h1 ⊢
          exact ⟨h1.1,by omega⟩)]
        exact hx
theorem t_cellAt {e:TypeId}{m n off:Nat}{b:Int}(h:n<=m){k:Nat->Sem β}(u:Unsupported)(hu:notOrder u=true)(hk:∀ x,T1 S P F L (k x)) :
    Tame S P (withFuncs P F) L (program >>= fun p=>match cellAtBytes p p.depth e (m / p.cellsOf e) off b with|some o=>k o|none=>unsupported u)
      (program >>= fun p=>match cellAtBytes p p.depth e (n / p.cellsOf e) off b with|some o=>k o|none=>unsupported u):=by
  have e1:∀ c,cellAtBytes (withFuncs P F) (withFuncs P F).depth e (c / (withFuncs P F).cellsOf e) off b=cellAtBytes P P.depth e (c / P.cellsOf e) off b:=fun c=>by rw [cellAtBytes_with];rfl
  have rn:∀ (Q:Program) (x:World) (g:Program->Sem β),(program >>= g).run Q x=(g Q).run Q x:=fun _ _ _=>rfl
  have en:∀ (g:Program->Sem β) (x:World),(program >>= g).events P x #[] = (g P).events P x #[]:=fun _ _=>rfl
  cases hn:cellAtBytes P P.depth e (n / P.cellsOf e) off b with
  | none=>
    intro w v hl hL
    refine ⟨v.tape,.halt (.unsupported u) v,Agree.refl _ _,Nat.le_refl _,fun t' _=>?_,by cases u <;> first|trivial|cases hu⟩
    rw [rn,e1,hn];rfl
  | some x=>
    have hm:=cellAtBytes_mono P P.depth e (Nat.div_le_div_right (c:=P.cellsOf e) h) off b hn
    intro w v hl hL
    obtain ⟨t,r,h1,h2,h3,h4⟩:=hk x w v hl hL
    refine ⟨t,r,h1,h2,fun t' ht'=>?_,?_⟩
    · rw [rn,e1,hn];exact h3 t' ht'
    · have er:(program >>= fun p=>match cellAtBytes p p.depth e (m / p.cellsOf e) off b with|some o=>k o|none=>unsupported u).run P w=(k x).run P w:=by rw [rn,hm]
      have ee:(program >>= fun p=>match cellAtBytes p p.depth e (m / p.cellsOf e) off b with|some o=>k o|none=>unsupported u).events P w #[] = (k x).events P w #[]:=by rw [en,hm]
      match r,h4 with
      | .ok x v',⟨w',a,b,c,d⟩=>exact ⟨w',er.trans a,b,c,by rw [ee];exact d⟩
      | .halt (.panic x) v',⟨w',a,b,c,d⟩=>exact ⟨w',er.trans a,b,c,by rw [ee];exact d⟩
      | .halt .blocked _,d | .halt .waiting _,d | .halt .goexit _,d | .halt (.exit _) _,d | .halt (.fatal _) _,d | .halt (.throw _) _,d=>exact d.elim
      | .halt (.unsupported _) _,d | .halt (.stuck _) _,d=>exact d
theorem t_unsafeAdd (t:TypeId)(x y:Value):T1 S P F L (Builtin.unsafeAdd_ #[] t #[x,y]):=by
  unfold Builtin.unsafeAdd_
  by_cases hx:∃ p,x=.pointer p
  · obtain ⟨p,rfl⟩:=hx
    rw [m4a]
    repeat' first
      | with_reducible exact t_pure _
      | with_reducible refine t_unsupported _ ?_
      | with_reducible exact t_asInt _
      | (with_reducible refine t_viewAt_bind _ (fun _=>?_) fun _=>?_)
      | exact ⟨.unsupported (.unsafePointer "Add: at a place where no cell lies"),trivial,rfl⟩
      | with_reducible refine t_shape_bind ?_ (fun _ _ _ hmn=>t_cellAt hmn.2 _ rfl (fun _=>t_pure _))
      | with_reducible refine t_bind ?_ (fun _=>?_)
      | (simp only [byteOfCell_with];try rfl;done)
      | rfl
      | with_reducible refine t_ite _ ?_ ?_
      | split
  · rw [m4b _ _ _ _ fun p e=>hx ⟨p,e⟩]
    exact t_stuck _
theorem t_asNumber (a:Addr)(l:Bool):T1 S P F L (asNumber a l):=by
  unfold asNumber
  repeat' first
    | with_reducible exact t_pure _
    | with_reducible refine t_bind ?_ (fun _=>?_)
    | (refine t_new _ (objLike_refl ?_);exact .inr (.inl trivial))
theorem t_movedNumber (t:TypeId)(x y:Value):T1 S P F L (movedNumber t x y):=by
  unfold movedNumber
  repeat' first
    | with_reducible exact t_pure _
    | with_reducible refine t_unsupported _ ?_
    | with_reducible exact t_underlying _
    | with_reducible exact t_behindNumber _
    | with_reducible exact t_unsafeAdd _ _ _
    | with_reducible exact t_asNumber _ _
    | with_reducible refine t_bind ?_ (fun _=>?_)
    | (simp only [byteOfCell_with];try rfl;done)
    | rfl
    | with_reducible refine t_ite _ ?_ ?_
    | split
theorem t_movedPointer (t:TypeId)(x y:Value):T1 S P F L (movedPointer t x y):=by
  unfold movedPointer
  repeat' first
    | with_reducible refine t_unsupported _ ?_
    | with_reducible exact t_numberAt _
    | with_reducible exact t_unsafeAdd _ _ _
    | with_reducible refine t_bind ?_ (fun _=>?_)
    | (simp only [byteOfCell_with];try rfl;done)
    | rfl
    | with_reducible refine t_ite _ ?_ ?_
    | split
theorem t_binOp (op:BinOp)(t:TypeId)(x y:Value):T1 S P F L (binOp op t x y):=by
  unfold binOp
  repeat' first
    | with_reducible exact t_pure _
    | with_reducible exact t_stuck _
    | with_reducible refine t_unsupported _ ?_
    | with_reducible exact t_underlying _
    | with_reducible exact t_behindNumber _
    | with_reducible exact t_intArith _ _ _ _
    | with_reducible exact t_intBits _ _ _ _
    | with_reducible exact t_intCmp _ _ _
    | with_reducible exact t_intDiv _ _ _ _
    | with_reducible exact t_shift _ _ _ _ _
    | with_reducible exact t_stringOp _ _ _
    | with_reducible exact t_equal _ _ _
    | with_reducible exact t_floatArith _ _ _ _
    | with_reducible exact t_floatCmp _ _ _ _
    | with_reducible exact t_complexOp _ _ _ _ _ _
    | with_reducible exact t_addrSub _ _ _
    | with_reducible exact t_addrCmp _ _ _
    | with_reducible exact t_addrMod _ _ _
    | with_reducible exact t_movedNumber _ _ _
    | with_reducible exact t_movedPointer _ _ _
    | with_reducible refine t_bind ?_ (fun _=>?_)
    | rfl
    | with_reducible refine t_ite _ ?_ ?_
    | split
theorem t_lenOf (v:Value):T1 S P F L (Builtin.lenOf v):=by
  unfold Builtin.lenOf
  repeat' first
    | with_reducible exact t_pure _
    | with_reducible exact t_stuck _
    | split
theorem t_firstCells (s n:Nat)(v:Value):T1 S P F L (Builtin.firstCells s n v):=by
  unfold Builtin.firstCells
  repeat' first
    | with_reducible exact t_pure _
    | with_reducible exact t_stuck _
    | with_reducible exact t_loadCells _ _
    | split
theorem t_copy (a:Array TypeId)(t:TypeId)(v:Array Value):T1 S P F L (Builtin.copy_ a t v):=by
  unfold Builtin.copy_
  repeat' first
    | with_reducible exact t_pure _
    | with_reducible exact t_stuck _
    | with_reducible exact t_underlying _
    | with_reducible exact t_sizeOf _
    | with_reducible exact t_storeCells _ _ _
    | with_reducible exact t_lenOf _
    | with_reducible exact t_firstCells _ _ _
    | with_reducible refine t_bind ?_ (fun _=>?_)
    | (simp only [byteOfCell_with];try rfl;done)
    | split
theorem m7 (x:Value)(a n:String)(f:Value->ByteArray->ByteArray->Sem Value)(g:Array Value->Sem Value):Builtin.ssaWrapNilChk_.match_7 (fun _=>Sem Value) #[x,strVal a,strVal n] f g=f x a.toUTF8 n.toUTF8:=rfl
theorem t_wrapNil (t:TypeId)(x:Value)(n:String):T1 S P F L (Builtin.ssaWrapNilChk_ #[t] t #[x,strVal "",strVal n]):=by
  unfold Builtin.ssaWrapNilChk_
  rw [m7]
  repeat' first
    | with_reducible exact t_pure _
    | with_reducible exact t_stuck _
    | with_reducible refine t_unsupported _ ?_
    | with_reducible exact t_choose _
    | with_reducible exact t_typeInfo _
    | with_reducible exact t_underlying _
    | with_reducible exact t_runtimePanic _
    | with_reducible refine t_bind ?_ (fun _=>?_)
    | (simp only [byteOfCell_with];try rfl;done)
    | rfl
    | with_reducible refine t_ite _ ?_ ?_
    | split
theorem t_get (t:TypeId)(x:Place):T1 S P F L (Place.get t x):=by
  unfold Place.get
  repeat' first
    | with_reducible exact t_pure _
    | with_reducible exact t_loadVar _ _
    | split
theorem t_follow:∀ (l:List FieldStep) (t:TypeId) (x:Place),T1 S P F L (follow l t x)
  | [],_,_=>t_pure _
  | s :: l,t,x=>by
    unfold follow
    repeat' first
      | with_reducible exact t_stuck _
      | with_reducible exact t_underlying _
      | with_reducible exact t_part _ _ _
      | with_reducible exact t_asAddr _
      | with_reducible exact t_fieldPlace _ _
      | with_reducible exact t_get _ _
      | with_reducible exact t_follow l _ _
      | with_reducible refine t_bind ?_ (fun _=>?_)
      | with_reducible refine t_ite _ ?_ ?_
      | split
theorem t_receiverAt (t:TypeId)(x:Place)(b:Bool)(w:Option String):T1 S P F L (receiverAt t x b w):=by
  unfold receiverAt
  repeat' first
    | with_reducible exact t_pure _
    | with_reducible exact t_stuck _
    | with_reducible exact t_underlying _
    | with_reducible exact t_loadVar _ _
    | with_reducible exact t_asAddr _
    | with_reducible exact t_wrapNil _ _ _
    | with_reducible exact t_get _ _
    | with_reducible refine t_bind ?_ (fun _=>?_)
    | (simp only [byteOfCell_with];try rfl;done)
    | split
theorem t_receiverVia (t:TypeId)(x:Value)(p:Array FieldStep)(b:Bool):T1 S P F L (receiverVia t x p b):=by
  unfold receiverVia
  repeat' first
    | with_reducible exact t_follow _ _ _
    | with_reducible exact t_receiverAt _ _ _ _
    | with_reducible refine t_bind ?_ (fun _=>?_)
theorem t_method:∀ (d:Nat) (t:TypeId) (x:Value) (n:String),T1 S P F L (method d t x n)
  | 0,_,_,_=>t_unsupported _ rfl
  | d+1,t,x,n=>by
    unfold method
    repeat' first
      | with_reducible exact t_pure _
      | with_reducible exact t_stuck _
      | with_reducible exact t_typeInfo _
      | with_reducible exact t_runtimePanic _
      | with_reducible exact t_get _ _
      | with_reducible exact t_follow _ _ _
      | with_reducible exact t_receiverAt _ _ _ _
      | with_reducible exact t_method d _ _ _
      | with_reducible refine t_bind ?_ (fun _=>?_)
      | (simp only [byteOfCell_with];try rfl;done)
      | split
theorem t_followBlind:∀ (l:List FieldStep) (t:TypeId) (x:Option Value),T1 S P F L (followBlind l t x)
  | [],_,_=>t_pure _
  | s :: l,t,x=>by
    unfold followBlind
    repeat' first
      | with_reducible exact t_pure _
      | with_reducible exact t_stuck _
      | with_reducible exact t_underlying _
      | with_reducible exact t_part _ _ _
      | with_reducible exact t_followBlind l _ _
      | with_reducible refine t_bind ?_ (fun _=>?_)
      | split
theorem t_nilAhead:∀ (d:Nat) (t:TypeId) (x:Value) (n:String),T1 S P F L (nilAhead d t x n)
  | 0,_,_,_=>t_pure _
  | d+1,t,x,n=>by
    unfold nilAhead
    repeat' first
      | with_reducible exact t_pure _
      | with_reducible exact t_stuck _
      | with_reducible exact t_typeInfo _
      | with_reducible exact t_underlying _
      | with_reducible exact t_followBlind _ _ _
      | with_reducible exact t_nilAhead d _ _ _
      | with_reducible refine t_bind ?_ (fun _=>?_)
      | split
theorem t_getLoop (l:Nat):T1 S P F L (Instr.getLoop l):=by
  unfold Instr.getLoop
  repeat' first
    | with_reducible exact t_pure _
    | with_reducible exact t_stuck _
    | with_reducible refine t_getObj (fun o ho=>?_) (fun _ _ _ _ _ _ _ _=>?_) (fun o _ _ ho=>?_)
    | ((with_reducible refine tame_oddS ?_);rfl)
    | exact ho.elim
    | with_reducible refine tame_of_t1 ?_
    | split
theorem t_yield (l:Nat)(v:Array Value):T1 S P F L (Instr.yield l v):=by
  unfold Instr.yield
  repeat' first
    | with_reducible exact t_pure _
    | with_reducible exact t_stuck _
    | with_reducible exact t_getLoop _
    | with_reducible refine t_bind ?_ (fun _=>?_)
    | (simp only [byteOfCell_with];try rfl;done)
    | with_reducible refine t_ite _ ?_ ?_
theorem t_ofValue (f:Value)(v:Array Value):T1 S P F L (Deferred.ofValue f v):=by
  unfold Deferred.ofValue
  repeat' first
    | with_reducible exact t_pure _
    | with_reducible exact t_stuck _
    | split
theorem t_resolve (r:Operand->Value)(c:Call)(t:TypeId):T1 S P F L (resolve r c t):=by
  unfold resolve
  repeat' first
    | with_reducible exact t_pure _
    | with_reducible exact t_ofValue _ _
    | (simp only [byteOfCell_with];try rfl;done)
    | split
theorem run_holds (Q:Program)(x:World)(a:Addr)(n:Nat)(t:Nat->Question->Nat):∃ b,(Builtin.holdsCells a n).run Q x=.ok b x/\(Builtin.holdsCells a n).run Q (retape x t)=.ok b (retape x t):=by
  have sh:∀ (x:World) (a:Addr),(shape a.block).run Q x=.ok (x.shape? a.block) x:=fun _ _=>rfl
  have e:(retape x t).shape? a.block=x.shape? a.block:=rfl
  unfold Builtin.holdsCells
  rw [Sem.run_bind,sh,Sem.run_bind,sh,e]
  cases x.shape? a.block with
  | none=>exact ⟨_,rfl,rfl⟩
  | some y=>exact ⟨_,rfl,rfl⟩
theorem run_mayShare (Q:Program)(x:World)(size sLen n:Nat)(base:Option Addr)(v:Value)(t:Nat->Question->Nat) :
    ∃ b,(Builtin.mayShare size sLen n base v).run Q x=.ok b x/\(Builtin.mayShare size sLen n base v).run Q (retape x t)=.ok b (retape x t):=by
  have fr:∀ (x:World) (c:Addr),(frozen c).run Q x=.ok (x.frozen? c) x:=fun _ _=>rfl
  have rest:∃ b,(match v with
      | .slice (some b) _ _=>do pure (!(← Builtin.holdsCells b (n*size)) || base.any (·.block == b.block))
      | _=>pure false:Sem Bool).run Q x=.ok b x/\(match v with
      | .slice (some b) _ _=>do pure (!(← Builtin.holdsCells b (n*size)) || base.any (·.block == b.block))
      | _=>pure false:Sem Bool).run Q (retape x t)=.ok b (retape x t):=by
    split
    · rename_i b _ _
      obtain ⟨c,h1,h2⟩:=run_holds Q x b (n*size) t
      exact ⟨_,by rw [Sem.run_bind,h1];rfl,by rw [Sem.run_bind,h2];rfl⟩
    · exact ⟨_,rfl,rfl⟩
  obtain ⟨b,h1,h2⟩:=rest
  unfold Builtin.mayShare
  cases base with
  | none=>exact ⟨b,h1,h2⟩
  | some a=>
    obtain ⟨c,g1,g2⟩:=run_holds Q x a (sLen*size) t
    have e:(retape x t).frozen? (a.add (sLen / 2*size))=x.frozen? (a.add (sLen / 2*size)):=rfl
    simp only [Sem.run_bind,g1,g2,Result.andThen_ok,fr,e,Sem.run_pure]
    cases (c && !x.frozen? (a.add (sLen / 2*size))) with
    | true=>exact ⟨b,h1,h2⟩
    | false=>exact ⟨true,rfl,rfl⟩
theorem t_mayShare {k:Bool->Sem β}(size sLen n:Nat)(base:Option Addr)(x:Value)(u:Unsupported)(hu:notOrder u=true)(hk:∀ b Q x,(k b).run Q x=.halt (.unsupported u) x) :
    T1 S P F L (Builtin.mayShare size sLen n base x >>= k):=by
  intro w v h hL
  refine ⟨v.tape,.halt (.unsupported u) v,Agree.refl _ _,Nat.le_refl _,fun t' _=>?_,?_⟩
  · obtain ⟨b,h1,h2⟩:=run_mayShare (withFuncs P F) v size sLen n base x t'
    rw [Sem.run_bind,h2,Result.andThen_ok,hk];rfl
  · cases u <;> first|trivial|cases hu
theorem t_append (a:Array TypeId)(t:TypeId)(v:Array Value):T1 S P F L (Builtin.append_ a t v):=by
  unfold Builtin.append_
  cases a[0]? with
  | none=>exact t_stuck _
  | some sT=>
  cases v[0]? with
  | none=>exact t_stuck _
  | some s=>
  cases v[1]? with
  | none=>exact t_stuck _
  | some x=>
  refine t_bind (t_underlying _) fun d=>?_
  cases d <;> try exact t_stuck _
  cases s <;> try exact t_stuck _
  refine t_bind (t_sizeOf _) fun size=>?_
  extract_lets -underBinder k
  have hk:∀ z,T1 S P F L (k z):=by
    intro z
    unfold k
    extract_lets -underBinder k
    have hk:∀ n,T1 S P F L (k n):=by
      intro n
      unfold k
      extract_lets -underBinder app need
      have happ:T1 S P F L app:=by
        unfold app
        exact t_ite _ (t_firstCells _ _ _) (t_ite _ (t_pure _) (t_bind (t_zeroValue _) fun _=>t_pure _))
      clear_value app need
      refine t_ite _ ?_ ?_
      · refine t_bind happ fun new=>?_
        cases ‹Option Addr› with
        | none=>exact t_pure _
        | some a=>exact t_bind (t_storeCells _ _ _) fun _=>t_pure _
      · refine t_bind (t_typeInfo _) fun i=>?_
        extract_lets -underBinder k
        have hk:∀ u,T1 S P F L (k u):=by
          intro u
          unfold k
          refine t_bind (t_typeInfo _) fun i=>?_
          extract_lets -underBinder k
          have hk:∀ u,T1 S P F L (k u):=by
            intro u
            unfold k
            refine t_bind (t_choose _) fun c=>?_
            refine t_bind (t_typeInfo _) fun i=>?_
            refine t_bind (t_askRoom _) fun _=>?_
            refine t_bind (t_firstCells _ _ _) fun old=>?_
            refine t_bind happ fun new=>?_
            refine t_bind (t_zeroValue _) fun z=>?_
            exact t_bind (t_newRow _ _) fun _=>t_pure _
          clear_value k
          exact t_ite _ (t_bind (t_ite _ (t_runtimePanic _) (t_mayShare _ _ _ _ _ (.resourceLimit "append: a slice or a string whose bytes no memory bears") rfl (fun b Q x=>by cases b <;> rfl))) fun _=>hk _) (hk _)
        clear_value k
        exact t_ite _ (t_bind (t_runtimePanic _) fun _=>hk _) (hk _)
    clear_value k
    refine t_ite _ ?_ (t_bind (t_lenOf _) fun _=>hk _)
    refine t_bind (t_asInt _) fun l=>?_
    extract_lets -underBinder l k
    have hk:∀ u,T1 S P F L (k u):=by
      intro u
      unfold k
      refine t_bind (t_typeInfo _) fun i=>?_
      extract_lets -underBinder k
      have hk:∀ u,T1 S P F L (k u):=by
        intro u
        unfold k
        exact t_bind (t_pure _) fun _=>hk _
      clear_value k
      exact t_ite _ (t_bind (t_choose _) fun _=>t_bind (t_runtimePanic _) fun _=>hk _) (hk _)
    clear_value k
    exact t_ite _ (t_bind (t_runtimePanic _) fun _=>hk _) (hk _)
  clear_value k
  cases a[1]? with
  | none=>exact t_bind (t_pure _) fun _=>hk _
  | some y=>exact t_bind (t_underlying _) fun _=>t_bind (t_pure _) fun _=>hk _
end
end
section
section
variable {α β:Type}{S:Prot}{P:Program}{F:Array Func}{L:List Nat}
structure Funcs (S:Prot) (P:Program) (F:Array Func):Prop where
  num:∀ (f:FuncId) (fn:Func),F[f]? = some fn->(fn.name == "runtime.NumGoroutine")=false
  body:∀ (f:FuncId) (fn:Func),F[f]? = some fn->fn.body.isNone=false->∃ fn',P.funcs[f]? = some fn'/\fn'.body.isNone=false/\(fn'.name == "runtime.NumGoroutine")=false
  val:∀ (f:FuncId) (fn:Func) (args:Array Value) (v:World),F[f]? = some fn->fn.body.isNone=true->∀ n v',(callFunc f args).run (withFuncs P F) v=.ok n v'->∃ x,n=.value x
  row:∀ (f:FuncId) (fn:Func) (L:List Nat) (args:Array Value),F[f]? = some fn->fn.body.isNone=true->T1 S P F L (callFunc f args)
theorem callFunc_enter {Q:Program}{f:FuncId}{fn:Func}{args:Array Value}(h:Q.funcs[f]? = some fn)(hb:fn.body.isNone=false)(hn:(fn.name == "runtime.NumGoroutine")=false)(x:World) :
    (callFunc f args).run Q x=.ok (.enter f args) x/\(callFunc f args).events Q x #[] = #[]:=by
  constructor
  · unfold callFunc
    show (match Q.funcs[f]? with|none=>_|some fn=>_:Sem Next).run Q x=_
    rw [h];simp [hb,hn]
  · unfold callFunc
    show (match Q.funcs[f]? with|none=>_|some fn=>_:Sem Next).events Q x #[] = _
    rw [h];simp [hb,hn]
theorem t_callFunc (hF:Funcs S P F)(f:FuncId)(args:Array Value):T1 S P F L (callFunc f args):=by
  cases hf:F[f]? with
  | none=>
    intro w v h hL
    refine ⟨v.tape,.halt (.stuck "call: no such function") v,Agree.refl _ _,Nat.le_refl _,fun t' _=>?_,trivial⟩
    unfold callFunc
    show (match (withFuncs P F).funcs[f]? with|none=>_|some fn=>_:Sem Next).run _ _=_
    have:(withFuncs P F).funcs[f]? = none:=hf
    rw [this];rfl
  | some fn=>
    cases hb:fn.body.isNone with
    | true=>exact hF.row f fn L args hf hb
    | false=>
      obtain ⟨fn',h1,h2,h3⟩:=hF.body f fn hf hb
      intro w v h hL
      refine ⟨v.tape,.ok (.enter f args) v,Agree.refl _ _,Nat.le_refl _,fun t' _=>?_,w,(callFunc_enter h1 h2 h3 w).1,h,Kept.refl _ _,by rw [(callFunc_enter h1 h2 h3 w).2];simp⟩
      exact (callFunc_enter (Q:=withFuncs P F) (show F[f]? = some fn from hf) hb (hF.num f fn hf) _).1
theorem t_callMethod (hF:Funcs S P F)(r:Value)(n:String)(args:Array Value):T1 S P F L (callMethod r n args):=by
  unfold callMethod
  split
  · refine t_program rfl ?_
    refine t_bind (t_method _ _ _ _) fun p=>?_
    exact t_callFunc hF _ _
  · exact t_runtimePanic _
  · exact t_stuck _
def okBuiltin:Builtin->Bool
  | .append | .len | .delete | .copy | .clear=>true
  | _=>false
def okTarget:Target->Bool
  | .builtin b _ _ _=>okBuiltin b
  | .collected _ | .coroexit _=>false
  | _=>true
theorem t_builtin (b:Builtin)(hb:okBuiltin b=true)(a:Array TypeId)(t:TypeId)(c:Array Bool)(v:Array Value):T1 S P F L (builtin b a t c v):=by
  cases b <;> first|(cases hb;done)|skip
  · exact t_bind (t_append _ _ _) fun _=>t_pure _
  · exact t_bind (t_clear _ _ _) fun _=>t_pure _
  · exact t_bind (t_copy _ _ _) fun _=>t_pure _
  · exact t_bind (t_delete _ _ _) fun _=>t_pure _
  · exact t_bind (t_len _ _ _) fun _=>t_pure _
theorem t_invoke (hF:Funcs S P F)(t:Target)(ht:okTarget t=true)(args:Array Value):T1 S P F L (invoke t args):=by
  unfold invoke
  split
  · exact t_runtimePanic _
  · exact t_builtin _ ht _ _ _ _
  · exact t_callFunc hF _ _
  · cases args[0]? with
    | none=>exact t_stuck _
    | some r=>exact t_callMethod hF _ _ _
  · cases args[0]? with
    | none=>exact t_stuck _
    | some r=>
      refine t_bind (t_underlying _) fun d=>?_
      cases d <;> exact t_callMethod hF _ _ _
  · cases args[0]? with
    | none=>exact t_stuck _
    | some r=>exact t_bind (t_receiverVia _ _ _ _) fun _=>t_callFunc hF _ _
  · exact t_yield _ _
  · exact t_stuck _
  · exact t_pure _
theorem resolve_ok {Q:Program}{r:Operand->Value}{c:Call}{t:TypeId}{d:Deferred}{x y:World}(h:(resolve r c t).run Q x=.ok d y)(hc:∀ b,c.callee=.builtin b->okBuiltin b=true):okTarget d.target=true:=by
  unfold resolve at h
  split at h
  · rename_i b hb
    cases h
    exact hc _ hb
  · cases h;rfl
  · unfold Deferred.ofValue at h
    split at h
    · cases h;rfl
    · cases h;rfl
    · cases h
def okOp (P:Program):Op->Bool
  | .move _ | .assign _ | .pick .. | .alloc _ | .box .. | .build .. | .buildSlice .. | .load .. | .store .. | .nilCheck _ | .binOp .. | .unOp .. | .makeInterface .. | .makeFunc .. | .makeMap .. | .makeChan .. | .makeSlice ..
  | .slice .. | .fieldAddr .. | .field .. | .indexAddr .. | .index .. | .lookup .. | .mapUpdate .. | .insert .. | .range .. | .next .. | .entry .. | .typeAssert .. | .extract .. | .panic _=>true
  | .select cases false=>cases.size == 1 && cases.all (·.send.isNone)
  | .convert src dst _=>(match P.underlying src with|some (.int _)=>true|_=>false) && (match P.underlying dst with|some (.int _)=>true|_=>false)
  | .call c | .defer c=>match c.callee with | .builtin b=>okBuiltin b|_=>true
  | _=>false
theorem t_sysEnv:T1 S P F L (sys .env):=by
  have run:∀ (Q:Program) (w:World),(sys .env).run Q w=.ok (.strings w.os.env) w:=fun _ _=>rfl
  intro w v h hL
  refine ⟨v.tape,.ok (.strings w.os.env) v,Agree.refl _ _,Nat.le_refl _,fun t' _=>?_,w,run P w,h,Kept.refl _ _,fun e he=>?_⟩
  · rw [run]
    show Result.ok (SysRet.strings v.os.env) _=_
    rw [h.os];rfl
  · have hev:(sys .env).events P w #[] = #[⟨.output,true,false⟩]:=rfl
    rw [hev] at he
    have:e=⟨.output,true,false⟩:=by simpa using he
    subst this
    exact ⟨by simp,by simp,by simp,by simp,by simp⟩
theorem t_panicnil:T1 S P F L Instr.panicnil:=by
  unfold Instr.panicnil
  refine t_bind t_sysEnv fun r=>?_
  cases r <;> first|exact t_stuck _|skip
  exact t_program rfl (t_pure _)
theorem t_panic (x:Value):T1 S P F L (Instr.panic x):=by
  unfold Instr.panic
  split
  · exact t_goPanic _
  · exact t_bind t_panicnil fun _=>t_ite _ (t_goPanic _) (t_runtimePanic _)
  · exact t_stuck _
theorem t_underlying_bind {t:TypeId}{d:TypeDesc}{f:TypeDesc->Sem β}(h:P.underlying t=some d)(k:T1 S P F L (f d)):T1 S P F L (underlying t >>= f):=by
  refine tame_bindR (t_underlying t) fun a ha=>?_
  obtain ⟨v,v',hr⟩:=ha
  have:a=d:=by
    have e:(underlying t).run (withFuncs P F) v=match P.underlying t with|some d=>.ok d v|none=>.halt (.stuck "no such type") v:=by
      unfold underlying
      show (match P.underlying t with|some d=>pure d|none=>stuck "no such type" : Sem TypeDesc).run _ _=_
      cases P.underlying t <;> rfl
    rw [e,h] at hr
    cases hr;rfl
  rw [this];exact k
theorem t_convert (src dst:TypeId)(h:((match P.underlying src with|some (.int _)=>true|_=>false) && (match P.underlying dst with|some (.int _)=>true|_=>false))=true)(y:Value):T1 S P F L (convert src dst y):=by
  unfold convert
  rw [Bool.and_eq_true] at h
  obtain ⟨h1,h2⟩:=h
  split at h1
  · rename_i k hk
    split at h2
    · rename_i l hl
      refine t_underlying_bind hk (t_underlying_bind hl ?_)
      cases y <;> first|exact t_intToInt _ _|exact t_floatToInt _ _ _|exact t_unsupported _ rfl|(rename_i o;cases o <;> exact t_unsupported _ rfl)
    · cases h2
  · cases h1
theorem t_v {s:Sem Value}(h:T1 S P F L s):T1 S P F L (do pure (Next.value (← s)):Sem Next):=t_bind h fun _=>t_pure _
theorem t_u {s:Sem Unit}(h:T1 S P F L s):T1 S P F L (do s;pure Next.skip:Sem Next):=t_bind h fun _=>t_pure _
theorem t_makeChan (t:TypeId)(x:Value):T1 S P F L (Instr.makeChan t x):=by
  unfold Instr.makeChan
  refine t_bind (t_asInt _) fun n=>?_
  refine t_bind (t_underlying _) fun d=>?_
  cases d <;> first|exact t_stuck _|skip
  refine t_bind (t_typeInfo _) fun i=>?_
  have hn:T1 S P F L (do pure (Value.chan (some (← newObj (.chan n.toNat #[] false 0 0 false))))):=t_bind (t_new _ (fun _ _=>.chan ..)) fun _=>t_pure _
  exact t_ite _ (t_bind (t_runtimePanic _) fun _=>hn) hn
theorem t_execOp (hF:Funcs S P F)(ρ:Operand->Value)(o:Oper)(hok:okOp P o.op=true):T1 S P F L (execOp ρ o):=by
  unfold execOp
  obtain ⟨dst,op,ty,pos,after,guard⟩:=o
  dsimp only at hok ⊢
  cases op with
  | move=>exact t_pure _
  | assign=>exact t_pure _
  | pick=>exact t_bind (t_asBool _) fun _=>t_pure _
  | alloc=>exact t_v (t_alloc _ _ _)
  | box=>exact t_v (t_box _ _)
  | build=>exact t_v (t_build _ _)
  | buildSlice=>exact t_v (t_buildSlice _ _ _)
  | load=>exact t_v (t_loadAt _ _)
  | store=>exact t_u (t_storeAt _ _ _)
  | nilCheck x=>
    dsimp only
    split
    · exact t_runtimePanic _
    · exact t_runtimePanic _
    · exact t_runtimePanic _
    · split
      · exact t_runtimePanic _
      · refine t_program rfl ?_
        refine t_bind (t_nilAhead _ _ _ _) fun r=>?_
        exact t_ite _ (t_bind (t_unsupported _ rfl) fun _=>t_pure _) (t_pure _)
      · exact t_pure _
    · exact t_pure _
  | binOp=>exact t_v (t_bind (t_eqGuard _ _ _ _ _ _) fun _=>t_binOp _ _ _ _)
  | unOp=>exact t_v (t_unary _ _)
  | convert=>exact t_v (t_convert _ _ hok _)
  | makeInterface=>exact t_v (t_makeInterface _ _)
  | makeFunc=>exact t_v (t_makeFunc _ _ _)
  | makeMap=>exact t_v (t_makeMap _ _)
  | makeChan=>exact t_v (t_makeChan _ _)
  | makeSlice=>exact t_v (t_makeSlice _ _ _)
  | slice=>exact t_v (t_sliceAt _ _ _ _ _)
  | fieldAddr=>exact t_v (t_fieldAt _ _ _)
  | field=>exact t_v (t_field _ _ _)
  | indexAddr=>exact t_v (t_indexAt _ _ _)
  | index=>exact t_v (t_index _ _ _)
  | lookup=>exact t_v (t_lookup _ _ _ _)
  | mapUpdate=>exact t_u (t_mapUpdate _ _ _ _)
  | insert=>exact t_u (t_mapUpdate _ _ _ _)
  | range=>exact t_v (t_range _ _)
  | next=>exact t_v (t_next _ _ _)
  | entry=>exact t_v (t_entry _)
  | typeAssert=>exact t_v (t_typeAssert _ _ _ _)
  | extract=>exact t_v (t_extract _ _)
  | panic=>exact t_v (t_panic _)
  | call c=>
    refine tame_bindR (t_resolve _ _ _) fun d hd=>?_
    obtain ⟨x,y,hr⟩:=hd
    exact t_invoke hF _ (resolve_ok hr fun b hb=>by simp only [okOp,hb] at hok;exact hok) _
  | defer c=>exact t_bind (t_resolve _ _ _) fun _=>t_pure _
  | select cases blocking=>exact t_bind (t_mapArray _ _ fun _=>t_bind (t_zeroValue _) fun _=>t_pure _) fun _=>t_pure _
  | _=>cases hok
def okNext (F:Array Func):Next->Bool
  | .value _ | .skip=>true
  | .enter f _=>(F[f]?).any fun fn=>!fn.body.isNone
  | .defer d=>okTarget d.target
  | .comm c false .select=>c.size == 1 && c.all (·.send.isNone)
  | _=>false
def okCall (F:Array Func):Next->Bool
  | .value _=>true
  | .enter f _=>(F[f]?).any fun fn=>!fn.body.isNone
  | _=>false
theorem okNext_of_call {n:Next}(h:okCall F n=true):okNext F n=true:=by
  cases n <;> first|exact h|rfl|cases h
def Never {α:Type} (s:Sem α):Prop:=∀ (Q:Program) (w w':World) (a:α),s.run Q w≠.ok a w'
theorem never_goPanic (x:Value):Never (goPanic x:Sem α):=fun _ _ _ _ h=>by cases h
theorem never_stuck (m:String):Never (stuck m:Sem α):=fun _ _ _ _ h=>by cases h
theorem never_unsupported (u:Unsupported):Never (unsupported u:Sem α):=fun _ _ _ _ h=>by cases h
theorem never_bind {x:Sem α}{f:α->Sem β}(h:∀ a,Never (f a)):Never (x >>= f):=by
  intro Q w w' b hb
  rw [Sem.run_bind] at hb
  cases hr:x.run Q w with
  | ok a w₁=>rw [hr] at hb;exact h a Q _ _ _ hb
  | halt y w₁=>rw [hr] at hb;cases hb
theorem never_runtimePanic (e:RuntimeError):Never (runtimePanic e:Sem α):=by
  unfold runtimePanic
  refine never_bind fun p=>?_
  cases e <;> first|exact never_goPanic _|exact never_bind fun _=>never_bind fun _=>never_goPanic _|skip
  all_goals (first|exact never_bind fun _=>never_goPanic _|(refine never_bind fun _=>?_;exact never_bind fun _=>never_goPanic _))
theorem next_v {s:Sem Value}{Q:Program}{v v':World}{n:Next}(h:(do pure (Next.value (← s)):Sem Next).run Q v=.ok n v'):okNext F n=true:=by
  rw [Sem.run_bind] at h
  cases hr:s.run Q v with
  | ok a w=>rw [hr] at h;cases h;rfl
  | halt y w=>rw [hr] at h;cases h
theorem call_v {s:Sem Value}{Q:Program}{v v':World}{n:Next}(h:(do pure (Next.value (← s)):Sem Next).run Q v=.ok n v'):okCall F n=true:=by
  rw [Sem.run_bind] at h
  cases hr:s.run Q v with
  | ok a w=>rw [hr] at h;cases h;rfl
  | halt y w=>rw [hr] at h;cases h
theorem next_u {s:Sem Unit}{Q:Program}{v v':World}{n:Next}(h:(do s;pure Next.skip:Sem Next).run Q v=.ok n v'):okNext F n=true:=by
  rw [Sem.run_bind] at h
  cases hr:s.run Q v with
  | ok a w=>rw [hr] at h;cases h;rfl
  | halt y w=>rw [hr] at h;cases h
theorem next_callFunc (hF:Funcs S P F){f:FuncId}{args:Array Value}{v v':World}{n:Next}(h:(callFunc f args).run (withFuncs P F) v=.ok n v'):okCall F n=true:=by
  cases hf:F[f]? with
  | none=>
    unfold callFunc at h
    have e:(match (withFuncs P F).funcs[f]? with|none=>(stuck "call: no such function" : Sem Next)|some fn=>_).run (withFuncs P F) v=.ok n v':=h
    have:(withFuncs P F).funcs[f]? = none:=hf
    rw [this] at e;cases e
  | some fn=>
    cases hb:fn.body.isNone with
    | true=>obtain ⟨x,rfl⟩:=hF.val f fn args v hf hb n v' h;rfl
    | false=>
      rw [(callFunc_enter (Q:=withFuncs P F) (show F[f]? = some fn from hf) hb (hF.num f fn hf) v).1] at h
      cases h
      show (F[f]?).any _=true
      rw [hf]
      show (!fn.body.isNone)=true
      rw [hb];rfl
theorem run_bind_ok {x:Sem α}{f:α->Sem β}{Q:Program}{v v':World}{b:β}(h:(x >>= f).run Q v=.ok b v'):∃ a v₁,x.run Q v=.ok a v₁/\(f a).run Q v₁=.ok b v':=by
  rw [Sem.run_bind] at h
  cases hr:x.run Q v with
  | ok a v₁=>rw [hr] at h;exact ⟨a,v₁,rfl,h⟩
  | halt y v₁=>rw [hr] at h;cases h
def NoLoop (v:World):Prop:=∀ (i:Nat) (l:Loop),v.heap[i]? ≠ some (Obj.loop l)
theorem Like.noLoop {w v:World}(h:Like S w v):NoLoop v:=by
  intro i l hi
  have hlt:i<v.heap.size:=(Array.getElem?_eq_some_iff.1 hi).1
  have hlw:i<w.heap.size:=by rw [← h.size];exact hlt
  have hw:w.heap[i]? = Option.some (w.heap[i]'hlw):=Array.getElem?_eq_getElem hlw
  have:=h.obj i _ _ hw hi
  revert this
  generalize w.heap[i]'hlw=o
  intro this
  cases this with
  | same _ hp=>exact hp
theorem next_callMethod (hF:Funcs S P F){r:Value}{m:String}{args:Array Value}{v v':World}{n:Next}(h:(callMethod r m args).run (withFuncs P F) v=.ok n v'):okCall F n=true:=by
  unfold callMethod at h
  split at h
  · obtain ⟨p,v₁,_,h⟩:=run_bind_ok h
    obtain ⟨q,v₂,_,h⟩:=run_bind_ok h
    exact next_callFunc hF h
  · exact absurd h (never_runtimePanic _ _ _ _ _)
  · exact absurd h (never_stuck _ _ _ _ _)
theorem next_builtin {b:Builtin}(hb:okBuiltin b=true){a:Array TypeId}{t:TypeId}{c:Array Bool}{args:Array Value}{v v':World}{n:Next}(h:(builtin b a t c args).run (withFuncs P F) v=.ok n v'):okCall F n=true:=by
  cases b <;> first|(cases hb;done)|exact call_v h
theorem next_invoke (hF:Funcs S P F){t:Target}(ht:okTarget t=true){args:Array Value}{v v':World}{n:Next}(hl:NoLoop v)(h:(invoke t args).run (withFuncs P F) v=.ok n v'):okCall F n=true:=by
  unfold invoke at h
  split at h
  · exact absurd h (never_runtimePanic _ _ _ _ _)
  · exact next_builtin ht h
  · exact next_callFunc hF h
  · cases ha:args[0]? with
    | none=>rw [ha] at h;exact absurd h (never_stuck _ _ _ _ _)
    | some r=>rw [ha] at h;exact next_callMethod hF h
  · cases ha:args[0]? with
    | none=>rw [ha] at h;exact absurd h (never_stuck _ _ _ _ _)
    | some r=>
      rw [ha] at h
      obtain ⟨d,v₁,_,h⟩:=run_bind_ok h
      exact next_callMethod hF h
  · cases ha:args[0]? with
    | none=>rw [ha] at h;exact absurd h (never_stuck _ _ _ _ _)
    | some r=>
      rw [ha] at h
      obtain ⟨d,v₁,_,h⟩:=run_bind_ok h
      exact next_callFunc hF h
  · exfalso
    rename_i l _
    unfold Instr.yield Instr.getLoop at h
    obtain ⟨d,v₁,h1,_⟩:=run_bind_ok h
    obtain ⟨o,v₂,h2,h3⟩:=run_bind_ok h1
    cases hi:v.heap[l]? with
    | none=>simp [getObj,Sem.run,hi] at h2
    | some o'=>
      cases o' <;> simp [getObj,Sem.run,hi] at h2 <;> first
        | (obtain ⟨rfl,rfl⟩:=h2;exact absurd h3 (never_stuck _ _ _ _ _))
        | exact hl _ _ hi
  · exact absurd h (never_stuck _ _ _ _ _)
  · cases ht
theorem mapM_one {γ δ:Type}{f:γ->Sem δ}{s:γ}{Q:Program}{v v':World}{d:Array δ}(h:((#[s]:Array γ).mapM f).run Q v=.ok d v'):∃ a v₁,(f s).run Q v=.ok a v₁/\d=#[a]:=by
  rw [Array.mapM_eq_mapM_toList] at h
  simp only [List.mapM_cons,List.mapM_nil] at h
  have h':(Functor.map List.toArray (f s >>= fun a=>(pure []:Sem (List δ)) >>= fun l=>pure (a :: l)):Sem (Array δ)).run Q v=.ok d v':=h
  rw [map_eq_pure_bind] at h'
  obtain ⟨l,v₁,h1,h2⟩:=run_bind_ok h'
  obtain ⟨a,v₂,h3,h4⟩:=run_bind_ok h1
  cases h4
  cases h2
  exact ⟨a,_,h3,rfl⟩
theorem next_execOp (hF:Funcs S P F)(ρ:Operand->Value){o:Oper}(hok:okOp P o.op=true){v v':World}{n:Next}(hl:NoLoop v)(h:(execOp ρ o).run (withFuncs P F) v=.ok n v'):okNext F n=true:=by
  unfold execOp at h
  obtain ⟨dst,op,ty,pos,after,guard⟩:=o
  dsimp only at hok h
  cases op with
  | move=>cases h;rfl
  | assign=>cases h;rfl
  | pick=>
    obtain ⟨b,v₁,_,h⟩:=run_bind_ok h
    cases h;rfl
  | nilCheck x=>
    dsimp only at h
    split at h
    · exact absurd h (never_runtimePanic _ _ _ _ _)
    · exact absurd h (never_runtimePanic _ _ _ _ _)
    · exact absurd h (never_runtimePanic _ _ _ _ _)
    · split at h
      · exact absurd h (never_runtimePanic _ _ _ _ _)
      · obtain ⟨p,v₁,_,h⟩:=run_bind_ok h
        obtain ⟨q,v₂,_,h⟩:=run_bind_ok h
        split at h
        · obtain ⟨_,_,h3,_⟩:=run_bind_ok h
          exact absurd h3 (never_unsupported _ _ _ _ _)
        · cases h;rfl
      · cases h;rfl
    · cases h;rfl
  | call c=>
    obtain ⟨d,v₁,h1,h2⟩:=run_bind_ok h
    have hv:v₁=v:=by
      unfold resolve at h1
      split at h1
      · cases h1;rfl
      · cases h1;rfl
      · unfold Deferred.ofValue at h1
        split at h1
        · cases h1;rfl
        · cases h1;rfl
        · cases h1
    rw [hv] at h2
    exact okNext_of_call (next_invoke hF (resolve_ok h1 fun b hb=>by simp only [okOp,hb] at hok;exact hok) hl h2)
  | defer c=>
    obtain ⟨d,v₁,h1,h2⟩:=run_bind_ok h
    cases h2
    exact resolve_ok h1 fun b hb=>by simp only [okOp,hb] at hok;exact hok
  | select cases blocking=>
    cases blocking with
    | true=>cases hok
    | false=>
      obtain ⟨d,v₁,h1,h2⟩:=run_bind_ok h
      cases h2
      simp only [okOp,Bool.and_eq_true,beq_iff_eq] at hok
      obtain ⟨l⟩:=cases
      match l,hok with
      | [],hok=>simp at hok
      | [s],hok=>
        obtain ⟨a,v₂,h3,rfl⟩:=mapM_one h1
        obtain ⟨z,v₃,_,h4⟩:=run_bind_ok h3
        cases h4
        have hs:s.send=none:=by simpa using hok.2
        simp [okNext,hs]
      | _ :: _ :: _,hok=>simp at hok
  | go|send|recv|ready|waits|sliceToArrayPointer|mapEntry|entryStore=>cases hok
  | store|mapUpdate|insert=>exact next_u h
  | _=>exact next_v h
end
end
end Go.Tame
