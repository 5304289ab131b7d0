/- Several texts in one: PairA, PairB, PairC, DocR, PairD, PairE, PairF, LonePick, StepA, StepR. -/
import Derived.Test.YtblcigmggdiccaaGreatDoorPart21
import Derived.Test.YtblcigmggdiccaaGreatDoorPart20
import Derived.Test.YtblcigmggdiccaaGreatDoorPart18
import Derived.Test.YtblcigmggdiccaaGreatDoorPart11
import Derived.Test.YtblcigmggdiccaaGreatDoorPart06
import Derived.WalkKit
import Derived.Test.YtblcigmggdiccaaGreatDoorPart17
set_option linter.unusedSectionVars false
set_option linter.unusedSimpArgs false
set_option linter.unusedVariables false
set_option maxRecDepth 100000
namespace Go.Proofs.Shardlog
open Go Go.Conc Go.Tame Go.Proofs Go.RowKit Go.Mem
section
structure TxIn (w:World) (Λ:Lab) (ts rt:List Value) (i:Nat) (x:Txn) (oc rc od rd:Value):Prop where
  c0:ts[i*3]? = some oc
  c1:ts[i*3+1]? = some (.int .i64 x.state)
  c2:ts[i*3+2]? = some rc
  d0:rt[i*3]? = some od
  d1:rt[i*3+1]? = some (.int .i64 x.state)
  d2:rt[i*3+2]? = some rd
  opsC:Row w Λ still 65 3 oc x.ops.length (clL x.ops)
  opsD:Row w Λ still 61 3 od x.ops.length (refL x.ops)
  rdsC:Row w Λ still 21 1 rc x.reads.length (rdL x.reads)
  rdsD:Row w Λ still 3 1 rd x.reads.length (riL x.reads)
structure Txn.Ok (x:Txn):Prop where
  tx:TxL x.ops
  ops:∀ o ∈ x.ops,IntKind.i64.wrap o.key=o.key/\IntKind.i64.wrap o.val=o.val
  rds:∀ y ∈ x.reads,IntKind.i64.wrap y=y
  rds6:x.reads.length<=6
def Txs (w:World) (Λ:Lab) (T:List Txn) (ts rt:List Value):Prop:=∀ (i:Nat) (x:Txn),T[i]? = some x->∃ oc rc od rd,TxIn w Λ ts rt i x oc rc od rd
section
variable {w w':World}{Λ Λ':Lab}{M:Role->Prop}{ts rt bs rb:List Value}{T:List Txn}{l:List Msg}{i:Nat}{x:Txn}{y:Msg}{oc rc od rd m o r:Value}
theorem TxIn.fr (h:TxIn w Λ ts rt i x oc rc od rd)(f:Fr Λ Λ' M w w')(hm:¬ M still):TxIn w' Λ' ts rt i x oc rc od rd:=
  ⟨h.c0,h.c1,h.c2,h.d0,h.d1,h.d2,h.opsC.fr f hm,h.opsD.fr f hm,h.rdsC.fr f hm,h.rdsD.fr f hm⟩
theorem Txs.fr (h:Txs w Λ T ts rt)(f:Fr Λ Λ' M w w')(hm:¬ M still):Txs w' Λ' T ts rt:=fun i x hx=>by
  obtain ⟨oc,rc,od,rd,h1⟩:=h i x hx
  exact ⟨oc,rc,od,rd,h1.fr f hm⟩
theorem snoc_get {α:Type}{l:List α}{x y:α}{i:Nat}(h:(l ++ [x])[i]? = some y):(l[i]? = some y)∨(i=l.length/\y=x):=by
  by_cases hi:i<l.length
  · rw [List.getElem?_append_left hi] at h
    exact .inl h
  · rw [List.getElem?_append_right (by omega)] at h
    cases he:i - l.length with
    | zero=>rw [he] at h;simp at h;exact .inr ⟨by omega,h.symm⟩
    | succ k=>rw [he] at h;simp at h
theorem Txs.snoc (h:Txs w Λ T ts rt)(h1:ts.length=T.length*3)(h2:rt.length=T.length*3)(h3:Row w Λ still 65 3 oc x.ops.length (clL x.ops))(h4:Row w Λ still 61 3 od x.ops.length (refL x.ops))(hs:x.state=1)(hr:x.reads = []):Txs w Λ (T ++ [x]) (ts++clTx oc) (rt++refTx od):=fun i z hz=>by
  rcases snoc_get hz with hz|⟨rfl,rfl⟩
  · obtain ⟨oc',rc',od',rd',h⟩:=h i z hz
    exact ⟨oc',rc',od',rd',get_left h.c0,get_left h.c1,get_left h.c2,get_left h.d0,get_left h.d1,get_left h.d2,h.opsC,h.opsD,h.rdsC,h.rdsD⟩
  · refine ⟨oc,.slice none 0 0,od,.slice none 0 0,get_right (j:=0) h1,?_,get_right (j:=2) h1,get_right (j:=0) h2,?_,get_right (j:=2) h2,h3,h4,row_nil_rds hr,?_⟩
    · rw [hs];exact get_right (j:=1) h1
    · rw [hs];exact get_right (j:=1) h2
    · rw [hr];exact Row.nil _ _ _ _ _
theorem Msgs.snoc (h:Msgs w Λ l bs)(h1:bs.length=l.length)(h2:MsgC w Λ y m):Msgs w Λ (l ++ [y]) (bs ++ [m]):=fun i z hz=>by
  rcases snoc_get hz with hz|⟨rfl,rfl⟩
  · obtain ⟨v,k1,k2⟩:=h i z hz
    exact ⟨v,get_left k1,k2⟩
  · exact ⟨m,get_right (j:=0) h1,h2⟩
theorem RefIn.left {ys:List Value}(h:RefIn w Λ rb i y o r):RefIn w Λ (rb++ys) i y o r:=⟨get_left h.h0,get_left h.h1,get_left h.h2,get_left h.h3,get_left h.h4,get_left h.h5,get_left h.h6,h.ops,h.rds⟩
theorem Refs.snoc (h:Refs w Λ l rb)(h1:rb.length=l.length*7)(h2:Row w Λ still 61 3 o y.ops.length (refL y.ops))(h3:Row w Λ still 3 1 r y.reads.length (riL y.reads)):Refs w Λ (l ++ [y]) (rb++toldCells y o r):=fun i z hz=>by
  rcases snoc_get hz with hz|⟨rfl,rfl⟩
  · obtain ⟨o',r',k⟩:=h i z hz
    exact ⟨o',r',k.left⟩
  · exact ⟨o,r,get_right (j:=0) h1,get_right (j:=1) h1,get_right (j:=2) h1,get_right (j:=3) h1,get_right (j:=4) h1,get_right (j:=5) h1,get_right (j:=6) h1,h2,h3⟩
theorem Msgs.erase (h:Msgs w Λ l bs)(k:Nat):Msgs w Λ (l.eraseIdx k) (bs.eraseIdx k):=fun i z hz=>by
  rw [List.getElem?_eraseIdx] at hz
  split at hz
  · obtain ⟨m,k1,k2⟩:=h i z hz
    exact ⟨m,by rw [List.getElem?_eraseIdx,if_pos (by assumption)];exact k1,k2⟩
  · obtain ⟨m,k1,k2⟩:=h (i+1) z hz
    exact ⟨m,by rw [List.getElem?_eraseIdx,if_neg (by assumption)];exact k1,k2⟩
theorem cut_get {rb:List Value}{k p q:Nat}{v:Value}(h:rb[q]? = some v)(hp:p<k*7/\q=p∨k*7<=p/\q=p+7)(hk:(k+1)*7<=rb.length):(rb.take (k*7)++rb.drop ((k+1)*7))[p]? = some v:=by
  have hl:(rb.take (k*7)).length=k*7:=by rw [List.length_take];omega
  rcases hp with ⟨h1,rfl⟩|⟨h1,rfl⟩
  · rw [List.getElem?_append_left (by omega),List.getElem?_take,if_pos h1]
    exact h
  · rw [List.getElem?_append_right (by omega),List.getElem?_drop,hl]
    rw [show (k+1)*7+(p - k*7)=p+7 by omega]
    exact h
theorem Refs.erase (h:Refs w Λ l rb)(k:Nat)(h1:rb.length=l.length*7)(hk:k<l.length):Refs w Λ (l.eraseIdx k) (rb.take (k*7)++rb.drop ((k+1)*7)):=fun i z hz=>by
  rw [List.getElem?_eraseIdx] at hz
  have hkl:(k+1)*7<=rb.length:=by omega
  split at hz
  · obtain ⟨o,r,q⟩:=h i z hz
    exact ⟨o,r,cut_get q.h0 (.inl ⟨by omega,rfl⟩) hkl,cut_get q.h1 (.inl ⟨by omega,rfl⟩) hkl,cut_get q.h2 (.inl ⟨by omega,rfl⟩) hkl,cut_get q.h3 (.inl ⟨by omega,rfl⟩) hkl,cut_get q.h4 (.inl ⟨by omega,rfl⟩) hkl,cut_get q.h5 (.inl ⟨by omega,rfl⟩) hkl,cut_get q.h6 (.inl ⟨by omega,rfl⟩) hkl,q.ops,q.rds⟩
  · obtain ⟨o,r,q⟩:=h (i+1) z hz
    exact ⟨o,r,cut_get q.h0 (.inr ⟨by omega,by omega⟩) hkl,cut_get q.h1 (.inr ⟨by omega,by omega⟩) hkl,cut_get q.h2 (.inr ⟨by omega,by omega⟩) hkl,cut_get q.h3 (.inr ⟨by omega,by omega⟩) hkl,cut_get q.h4 (.inr ⟨by omega,by omega⟩) hkl,cut_get q.h5 (.inr ⟨by omega,by omega⟩) hkl,cut_get q.h6 (.inr ⟨by omega,by omega⟩) hkl,q.ops,q.rds⟩
end
structure DocShE (w:World) (Λ:Lab) (kd i b N:Nat):Prop where
  blk:At w Λ (kd,4,0) b (.cells (docCells i N (b+1)) 59 (0,0))
  vals:Row w Λ (kd,5,0) 3 1 (.slice (some ⟨b+1,0,none⟩) 26 26) 26 (riL (List.replicate 26 0))
def DocShsE (w:World) (Λ:Lab) (kd N:Nat) (rs:List Value):Prop:=∀ i,i<N->∃ b,rs[i]? = some (.pointer (some ⟨b,0,none⟩))/\DocShE w Λ kd i b N
theorem DocShsE.fr {w w':World}{Λ Λ':Lab}{M:Role->Prop}{kd N:Nat}{rs:List Value}(h:DocShsE w Λ kd N rs)(f:Fr Λ Λ' M w w')(hm:∀ r,r.1=kd->¬ M r):DocShsE w' Λ' kd N rs:=fun i hi=>by
  obtain ⟨b,h1,h2⟩:=h i hi
  exact ⟨b,h1,h2.blk.fr f (hm _ rfl),h2.vals.fr f (hm _ rfl)⟩
structure Pr (w:World) (Λ:Lab) (j c m D N:Nat) (l:List Msg) (T:List Txn) (stop:Bool) (sh tx bg:Value) (ss ts bs:List Value) (dsh dbag dtxs:Value) (rs rb rt:List Value) (cp s r:Nat):Prop where
  clu:Clu w Λ (3*j+1) c N T.length l.length 0 sh tx bg D ss ts bs
  doc:Doc w Λ (3*j+2) m N l.length T.length dsh dbag dtxs stop rs rb rt
  msgs:Msgs w Λ l bs
  refs:Refs w Λ l rb
  ok:∀ x ∈ l,x.Ok
  oneB:∀ u ∈ bs,u.oneCell'=true
  oneR:∀ u ∈ rb,u.oneCell'=true
  txs:Txs w Λ T ts rt
  txOk:∀ x ∈ T,x.Ok
  shC:ShdsE w Λ (3*j+3) N ss
  shD:DocShsE w Λ (3*j+3) N rs
  done:At w Λ (3*j+3,0,0) D (.chan cp #[] stop s r false)
  N1:1<=N
  N4:N<=4
  T60:T.length<=60
  l400:l.length<=400
def stepM (j:Nat) (r:Role):Prop:=r.1=3*j+1∨r.1=3*j+2∨scr r
theorem not_stepM {j:Nat}:¬ stepM j still:=by
  rintro (h|h|h)
  · simp [still] at h
  · simp [still] at h
  · exact h.2 rfl
section
variable {w w':World}{Λ Λ':Lab}{M:Role->Prop}{j c m D N:Nat}{l:List Msg}{T:List Txn}{stop:Bool}{sh tx bg:Value}{ss ts bs:List Value}{dsh dbag dtxs:Value}{rs rb rt:List Value}{cp s r:Nat}
theorem Pr.fr (h:Pr w Λ j c m D N l T stop sh tx bg ss ts bs dsh dbag dtxs rs rb rt cp s r)(f:Fr Λ Λ' M w w')(hm:∀ r:Role,r.1=3*j+1∨r.1=3*j+2∨r.1=3*j+3∨r=still->¬ M r):Pr w' Λ' j c m D N l T stop sh tx bg ss ts bs dsh dbag dtxs rs rb rt cp s r:=by
  have h0:=hm still (.inr (.inr (.inr rfl)))
  exact ⟨h.clu.fr f fun r hr=>hm r (.inl hr),h.doc.fr f fun r hr=>hm r (.inr (.inl hr)),h.msgs.fr f h0,h.refs.fr f h0,h.ok,h.oneB,h.oneR,h.txs.fr f h0,h.txOk,h.shC.fr f fun r hr=>hm r (.inr (.inr (.inl hr))),h.shD.fr f fun r hr=>hm r (.inr (.inr (.inl hr))),h.done.fr f (hm _ (.inr (.inr (.inl rfl)))),h.N1,h.N4,h.T60,h.l400⟩
theorem Pr.other {j':Nat}(h:Pr w Λ j c m D N l T stop sh tx bg ss ts bs dsh dbag dtxs rs rb rt cp s r)(f:Fr Λ Λ' (stepM j') w w')(hj:j≠j'):Pr w' Λ' j c m D N l T stop sh tx bg ss ts bs dsh dbag dtxs rs rb rt cp s r:=
  h.fr f fun r hr hm=>by
    rcases hr with hr|hr|hr|rfl
    · rcases hm with hm|hm|hm
      · omega
      · omega
      · have:=hm.1;omega
    · rcases hm with hm|hm|hm
      · omega
      · omega
      · have:=hm.1;omega
    · rcases hm with hm|hm|hm
      · omega
      · omega
      · have:=hm.1;omega
    · exact not_stepM hm
theorem Pr.lens (h:Pr w Λ j c m D N l T stop sh tx bg ss ts bs dsh dbag dtxs rs rb rt cp s r):bs.length=l.length/\rb.length=l.length*7/\ts.length=T.length*3/\rt.length=T.length*3:=by
  have h1:=h.clu.bag.len
  have h2:=h.doc.bag.len
  have h3:=h.clu.txs.len
  have h4:=h.doc.txs.len
  omega
theorem mineS_step {j:Nat}{r:Role}(h:mineS (3*j+1) r):stepM j r:=h.elim .inl fun h=>.inr (.inr h)
theorem doc_step {j:Nat}{r:Role}(h:r.1=3*j+2):stepM j r:=.inr (.inl h)
theorem Pr.cl (h:Pr w Λ j c m D N l T stop sh tx bg ss ts bs dsh dbag dtxs rs rb rt cp s r)(f:Fr Λ Λ' (mineS (3*j+1)) w w')(hc:Clu w' Λ' (3*j+1) c N T.length l.length 0 sh tx bg D ss ts bs):Pr w' Λ' j c m D N l T stop sh tx bg ss ts bs dsh dbag dtxs rs rb rt cp s r:=by
  have h0:¬ mineS (3*j+1) still:=not_mineS (by omega)
  have h2:∀ r:Role,r.1=3*j+2->¬ mineS (3*j+1) r:=fun r hr hm=>by
    rcases hm with hm|hm
    · omega
    · have:=hm.1;omega
  have h3:∀ r:Role,r.1=3*j+3->¬ mineS (3*j+1) r:=fun r hr hm=>by
    rcases hm with hm|hm
    · omega
    · have:=hm.1;omega
  exact ⟨hc,h.doc.fr f h2,h.msgs.fr f h0,h.refs.fr f h0,h.ok,h.oneB,h.oneR,h.txs.fr f h0,h.txOk,h.shC.fr f h3,h.shD.fr f h3,h.done.fr f (h3 _ rfl),h.N1,h.N4,h.T60,h.l400⟩
end
end
section
def PairAny (w:World) (Λ:Lab) (j c m D:Nat) (stop:Bool):Prop:=
  ∃ N l T sh tx bg ss ts bs dsh dbag dtxs rs rb rt cp s r,Pr w Λ j c m D N l T stop sh tx bg ss ts bs dsh dbag dtxs rs rb rt cp s r
section
variable {w w':World}{Λ Λ':Lab}{E:Nat->Addr}{M:Role->Prop}{j c m D N n:Nat}{l:List Msg}{T:List Txn}{stop:Bool}{sh tx bg y v:Value}{ss ts bs:List Value}{dsh dbag dtxs:Value}{rs rb rt:List Value}{cp s r:Nat}{ops:List OpD}
theorem PairAny.other {j':Nat}(h:PairAny w Λ j c m D stop)(f:Fr Λ Λ' (stepM j') w w')(hj:j≠j'):PairAny w' Λ' j c m D stop:=by
  obtain ⟨N,l,T,sh,tx,bg,ss,ts,bs,dsh,dbag,dtxs,rs,rb,rt,cp,s,r,h⟩:=h
  exact ⟨N,l,T,sh,tx,bg,ss,ts,bs,dsh,dbag,dtxs,rs,rb,rt,cp,s,r,h.other f hj⟩
theorem Pr.off (h:Pr w Λ j c m D N l T true sh tx bg ss ts bs dsh dbag dtxs rs rb rt cp s r)(hE:Errs w Λ E):AskedOff w Λ E (3*j+3,0,0) (3*j+1) c N T.length l.length D cp s r sh tx bg ss ts bs:=
  ⟨by omega,hE,h.clu,h.done,by simp⟩
theorem Pr.on (h:Pr w Λ j c m D N l T false sh tx bg ss ts bs dsh dbag dtxs rs rb rt cp s r)(hE:Errs w Λ E):Asked w Λ E (3*j+3,0,0) (3*j+1) c N T.length l.length D cp s r sh tx bg ss ts bs:=
  ⟨by omega,hE,h.clu,h.done,by simp⟩
theorem three_away {j:Nat}:((3*j+3,0,0):Role).1≠3*j+1:=by simp
theorem three_lent {j:Nat}:¬ (((3*j+3,0,0):Role)=lent):=ne_of_fst (by simp [lent])
def SubOut (w:World) (Λ:Lab) (j c m D:Nat) (stop:Bool) (v:Value) (e:Ending) (w2:World):Prop:=
  ∃ (t a:Int) (Λ2:Lab),e=.returned (.tuple #[.int .i64 t,.int .i64 a])/\Fr Λ Λ2 (stepM j) w w2/\∀ w3:World,w3.heap=w2.heap->w3.os=w2.os->Calls Tryz.L 20 #[.pointer (some ⟨m,0,none⟩),v] w3 fun e w4=>e=.returned (.tuple #[.int .i64 t,.int .i64 a])/\∃ Λ4,Fr Λ2 Λ4 (stepM j) w2 w4/\PairAny w4 Λ4 j c m D stop
theorem SubOut.no {t a:Int}{e:Ending}(h:Pr w Λ j c m D N l T stop sh tx bg ss ts bs dsh dbag dtxs rs rb rt cp s r)(hd:Row w Λ still 61 3 v n (refL ops))
    (h1:e=.returned (.tuple #[.int .i64 t,.int .i64 a])/\∃ Λ',Fr Λ Λ' (mineL (3*j+1)) w w'/\Clu w' Λ' (3*j+1) c N T.length l.length 0 sh tx bg D ss ts bs)
    (h2:∀ w3 Λ3,Doc w3 Λ3 (3*j+2) m N l.length T.length dsh dbag dtxs stop rs rb rt->Row w3 Λ3 still 61 3 v n (refL ops)->Calls Tryz.L 20 #[.pointer (some ⟨m,0,none⟩),v] w3 fun e w4=>e=.returned (.tuple #[.int .i64 t,.int .i64 a])/\Fr Λ3 Λ3 (fun _=>False) w3 w4):SubOut w Λ j c m D stop v e w':=by
  obtain ⟨he,Λ',f,hc⟩:=h1
  have f':Fr Λ Λ' (mineS (3*j+1)) w w':=f.mono fun r hr=>mineL_S hr
  have hp:=h.cl f' hc
  refine ⟨t,a,Λ',he,f'.mono fun r hr=>mineS_step hr,fun w3 hh ho=>?_⟩
  have fs:Fr Λ' Λ' (fun _=>False) w' w3:=Fr.same hh ho
  refine (h2 w3 Λ' (hp.doc.fr fs fun _ _ z=>z) ((hd.fr f' (not_mineS (by omega))).fr fs fun z=>z)).mono ?_
  rintro e w4 ⟨k1,k2⟩
  exact ⟨k1,Λ',(fs.trans k2).mono fun _ z=>z.elim,N,l,T,sh,tx,bg,ss,ts,bs,dsh,dbag,dtxs,rs,rb,rt,cp,s,r,hp.fr (fs.trans k2) fun _ _ z=>z⟩
theorem beginMsg {w:World}{Λ:Lab}{to:Int}{t g n q:Nat}{ops:List OpD}(h:Row w Λ still 65 3 (.slice (some ⟨g,0,none⟩) n q) n (clL ops))(hn:ops.length=n)(h0:0<n)(h6:n<=6) :
    MsgC w Λ ⟨1,-1,to,t,false,ops,[]⟩ (.iface 110 (clBegin to t (.slice (some ⟨g,0,none⟩) n q))):=by
  subst hn
  exact .inl ⟨rfl,rfl,rfl,_,rfl,h,h0,h6⟩
set_option maxHeartbeats 1000000 in
theorem pair_submit (hE:Errs w Λ E)(h:Pr w Λ j c m D N l T stop sh tx bg ss ts bs dsh dbag dtxs rs rb rt cp s r)(hv:Row w Λ still 65 3 y n (clL ops))(hd:Row w Λ still 61 3 v n (refL ops))(hn:n<=5864062014805)(hok:∀ o ∈ ops,IntKind.i64.wrap o.key=o.key/\IntKind.i64.wrap o.val=o.val) :
    Calls Tryz.L 18 #[.pointer (some ⟨c,0,none⟩),y] w (SubOut w Λ j c m D stop v):=by
  have hk:0<3*j+1:=by omega
  cases stop with
  | true=>exact (lone_psub_shut (h.off hE) hv hn three_lent).mono fun e w' k=>SubOut.no h hd k fun w3 Λ3 hD hV=>doc_sub_stop hD
  | false=>
    by_cases ht:TxL ops
    · by_cases hm:60<=T.length∨400<=l.length
      · exact (lone_psub_many hk hE h.clu h.done hv hn ht hm three_away three_lent).mono fun e w' k=>SubOut.no h hd k fun w3 Λ3 hD hV=>doc_sub_many hD hV hn ht h.T60 hm
      · have hol:=refRow_len hd
        have h16:0<n/\n<=6:=by
          have:=ht
          unfold TxL at this
          rw [hol] at this
          exact ⟨this.1,this.2.1⟩
        refine (lone_psub_yes hk hE h.clu h.done h.N1 h.N4 hv hn ht (by omega) (by omega) three_away three_lent).mono ?_
        rintro e w2 ⟨he,Λ2,g,tx',bg',f,hc,hr⟩
        have f':Fr Λ Λ2 (mineS (3*j+1)) w w2:=f.mono fun r hr=>mineL_S hr
        have h0:¬ mineS (3*j+1) still:=not_mineS (by omega)
        have h2:∀ r:Role,r.1=3*j+2->¬ mineS (3*j+1) r:=fun r hr hm=>by
          rcases hm with hm|hm
          · omega
          · have:=hm.1;omega
        have h3:∀ r:Role,r.1=3*j+3->¬ mineS (3*j+1) r:=fun r hr hm=>by
          rcases hm with hm|hm
          · omega
          · have:=hm.1;omega
        refine ⟨T.length,0,Λ2,he,f'.mono fun r hr=>mineS_step hr,fun w3 hh ho=>?_⟩
        have fs:Fr Λ2 Λ2 (fun _=>False) w2 w3:=Fr.same hh ho
        refine (doc_sub_yes (by omega) ((h.doc.fr f' h2).fr fs fun _ _ z=>z) ((hd.fr f' h0).fr fs fun z=>z) hn ht h.N1 h.N4 (by omega) (by omega)).mono ?_
        rintro e w4 ⟨k1,Λ4,g',q',txs',bag',k2,k3,k4⟩
        have fd:Fr Λ2 Λ4 (fun r=>r.1=3*j+2) w2 w4:=(fs.mono fun _ z=>z.elim).trans k2
        have d0:¬ (still.1=3*j+2):=by simp [still]
        obtain ⟨l1,l2,l3,l4⟩:=h.lens
        have e1:(T ++ [({ ops:=ops }:Txn)]).length=T.length+1:=by simp
        have e2:(l ++ [(⟨1,-1,(plc (nthOp ops 0).key N:Nat),T.length,false,ops,[]⟩:Msg)]).length=l.length+1:=by simp
        have r65:=hr.fr fd d0
        subst hol
        refine ⟨k1,Λ4,fd.mono fun r hr=>doc_step hr,N,l ++ [⟨1,-1,(plc (nthOp ops 0).key N:Nat),T.length,false,ops,[]⟩],T ++ [{ ops:=ops }],sh,tx',bg',ss,ts++clTx (.slice (some ⟨g,0,none⟩) ops.length ops.length),bs ++ [.iface 110 (clBegin (plc (nthOp ops 0).key N:Nat) T.length (.slice (some ⟨g,0,none⟩) ops.length ops.length))],dsh,bag',txs',rs,rb++refBegin (plc (nthOp ops 0).key N:Nat) T.length (.slice (some ⟨g',0,none⟩) ops.length q'),rt++refTx (.slice (some ⟨g',0,none⟩) ops.length q'),cp,s,r,?_⟩
        exact {
          clu:=by rw [e1,e2];exact hc.fr fd fun r hr hm=>by omega
          doc:=by rw [e1,e2];exact k3
          msgs:=((h.msgs.fr f' h0).fr fd d0).snoc l1 (beginMsg r65 rfl h16.1 h16.2)
          refs:=((h.refs.fr f' h0).fr fd d0).snoc (y:=⟨1,-1,(plc (nthOp ops 0).key N:Nat),T.length,false,ops,[]⟩) l2 k4 (Row.nil _ _ _ _ _)
          ok:=fun x hx=>by
            rcases List.mem_append.1 hx with hx|hx
            · exact h.ok x hx
            · rw [List.mem_singleton.1 hx]
              exact ⟨hok,fun y hy=>by simp at hy,h16.2,by simp⟩
          oneB:=fun u hu=>by
            rcases List.mem_append.1 hu with hu|hu
            · exact h.oneB u hu
            · rw [List.mem_singleton.1 hu];rfl
          oneR:=fun u hu=>by
            rcases List.mem_append.1 hu with hu|hu
            · exact h.oneR u hu
            · simp [refBegin] at hu
              rcases hu with rfl|rfl|rfl|rfl|rfl|rfl|rfl <;> rfl
          txs:=((h.txs.fr f' h0).fr fd d0).snoc (x:={ ops:=ops }) l3 l4 r65 k4 rfl rfl
          txOk:=fun x hx=>by
            rcases List.mem_append.1 hx with hx|hx
            · exact h.txOk x hx
            · rw [List.mem_singleton.1 hx]
              exact ⟨ht,hok,fun y hy=>by simp at hy,by simp⟩
          shC:=(h.shC.fr f' h3).fr fd fun r hr hm=>by omega
          shD:=(h.shD.fr f' h3).fr fd fun r hr hm=>by omega
          done:=(h.done.fr f' (h3 _ rfl)).fr fd (by simp)
          N1:=h.N1
          N4:=h.N4
          T60:=by rw [e1];omega
          l400:=by rw [e2];omega }
    · exact (lone_psub_ops hk hE h.clu h.done hv hn ht three_away three_lent).mono fun e w' k=>SubOut.no h hd k fun w3 Λ3 hD hV=>doc_sub_ops hD hV hn ht
end
end
section
section
variable {w w':World}{Λ Λ':Lab}{E:Nat->Addr}{M:Role->Prop}{j c m D N n y:Nat}{l l':List Msg}{T:List Txn}{stop:Bool}{sh tx bg v:Value}{ss ts bs bs':List Value}{dsh dbag dtxs:Value}{rs rb rb' rt:List Value}{cp s r:Nat}{q a b:Int}
def DoOut (w:World) (Λ:Lab) (j c m D:Nat) (stop:Bool) (q a b:Int) (e:Ending) (w2:World):Prop:=
  ∃ (y:Int) (Λ2:Lab),e=.returned (.int .i64 y)/\Fr Λ Λ2 (stepM j) w w2/\∀ w3:World,w3.heap=w2.heap->w3.os=w2.os->Calls Tryz.L 68 #[.pointer (some ⟨m,0,none⟩),.int .i64 q,.int .i64 a,.int .i64 b] w3 fun e w4=>e=.returned (.int .i64 y)/\∃ Λ4,Fr Λ2 Λ4 (stepM j) w2 w4/\PairAny w4 Λ4 j c m D stop
theorem two_S {j:Nat}:∀ r:Role,r.1=3*j+2->¬ mineS (3*j+1) r:=fun r hr hm=>by
  rcases hm with hm|hm
  · omega
  · have:=hm.1;omega
theorem three_S {j:Nat}:∀ r:Role,r.1=3*j+3->¬ mineS (3*j+1) r:=fun r hr hm=>by
  rcases hm with hm|hm
  · omega
  · have:=hm.1;omega
theorem DoOut.bag {e:Ending}(h:Pr w Λ j c m D N l T stop sh tx bg ss ts bs dsh dbag dtxs rs rb rt cp s r)(hl:l'.length<=400)(hok:∀ x ∈ l',x.Ok)(hM:Msgs w Λ l' bs')(hR:Refs w Λ l' rb')(hB1:∀ u ∈ bs',u.oneCell'=true)(hB2:∀ u ∈ rb',u.oneCell'=true)
    (h1:DoDone w Λ (3*j+1) c N T.length D sh tx ss ts y l'.length bs' e w')
    (h2:∀ w3 Λ3,Doc w3 Λ3 (3*j+2) m N l.length T.length dsh dbag dtxs stop rs rb rt->Refs w3 Λ3 l rb->Txs w3 Λ3 T ts rt->Calls Tryz.L 68 #[.pointer (some ⟨m,0,none⟩),.int .i64 q,.int .i64 a,.int .i64 b] w3 fun e w4=>e=.returned (.int .i64 y)/\∃ Λ' bag',Fr Λ3 Λ' (fun r=>r.1=3*j+2) w3 w4/\Doc w4 Λ' (3*j+2) m N l'.length T.length dsh bag' dtxs stop rs rb' rt):DoOut w Λ j c m D stop q a b e w':=by
  obtain ⟨he,Λ',bg',f,hc⟩:=h1
  have f':Fr Λ Λ' (mineS (3*j+1)) w w':=f.mono fun r hr=>mine_S hr
  have h0:¬ mineS (3*j+1) still:=not_mineS (by omega)
  have d0:¬ (still.1=3*j+2):=by simp [still]
  refine ⟨y,Λ',he,f'.mono fun r hr=>mineS_step hr,fun w3 hh ho=>?_⟩
  have fs:Fr Λ' Λ' (fun _=>False) w' w3:=Fr.same hh ho
  refine (h2 w3 Λ' ((h.doc.fr f' two_S).fr fs fun _ _ z=>z) ((h.refs.fr f' h0).fr fs fun z=>z) ((h.txs.fr f' h0).fr fs fun z=>z)).mono ?_
  rintro e w4 ⟨k1,Λ4,bag',k2,k3⟩
  have fd:Fr Λ' Λ4 (fun r=>r.1=3*j+2) w' w4:=(fs.mono fun _ z=>z.elim).trans k2
  refine ⟨k1,Λ4,fd.mono fun r hr=>doc_step hr,N,l',T,sh,tx,bg',ss,ts,bs',dsh,bag',dtxs,rs,rb',rt,cp,s,r,?_⟩
  exact {
    clu:=hc.fr fd fun r hr hm=>by omega
    doc:=k3
    msgs:=(hM.fr f' h0).fr fd d0
    refs:=(hR.fr f' h0).fr fd d0
    ok:=hok
    oneB:=hB1
    oneR:=hB2
    txs:=(h.txs.fr f' h0).fr fd d0
    txOk:=h.txOk
    shC:=(h.shC.fr f' three_S).fr fd fun r hr hm=>by omega
    shD:=(h.shD.fr f' three_S).fr fd fun r hr hm=>by omega
    done:=(h.done.fr f' (three_S _ rfl)).fr fd (by simp)
    N1:=h.N1
    N4:=h.N4
    T60:=h.T60
    l400:=hl }
theorem DoOut.no {e:Ending}(h:Pr w Λ j c m D N l T stop sh tx bg ss ts bs dsh dbag dtxs rs rb rt cp s r)(h1:DoDone w Λ (3*j+1) c N T.length D sh tx ss ts y l.length bs e w')
    (h2:∀ w3 Λ3,Doc w3 Λ3 (3*j+2) m N l.length T.length dsh dbag dtxs stop rs rb rt->Calls Tryz.L 68 #[.pointer (some ⟨m,0,none⟩),.int .i64 q,.int .i64 a,.int .i64 b] w3 fun e w4=>e=.returned (.int .i64 y)/\Fr Λ3 Λ3 (fun _=>False) w3 w4):DoOut w Λ j c m D stop q a b e w':=
  DoOut.bag h h.l400 h.ok h.msgs h.refs h.oneB h.oneR h1 fun w3 Λ3 hD _ _=>(h2 w3 Λ3 hD).mono fun e w4 ⟨k1,k2⟩=>⟨k1,Λ3,dbag,k2.mono fun _ z=>z.elim,hD.fr k2 fun _ _ z=>z⟩
theorem Pr.pos (h:Pr w Λ j c m D N l T stop sh tx bg ss ts bs dsh dbag dtxs rs rb rt cp s r):0<3*j+1:=by omega
theorem one_told {x:Msg}{o o':Option Addr}{n n' c c':Nat}:∀ u ∈ toldCells x (.slice o n c) (.slice o' n' c'),u.oneCell'=true:=by simp [toldCells,Value.oneCell']
theorem RefIn.rm {x:Msg}{i:Nat}{o r:Value}(h:RefIn w Λ rb i x o r):∃ R:RM,R.In rb i/\R.cells=toldCells x o r:=by
  obtain ⟨oo,oc,rfl⟩:=h.ops.slice
  obtain ⟨ro,rc,rfl⟩:=h.rds.slice
  exact ⟨⟨x.kind,x.frm,x.to,x.tx,x.yes,oo,x.ops.length,oc,ro,x.reads.length,rc⟩,⟨h.h0,h.h1,h.h2,h.h3,h.h4,h.h5,h.h6⟩,rfl⟩
theorem pair_again (hE:Errs w Λ E)(h:Pr w Λ j c m D N l T stop sh tx bg ss ts bs dsh dbag dtxs rs rb rt cp s r):Calls Tryz.L 67 #[.pointer (some ⟨c,0,none⟩),.int .i64 1,.int .i64 a,.int .i64 b] w (DoOut w Λ j c m D stop 1 a b):=by
  cases stop with
  | true=>exact (pdo_again h.pos hE (met_again_shut (h.off hE))).mono fun e w' k=>DoOut.no h k fun w3 Λ3 hD=>doc_do_stop hD (by omega) (by omega)
  | false=>
    by_cases ha:0<=a/\a<T.length
    · by_cases hm:400<=l.length
      · exact (pdo_again h.pos hE (met_again_many (h.on hE) ha hm)).mono fun e w' k=>DoOut.no h k fun w3 Λ3 hD=>doc_again_many hD ha hm
      · obtain ⟨i,rfl⟩:∃ i:Nat,a=i:=⟨a.toNat,by omega⟩
        have hi:i<T.length:=by omega
        obtain ⟨x,hx⟩:∃ x,T[i]? = some x:=⟨_,List.getElem?_eq_getElem hi⟩
        obtain ⟨oc,rc,od,rd,hin⟩:=h.txs i x hx
        have hxo:=h.txOk x (List.mem_of_getElem? hx)
        have h16:0<x.ops.length/\x.ops.length<=6:=by
          have:=hxo.tx
          unfold TxL at this
          exact ⟨this.1,this.2.1⟩
        have hkey:97<=(nthOp x.ops 0).key/\(nthOp x.ops 0).key<=122:=by
          have:=hxo.tx
          unfold TxL at this
          obtain ⟨h1,h2,_⟩:=(this.2.2 0 h16.1).1
          omega
        have ho0:x.ops[0]? = some (nthOp x.ops 0):=nthOp_get x.ops 0 h16.1
        obtain ⟨g,q,hg,_⟩:=hin.opsC.some h16.1
        obtain ⟨g',q',hg',_⟩:=hin.opsD.some h16.1
        have c0:=hin.c0
        have c1:=hin.opsC
        rw [hg] at c0 c1
        obtain ⟨l1,l2,l3,l4⟩:=h.lens
        have e2:(l ++ [(⟨1,-1,(plc (nthOp x.ops 0).key N:Nat),i,false,x.ops,[]⟩:Msg)]).length=l.length+1:=by simp
        have hd1:=hin.opsD
        rw [hg'] at hd1
        refine (pdo_again h.pos hE (met_again_yes (h.on hE) h.N1 h.N4 hi (by omega) h.T60 c0 c1 ho0 hkey h16.2)).mono fun e w' k=>?_
        refine DoOut.bag (l':=l ++ [⟨1,-1,(plc (nthOp x.ops 0).key N:Nat),i,false,x.ops,[]⟩]) (rb':=rb++refBegin (plc (nthOp x.ops 0).key N:Nat) i (.slice (some ⟨g',0,none⟩) x.ops.length q')) h (by rw [e2];omega) (fun z hz=>?_) (h.msgs.snoc l1 (beginMsg c1 rfl h16.1 h16.2)) (h.refs.snoc (y:=⟨1,-1,(plc (nthOp x.ops 0).key N:Nat),i,false,x.ops,[]⟩) l2 hd1 (Row.nil _ _ _ _ _)) (fun u hu=>?_) (fun u hu=>?_) (by rw [e2];exact k) fun w3 Λ3 hD hR hT=>?_
        · rcases List.mem_append.1 hz with hz|hz
          · exact h.ok z hz
          · rw [List.mem_singleton.1 hz]
            exact ⟨hxo.ops,fun y hy=>by simp at hy,h16.2,by simp⟩
        · rcases List.mem_append.1 hu with hu|hu
          · exact h.oneB u hu
          · rw [List.mem_singleton.1 hu];rfl
        · rcases List.mem_append.1 hu with hu|hu
          · exact h.oneR u hu
          · simp [refBegin] at hu
            rcases hu with rfl|rfl|rfl|rfl|rfl|rfl|rfl <;> rfl
        · obtain ⟨oc',rc',od',rd',hin'⟩:=hT i x hx
          have d0:=hin'.d0
          have d0':=hin.d0
          rw [d0'] at d0
          obtain rfl:=Option.some.inj d0
          have d1:=hin'.opsD
          rw [hg'] at d0' d1
          have:=doc_again_yes (b:=b) hD hi d0' d1 ho0 hkey h.N1 h.N4 (by omega) (by have:=h.T60;omega)
          rw [e2]
          exact this
    · exact (pdo_again h.pos hE (met_again_tx (h.on hE) ha)).mono fun e w' k=>DoOut.no h k fun w3 Λ3 hD=>doc_again_tx hD ha
theorem doc_msg_do {k nb nt:Nat}{q a b y:Int}{w3:World}{Λ3:Lab}(hD:Doc w3 Λ3 k m N nb nt dsh dbag dtxs false rs rb rt)(hq:1<q/\q<=4)(hM:Calls Tryz.L 102 #[.pointer (some ⟨m,0,none⟩),.int .i64 q,.int .i64 a] w3 fun e w'=>e=.returned (.int .i64 y)/\Fr Λ3 Λ3 (fun _=>False) w3 w') :
    Calls Tryz.L 68 #[.pointer (some ⟨m,0,none⟩),.int .i64 q,.int .i64 a,.int .i64 b] w3 fun e w'=>e=.returned (.int .i64 y)/\Fr Λ3 Λ3 (fun _=>False) w3 w':=doc_do_msg hD hq hM
theorem pair_drop (hE:Errs w Λ E)(h:Pr w Λ j c m D N l T stop sh tx bg ss ts bs dsh dbag dtxs rs rb rt cp s r):Calls Tryz.L 67 #[.pointer (some ⟨c,0,none⟩),.int .i64 3,.int .i64 a,.int .i64 b] w (DoOut w Λ j c m D stop 3 a b):=by
  cases stop with
  | true=>exact (pdo_drop h.pos hE (met_drop_shut (h.off hE))).mono fun e w' k=>DoOut.no h k fun w3 Λ3 hD=>doc_do_stop hD (by omega) (by omega)
  | false=>
    by_cases ha:0<=a/\a<l.length
    · obtain ⟨i,rfl⟩:∃ i:Nat,a=i:=⟨a.toNat,by omega⟩
      have hi:i<l.length:=by omega
      obtain ⟨x,hx⟩:∃ x,l[i]? = some x:=⟨_,List.getElem?_eq_getElem hi⟩
      obtain ⟨l1,l2,l3,l4⟩:=h.lens
      have e2:(l.eraseIdx i).length=l.length - 1:=by rw [List.length_eraseIdx,if_pos hi]
      refine (pdo_drop h.pos hE (met_drop_yes (h.on hE) h.oneB hi (by have:=h.l400;omega))).mono fun e w' k=>?_
      refine DoOut.bag (l':=l.eraseIdx i) (bs':=bs.eraseIdx i) (rb':=rb.take (i*7)++rb.drop ((i+1)*7)) h (by have:=h.l400;omega) (fun z hz=>h.ok z (List.mem_of_mem_eraseIdx hz)) (h.msgs.erase i) (h.refs.erase i l2 hi) (fun u hu=>h.oneB u (List.mem_of_mem_eraseIdx hu)) (fun u hu=>?_) (by rw [e2];exact k) fun w3 Λ3 hD hR hT=>?_
      · rcases List.mem_append.1 hu with hu|hu
        · exact h.oneR u (List.mem_of_mem_take hu)
        · exact h.oneR u (List.mem_of_mem_drop hu)
      · obtain ⟨o,rr,hin⟩:=hR i x hx
        obtain ⟨R,hRi,_⟩:=hin.rm
        rw [e2]
        exact doc_do_msg hD (by omega) (doc_drop hD h.oneR hi hRi (by have:=h.l400;omega))
    · exact (pdo_drop h.pos hE (met_drop_no (h.on hE) ha)).mono fun e w' k=>DoOut.no h k fun w3 Λ3 hD=>doc_msg_do hD (by omega) (doc_msg_no hD ha)
theorem pair_copy (hE:Errs w Λ E)(h:Pr w Λ j c m D N l T stop sh tx bg ss ts bs dsh dbag dtxs rs rb rt cp s r):Calls Tryz.L 67 #[.pointer (some ⟨c,0,none⟩),.int .i64 4,.int .i64 a,.int .i64 b] w (DoOut w Λ j c m D stop 4 a b):=by
  cases stop with
  | true=>exact (pdo_copy h.pos hE (met_copy_shut (h.off hE))).mono fun e w' k=>DoOut.no h k fun w3 Λ3 hD=>doc_do_stop hD (by omega) (by omega)
  | false=>
    by_cases ha:0<=a/\a<l.length
    · obtain ⟨i,rfl⟩:∃ i:Nat,a=i:=⟨a.toNat,by omega⟩
      have hi:i<l.length:=by omega
      obtain ⟨x,hx⟩:∃ x,l[i]? = some x:=⟨_,List.getElem?_eq_getElem hi⟩
      obtain ⟨l1,l2,l3,l4⟩:=h.lens
      by_cases hm:400<=l.length
      · refine (pdo_copy h.pos hE (met_copy_many (h.on hE) ha hm)).mono fun e w' k=>DoOut.bag h h.l400 h.ok h.msgs h.refs h.oneB h.oneR k fun w3 Λ3 hD hR hT=>?_
        obtain ⟨o,rr,hin⟩:=hR i x hx
        obtain ⟨R,hRi,_⟩:=hin.rm
        exact (doc_msg_do (b:=b) hD (by omega) (doc_copy_many hD hi hRi hm (by have:=h.l400;omega))).mono fun e w4 ⟨k1,k2⟩=>⟨k1,Λ3,dbag,k2.mono fun _ z=>z.elim,hD.fr k2 fun _ _ z=>z⟩
      · have e2:(l ++ [x]).length=l.length+1:=by simp
        obtain ⟨mv,hm1,hm2⟩:=h.msgs i x hx
        obtain ⟨o,rr,hin⟩:=h.refs i x hx
        have hmv:∃ ty p,mv=.iface ty p:=by
          obtain ⟨t,p,f,fn,e,_⟩:=lone_tells (tOps 0) (tRds 0) hm2
          exact ⟨t,p,e⟩
        obtain ⟨ty,p,rfl⟩:=hmv
        refine (pdo_copy h.pos hE (met_copy_yes (h.on hE) hm1 (by omega))).mono fun e w' k=>?_
        refine DoOut.bag (l':=l ++ [x]) (bs':=bs ++ [.iface ty p]) (rb':=rb++toldCells x o rr) h (by rw [e2];omega) (fun z hz=>?_) (h.msgs.snoc l1 hm2) (h.refs.snoc l2 hin.ops hin.rds) (fun u hu=>?_) (fun u hu=>?_) (by rw [e2];exact k) fun w3 Λ3 hD hR hT=>?_
        · rcases List.mem_append.1 hz with hz|hz
          · exact h.ok z hz
          · rw [List.mem_singleton.1 hz]
            exact h.ok x (List.mem_of_getElem? hx)
        · rcases List.mem_append.1 hu with hu|hu
          · exact h.oneB u hu
          · rw [List.mem_singleton.1 hu];rfl
        · rcases List.mem_append.1 hu with hu|hu
          · exact h.oneR u hu
          · obtain ⟨oo,oc,rfl⟩:=hin.ops.slice
            obtain ⟨ro,rc,rfl⟩:=hin.rds.slice
            exact one_told u hu
        · obtain ⟨R,hRi,hRc⟩:=hin.rm
          rw [e2,← hRc]
          exact doc_do_msg hD (by omega) (doc_copy_yes hD hi hRi (by omega))
    · exact (pdo_copy h.pos hE (met_copy_no (h.on hE) ha)).mono fun e w' k=>DoOut.no h k fun w3 Λ3 hD=>doc_msg_do hD (by omega) (doc_msg_no hD ha)
end
end
section
structure Stp where
  kind:Int
  w:Int
  a:Int
  b:Int
  c:Int
  oo:Option Addr
  on:Nat
  oc:Nat
def Stp.cells (x:Stp):List Value:=[.int .i64 x.kind,.int .i64 x.w,.int .i64 x.a,.int .i64 x.b,.int .i64 x.c,.slice x.oo x.on x.oc]
def stL (l:List Stp):List Value:=l.flatMap Stp.cells
theorem Stp.one (x:Stp):∀ u ∈ x.cells,u.oneCell'=true:=by simp [Stp.cells,Value.oneCell']
structure Stp.At (x:Stp) (w:World) (g o:Nat):Prop where
  h0:w.cell? ⟨g,o,none⟩=some (.int .i64 x.kind)
  h1:w.cell? ⟨g,o+1,none⟩=some (.int .i64 x.w)
  h2:w.cell? ⟨g,o+2,none⟩=some (.int .i64 x.a)
  h3:w.cell? ⟨g,o+3,none⟩=some (.int .i64 x.b)
  h4:w.cell? ⟨g,o+4,none⟩=some (.int .i64 x.c)
  h5:w.cell? ⟨g,o+5,none⟩=some (.slice x.oo x.on x.oc)
theorem cell_fr {w w':World}{Λ Λ':Lab}{M:Role->Prop}{a:Addr}{v:Value}(h:w.cell? a=some v)(f:Fr Λ Λ' M w w')(hm:¬ M (Λ a.block)):w'.cell? a=some v:=by
  rw [← h]
  unfold World.cell?
  have hlt:a.block<w.heap.size:=by
    unfold World.cell? at h
    cases e:w.heap[a.block]? with
    | none=>rw [e] at h;cases h
    | some o=>exact (Array.getElem?_eq_some_iff.1 e).1
  rw [f.old _ hlt hm]
theorem Stp.At.fr {x:Stp}{w w':World}{Λ Λ':Lab}{M:Role->Prop}{g o:Nat}(h:x.At w g o)(f:Fr Λ Λ' M w w')(hm:¬ M (Λ g)):x.At w' g o:=
  ⟨cell_fr h.h0 f hm,cell_fr h.h1 f hm,cell_fr h.h2 f hm,cell_fr h.h3 f hm,cell_fr h.h4 f hm,cell_fr h.h5 f hm⟩
theorem slotSt:Slot 22 29 6 64:=⟨by kernel_rfl,by kernel_rfl,by decide⟩
def keeps (a b:Int) (x:Stp):Bool:=decide (x.kind≠3) || (decide (a<=x.a) && decide (x.a<=b))
theorem take_keeps {l:List Stp}{q:Nat}{x:Stp}(a b:Int)(hx:l[q]? = some x):(l.take (q+1)).filter (keeps a b)=(l.take q).filter (keeps a b)++(if keeps a b x=true then [x] else []):=by
  rw [List.take_add_one,hx,List.filter_append]
  simp [List.filter_cons]
section
variable {w:World}{Λ:Lab}{n g f cap:Nat}{a b:Int}{l:List Stp}
set_option maxHeartbeats 4000000 in
theorem lone_only_some (hl:l.length=n)(hs:∀ (j:Nat) (x:Stp),l[j]? = some x->x.At w g (f+j*6))(hg:¬ (Λ g=lent))(hn:n<=2199023255552) :
    Calls Tryz.L 22 #[.slice (some ⟨g,f,none⟩) n cap,.int .i64 a,.int .i64 b] w fun e w'=>∃ y Λ',e=.returned y/\Fr Λ Λ' (· = lent) w w'/\Row w' Λ' lent 29 6 y (l.filter (keeps a b)).length (stL (l.filter (keeps a b))):=by
  have hs':=hid' hs
  clear hs
  go_enter LL.func22,Tryz.ntmps22
  go_wp2
  go_loopw [7,8] (fun v i wr=>∃ (q:Nat) (Λr:Lab),q<=n/\i=.int .i64 q/\Fr Λ Λr (· = lent) w wr/\Row wr Λr lent 29 6 v ((l.take q).filter (keeps a b)).length (stL ((l.take q).filter (keeps a b)))) (fun _ i _=>n - (intOf i).toNat)
  case atStart=>exact ⟨0,Λ,by omega,rfl,Fr.refl _ _ _,Row.nil _ _ _ _ _⟩
  case round=>
    obtain ⟨q,Λr,hq,rfl,hF,hR⟩:=hrel
    by_cases hlt:q<n
    · obtain ⟨x,hx⟩:∃ x,l[q]? = some x:=⟨_,List.getElem?_eq_getElem (by omega)⟩
      have hA:=(hs'.out q x hx).fr hF hg
      have h60:(q:Int)<1152921504606846976:=by omega
      obtain ⟨d0,d1,d2,d3,d4,d5⟩:=hA
      obtain ⟨vo,vc,rfl⟩:=hR.slice
      have hV:=hid' (And.intro hF hR)
      clear hF hR
      have hlen:((l.take q).filter (keeps a b)).length<=q:=Nat.le_trans (List.length_filter_le _ _) (by rw [List.length_take];omega)
      have fX:Fr Λr Λr (fun _=>False) wr ((wr.alloc (.cells x.cells.toArray 29)).alloc (.cells x.cells.toArray 29)):=((Fr.refl Λr _ wr).alloc _).alloc _
      have hT:=hid' (hV.out.2.fr fX fun z=>z)
      have HN:=hid' (fun (j:Nat) (u:Value) (hu:x.cells[j]? = some u)=>alloc_cells (wr.alloc (.cells x.cells.toArray 29)) x.cells 29 j u hu)
      rw [alloc_size] at HN
      have hJ:=hid' (fun (w2:World) (Λ2:Lab) (v':Value) (hkp:keeps a b x=true) (f2:Fr Λr Λ2 (· = lent) ((wr.alloc (.cells x.cells.toArray 29)).alloc (.cells x.cells.toArray 29)) w2) (hr:Row w2 Λ2 lent 29 6 v' (((l.take q).filter (keeps a b)).length+1) (stL ((l.take q).filter (keeps a b))++x.cells))=>
        (⟨(hV.out.1.trans (fX.mono fun _ z=>z.elim)).trans f2,by rw [take_keeps a b hx,if_pos hkp,List.length_append];unfold stL;rw [List.flatMap_append];simpa [stL] using hr⟩:Fr Λ Λ2 (· = lent) w w2/\Row w2 Λ2 lent 29 6 v' ((l.take (q+1)).filter (keeps a b)).length (stL ((l.take (q+1)).filter (keeps a b)))))
      have hS:=hid' (fun (hkp:keeps a b x=false)=>(by rw [take_keeps a b hx,if_neg (by rw [hkp];simp),List.append_nil];exact hV.out.2.fr ((Fr.refl Λr (fun _=>False) wr).alloc _) fun z=>z:Row (wr.alloc (.cells x.cells.toArray 29)) Λr lent 29 6 (.slice vo ((l.take q).filter (keeps a b)).length vc) ((l.take (q+1)).filter (keeps a b)).length (stL ((l.take (q+1)).filter (keeps a b)))))
      clear fX
      by_cases hk3:x.kind=3
      · obtain ⟨kd,xw,xa,xb,xc,xo,xn,xq⟩:=x
        have hk4:kd=3:=hk3
        subst hk4
        dsimp only at d0 d1 d2 d3 d4 d5
        clear hk3
        by_cases ha:a<=xa
        · by_cases hb:xa<=b
          · have hkp:keeps a b ⟨3,xw,xa,xb,xc,xo,xn,xq⟩=true:=by simp [keeps,ha,hb]
            go_wp2_with (at_builtin;refine park ?_)
            refine append_list (c:=1) (p:=⟨wr.heap.size+1,0,none⟩) (m:=1) (news:=(Stp.mk 3 xw xa xb xc xo xn xq).cells) slotSt slotSt.und _ _ rfl rfl hT.out rfl rfl rfl HN.out (Stp.mk 3 xw xa xb xc xo xn xq).one (by unfold maxLen;omega) (by omega) (fun v' w2 Λ2 hF2 hR2=>?_)
            obtain ⟨vo',vc',rfl⟩:=hR2.slice
            have hfin:=hid' (hJ.out _ _ _ hkp hF2 hR2)
            clear hF2 hR2
            go_wp2
            go_roundw
            all_goals first
              | exact ⟨q+1,Λ2,by omega,by go_num,hfin.out.1,hfin.out.2⟩
              | (simp [intOf];omega)
          · have hkp:keeps a b ⟨3,xw,xa,xb,xc,xo,xn,xq⟩=false:=by simp [keeps,ha,hb]
            go_wp2
            go_roundw
            all_goals first
              | exact ⟨q+1,Λr,by omega,by go_num,hV.out.1.trans (Fr.alloc' _ _),hS.out hkp⟩
              | (simp [intOf];omega)
        · have hkp:keeps a b ⟨3,xw,xa,xb,xc,xo,xn,xq⟩=false:=by simp [keeps,ha]
          go_wp2
          go_roundw
          all_goals first
            | exact ⟨q+1,Λr,by omega,by go_num,hV.out.1.trans (Fr.alloc' _ _),hS.out hkp⟩
            | (simp [intOf];omega)
      · have hkp:keeps a b x=true:=by simp [keeps,hk3]
        go_wp2_with (at_builtin;refine park ?_)
        refine append_list (c:=1) (p:=⟨wr.heap.size+1,0,none⟩) (m:=1) (news:=x.cells) slotSt slotSt.und _ _ rfl rfl hT.out rfl rfl rfl HN.out x.one (by unfold maxLen;omega) (by omega) (fun v' w2 Λ2 hF2 hR2=>?_)
        obtain ⟨vo',vc',rfl⟩:=hR2.slice
        have hfin:=hid' (hJ.out _ _ _ hkp hF2 hR2)
        clear hF2 hR2
        go_wp2
        go_roundw
        all_goals first
          | exact ⟨q+1,Λ2,by omega,by go_num,hfin.out.1,hfin.out.2⟩
          | (simp [intOf];omega)
    · have hqn:q=n:=by omega
      have hall:l.take q=l:=List.take_of_length_le (by omega)
      rw [hall] at hR
      obtain ⟨vo,vc,rfl⟩:=hR.slice
      have hV:=hid' (And.intro hF hR)
      clear hF hR
      go_wp2
      go_ret
      exact ⟨_,Λr,rfl,hV.out⟩
theorem lone_only_nil (o:Option Addr)(c:Nat):Calls Tryz.L 22 #[.slice o 0 c,.int .i64 a,.int .i64 b] w fun e w'=>e=.returned (.slice none 0 0)/\Same w w':=by
  go_enter LL.func22,Tryz.ntmps22
  go_wp2
  refine wp_loop_rounds 1 ?_
  rw [rounds_succ]
  go_wp2
  go_ret
  exact ⟨rfl,Same.refl w⟩
end
end
section
section
variable {w:World}{Λ:Lab}{c m on oc:Nat}{oo:Option Addr}{W A B C:Int}{R:World->Prop}
noncomputable def askW (w:World) (c m:Nat) (x:Stp):World:=(w.alloc (.cells #[.pointer (some ⟨c,0,none⟩),.pointer (some ⟨m,0,none⟩)] 134)).alloc (.cells x.cells.toArray 29)
noncomputable def askΛ (w:World) (Λ:Lab):Lab:=fun x=>if x=w.heap.size∨x=w.heap.size+1 then still else Λ x
theorem askFr {x:Stp}:Fr Λ (askΛ w Λ) (fun _=>False) w (askW w c m x):=(((Fr.refl Λ _ w).alloc _).alloc _).relab fun x hx=>if_neg (by omega)
theorem ask_p {x:Stp}:At (askW w c m x) (askΛ w Λ) still w.heap.size (.cells #[.pointer (some ⟨c,0,none⟩),.pointer (some ⟨m,0,none⟩)] 134):=by
  refine ⟨?_,if_pos (.inl rfl)⟩
  unfold askW
  rw [alloc_get,if_neg (by rw [alloc_size];omega),alloc_get,if_pos rfl]
theorem ask_o {x:Stp}:At (askW w c m x) (askΛ w Λ) still (w.heap.size+1) (.cells x.cells.toArray 29):=by
  refine ⟨?_,if_pos (.inr rfl)⟩
  unfold askW
  rw [alloc_get,if_pos (by rw [alloc_size])]
set_option maxHeartbeats 2000000 in
theorem lone_asked_bag (h:Calls Tryz.L 108 #[.agg #[.pointer (some ⟨c,0,none⟩),.pointer (some ⟨m,0,none⟩)]] (askW w c m ⟨4,W,A,B,C,oo,on,oc⟩) fun e w'=>e=.returned (.bool true)/\R w') :
    Calls Tryz.L 69 #[.agg #[.pointer (some ⟨c,0,none⟩),.pointer (some ⟨m,0,none⟩)],.agg #[.int .i64 4,.int .i64 W,.int .i64 A,.int .i64 B,.int .i64 C,.slice oo on oc]] w fun e w'=>e=.returned (.bool true)/\R w':=by
  have h':=hid' h
  clear h
  go_enter LL.func69,Tryz.ntmps69
  go_wp2_with fail
  refine h'.out.mono ?_
  rintro e w' ⟨rfl,hR⟩
  have hR':=hid' hR
  clear hR h'
  go_wp2
  go_ret
  exact ⟨rfl,hR'.out⟩
set_option maxHeartbeats 2000000 in
theorem lone_asked_res (h:Calls Tryz.L 109 #[.agg #[.pointer (some ⟨c,0,none⟩),.pointer (some ⟨m,0,none⟩)],.int .i64 B] (askW w c m ⟨5,W,A,B,C,oo,on,oc⟩) fun e w'=>e=.returned (.bool true)/\R w') :
    Calls Tryz.L 69 #[.agg #[.pointer (some ⟨c,0,none⟩),.pointer (some ⟨m,0,none⟩)],.agg #[.int .i64 5,.int .i64 W,.int .i64 A,.int .i64 B,.int .i64 C,.slice oo on oc]] w fun e w'=>e=.returned (.bool true)/\R w':=by
  have h':=hid' h
  clear h
  go_enter LL.func69,Tryz.ntmps69
  go_wp2_with fail
  refine h'.out.mono ?_
  rintro e w' ⟨rfl,hR⟩
  have hR':=hid' hR
  clear hR h'
  go_wp2
  go_ret
  exact ⟨rfl,hR'.out⟩
set_option maxHeartbeats 2000000 in
theorem lone_asked_vals (h:Calls Tryz.L 112 #[.agg #[.pointer (some ⟨c,0,none⟩),.pointer (some ⟨m,0,none⟩)],.int .i64 B] (askW w c m ⟨7,W,A,B,C,oo,on,oc⟩) fun e w'=>e=.returned (.bool true)/\R w') :
    Calls Tryz.L 69 #[.agg #[.pointer (some ⟨c,0,none⟩),.pointer (some ⟨m,0,none⟩)],.agg #[.int .i64 7,.int .i64 W,.int .i64 A,.int .i64 B,.int .i64 C,.slice oo on oc]] w fun e w'=>e=.returned (.bool true)/\R w':=by
  have h':=hid' h
  clear h
  go_enter LL.func69,Tryz.ntmps69
  go_wp2_with fail
  refine h'.out.mono ?_
  rintro e w' ⟨rfl,hR⟩
  have hR':=hid' hR
  clear hR h'
  go_wp2
  go_ret
  exact ⟨rfl,hR'.out⟩
set_option maxHeartbeats 2000000 in
theorem lone_asked_locks (h:Calls Tryz.L 113 #[.agg #[.pointer (some ⟨c,0,none⟩),.pointer (some ⟨m,0,none⟩)],.int .i64 B] (askW w c m ⟨8,W,A,B,C,oo,on,oc⟩) fun e w'=>e=.returned (.bool true)/\R w') :
    Calls Tryz.L 69 #[.agg #[.pointer (some ⟨c,0,none⟩),.pointer (some ⟨m,0,none⟩)],.agg #[.int .i64 8,.int .i64 W,.int .i64 A,.int .i64 B,.int .i64 C,.slice oo on oc]] w fun e w'=>e=.returned (.bool true)/\R w':=by
  have h':=hid' h
  clear h
  go_enter LL.func69,Tryz.ntmps69
  go_wp2_with fail
  refine h'.out.mono ?_
  rintro e w' ⟨rfl,hR⟩
  have hR':=hid' hR
  clear hR h'
  go_wp2
  go_ret
  exact ⟨rfl,hR'.out⟩
set_option maxHeartbeats 2000000 in
theorem lone_asked_recs (h:Calls Tryz.L 114 #[.agg #[.pointer (some ⟨c,0,none⟩),.pointer (some ⟨m,0,none⟩)],.int .i64 B] (askW w c m ⟨9,W,A,B,C,oo,on,oc⟩) fun e w'=>e=.returned (.bool true)/\R w') :
    Calls Tryz.L 69 #[.agg #[.pointer (some ⟨c,0,none⟩),.pointer (some ⟨m,0,none⟩)],.agg #[.int .i64 9,.int .i64 W,.int .i64 A,.int .i64 B,.int .i64 C,.slice oo on oc]] w fun e w'=>e=.returned (.bool true)/\R w':=by
  have h':=hid' h
  clear h
  go_enter LL.func69,Tryz.ntmps69
  go_wp2_with fail
  refine h'.out.mono ?_
  rintro e w' ⟨rfl,hR⟩
  have hR':=hid' hR
  clear hR h'
  go_wp2
  go_ret
  exact ⟨rfl,hR'.out⟩
set_option maxHeartbeats 2000000 in
theorem lone_asked_up {k:Nat}{dv:Value}{up:Bool}{S:World->Lab->Prop}(hat:Calls Tryz.L 110 #[.pointer (some ⟨m,0,none⟩),.int .i64 B] (askW w c m ⟨6,W,A,B,C,oo,on,oc⟩) fun e w'=>e=.returned dv/\Fr (askΛ w Λ) (askΛ w Λ) (fun _=>False) (askW w c m ⟨6,W,A,B,C,oo,on,oc⟩) w')
    (hup:∀ u,Fr Λ (askΛ w Λ) (fun _=>False) w u->Calls Tryz.L 111 #[.pointer (some ⟨c,0,none⟩),.int .i64 B] u fun e w'=>e=.returned (.bool up)/\∃ Λ',Fr (askΛ w Λ) Λ' (mine k) u w'/\S w' Λ') (hk:0<k)
    (hdv:(dv=.pointer none/\up=false)∨∃ σ db dcells fd,dv=.pointer (some ⟨db,0,none⟩)/\At w Λ σ db (.cells dcells 59 fd)/\¬ mine k σ/\dcells[2]? = some (.bool up)) :
    Calls Tryz.L 69 #[.agg #[.pointer (some ⟨c,0,none⟩),.pointer (some ⟨m,0,none⟩)],.agg #[.int .i64 6,.int .i64 W,.int .i64 A,.int .i64 B,.int .i64 C,.slice oo on oc]] w fun e w'=>e=.returned (.bool true)/\∃ Λ',Fr Λ Λ' (mine k) w w'/\S w' Λ':=by
  have hA:=hid' hat
  have hU:=hid' hup
  have hp:=hid' (And.intro (ask_p (w:=w) (Λ:=Λ) (c:=c) (m:=m) (x:=⟨6,W,A,B,C,oo,on,oc⟩)) (ask_o (w:=w) (Λ:=Λ) (c:=c) (m:=m) (x:=⟨6,W,A,B,C,oo,on,oc⟩)))
  clear hat hup
  rcases hdv with ⟨rfl,rfl⟩|⟨σ,db,dcells,fd,rfl,hdb,hσ,hd2⟩
  · go_enter LL.func69,Tryz.ntmps69
    go_wp2_with fail
    refine hA.out.mono ?_
    rintro e w1 ⟨rfl,f1⟩
    have b0:w1.cell? ⟨w.heap.size,0,none⟩=some (.pointer (some ⟨c,0,none⟩)):=(hp.out.1.fr f1 fun z=>z).cell rfl
    have b3:w1.cell? ⟨w.heap.size+1,3,none⟩=some (.int .i64 B):=(hp.out.2.fr f1 fun z=>z).cell rfl
    have f01:=hid' (askFr.trans f1:Fr Λ (askΛ w Λ) (fun _=>False) w w1)
    have hU1:=hid' (hU.out w1 f01.out)
    clear f1 hA hU hp
    go_wp2_with fail
    refine hU1.out.mono ?_
    rintro e w2 ⟨rfl,Λ2,f2,hS⟩
    have hZ:=hid' (And.intro ((f01.out.mono fun _ z=>z.elim).trans f2) hS)
    clear f2 hS hU1 b0 b3
    go_wp2
    go_ret
    exact ⟨rfl,Λ2,hZ.out.1,hZ.out.2⟩
  · have hX:=hid' hdb
    clear hdb
    go_enter LL.func69,Tryz.ntmps69
    go_wp2_with fail
    refine hA.out.mono ?_
    rintro e w1 ⟨rfl,f1⟩
    have b0:w1.cell? ⟨w.heap.size,0,none⟩=some (.pointer (some ⟨c,0,none⟩)):=(hp.out.1.fr f1 fun z=>z).cell rfl
    have b3:w1.cell? ⟨w.heap.size+1,3,none⟩=some (.int .i64 B):=(hp.out.2.fr f1 fun z=>z).cell rfl
    have f01:=hid' (askFr.trans f1:Fr Λ (askΛ w Λ) (fun _=>False) w w1)
    have hU1:=hid' (hU.out w1 f01.out)
    clear f1 hA hU hp
    go_wp2_with fail
    refine hU1.out.mono ?_
    rintro e w2 ⟨rfl,Λ2,f2,hS⟩
    have f02:Fr Λ Λ2 (mine k) w w2:=(f01.out.mono fun _ z=>z.elim).trans f2
    have d2:w2.cell? ⟨db,2,none⟩=some (.bool up):=(hX.out.fr f02 hσ).cell hd2
    have hZ:=hid' (And.intro f02 hS)
    clear f2 hS hU1 b0 b3 f02
    cases up
    · go_wp2
      go_ret
      exact ⟨rfl,Λ2,hZ.out.1,hZ.out.2⟩
    · go_wp2
      go_ret
      exact ⟨rfl,Λ2,hZ.out.1,hZ.out.2⟩
end
end
section
section
variable {w w':World}{Λ Λ':Lab}{j c m D N:Nat}{l:List Msg}{T:List Txn}{stop:Bool}{sh tx bg v:Value}{ss ts bs:List Value}{dsh dbag dtxs:Value}{rs rb rt:List Value}{cp s r:Nat}{W A B C:Int}{oo:Option Addr}{on oc:Nat}
def AskOut (w:World) (Λ:Lab) (j c m D:Nat) (stop:Bool) (e:Ending) (w':World):Prop:=e=.returned (.bool true)/\∃ Λ',Fr Λ Λ' (stepM j) w w'/\PairAny w' Λ' j c m D stop
theorem Pr.any (h:Pr w Λ j c m D N l T stop sh tx bg ss ts bs dsh dbag dtxs rs rb rt cp s r):PairAny w Λ j c m D stop:=⟨_,_,_,_,_,_,_,_,_,_,_,_,_,_,_,_,_,_,h⟩
theorem AskOut.of {w1:World}{Λ1:Lab}(h:Pr w Λ j c m D N l T stop sh tx bg ss ts bs dsh dbag dtxs rs rb rt cp s r)(f:Fr Λ Λ1 (fun _=>False) w w1)(g:Fr Λ1 Λ' (mineS (3*j+1)) w1 w')(hc:Clu w' Λ' (3*j+1) c N T.length l.length 0 sh tx bg D ss ts bs):∃ Λ',Fr Λ Λ' (stepM j) w w'/\PairAny w' Λ' j c m D stop:=
  ⟨Λ',((f.mono fun _ z=>z.elim).trans g).mono fun r hr=>mineS_step hr,(h.cl ((f.mono fun _ z=>z.elim).trans g) hc).any⟩
theorem pair_bag (h:Pr w Λ j c m D N l T stop sh tx bg ss ts bs dsh dbag dtxs rs rb rt cp s r) :
    Calls Tryz.L 69 #[.agg #[.pointer (some ⟨c,0,none⟩),.pointer (some ⟨m,0,none⟩)],.agg #[.int .i64 4,.int .i64 W,.int .i64 A,.int .i64 B,.int .i64 C,.slice oo on oc]] w (AskOut w Λ j c m D stop):=by
  have f:=askFr (w:=w) (Λ:=Λ) (c:=c) (m:=m) (x:=⟨4,W,A,B,C,oo,on,oc⟩)
  have h1:=h.fr f fun _ _ z=>z
  exact lone_asked_bag ((lone_lawBag (by omega) (by omega) (by omega) h1.clu rfl h1.msgs h1.doc h1.refs h1.ok (by have:=h.l400;omega)).mono fun e w' ⟨k1,Λ',k2,k3⟩=>⟨k1,AskOut.of h f k2 k3⟩)
theorem pair_result (h:Pr w Λ j c m D N l T stop sh tx bg ss ts bs dsh dbag dtxs rs rb rt cp s r) :
    Calls Tryz.L 69 #[.agg #[.pointer (some ⟨c,0,none⟩),.pointer (some ⟨m,0,none⟩)],.agg #[.int .i64 5,.int .i64 W,.int .i64 A,.int .i64 B,.int .i64 C,.slice oo on oc]] w (AskOut w Λ j c m D stop):=by
  have f:=askFr (w:=w) (Λ:=Λ) (c:=c) (m:=m) (x:=⟨5,W,A,B,C,oo,on,oc⟩)
  have h1:=h.fr f fun _ _ z=>z
  have hk:0<3*j+1:=by omega
  have hl:lent.1≠3*j+1:=by simp [lent]
  have hst:¬ mineL (3*j+1) still:=fun z=>not_mineS hk (mineL_S z)
  by_cases hB:0<=B/\B<T.length
  · obtain ⟨i,rfl⟩:∃ i:Nat,B=i:=⟨B.toNat,by omega⟩
    have hi:i<T.length:=by omega
    obtain ⟨x,hx⟩:∃ x,T[i]? = some x:=⟨_,List.getElem?_eq_getElem hi⟩
    obtain ⟨oc',rc',od',rd',hin⟩:=h1.txs i x hx
    have hxo:=h.txOk x (List.mem_of_getElem? hx)
    exact lone_asked_res ((lone_lawResult (st:=x.state) (n:=x.reads.length) (l:=x.reads) hk h1.clu (fun u Λu fu=>doc_result_yes (h1.doc.fr fu fun _ _ z=>z) hi hin.d1 hin.d2 (by have:=h.T60;omega)) (fun u Λu fu hc=>lone_result_yes hl (by decide) hk hc hi h.T60 hin.c1 hin.c2 (hin.rdsC.fr fu hst) (by simp [still]) (by have:=hxo.rds6;omega)) hin.rdsD hst hxo.rds (by have:=hxo.rds6;omega)).mono fun e w' ⟨k1,Λ',k2,k3⟩=>⟨k1,AskOut.of h f (k2.mono fun r hr=>mineL_S hr) k3⟩)
  · exact lone_asked_res ((lone_lawResult (st:=0) (n:=0) (l:=[]) hk h1.clu (fun u Λu fu=>doc_result_no (h1.doc.fr fu fun _ _ z=>z) hB) (fun u Λu fu hc=>lone_result_no hl hk hc hB) (Row.nil _ _ still _ _) hst (fun x hx=>by simp at hx) (by omega)).mono fun e w' ⟨k1,Λ',k2,k3⟩=>⟨k1,AskOut.of h f (k2.mono fun r hr=>mineL_S hr) k3⟩)
theorem three_mineS {j a b:Nat}:¬ mineS (3*j+1) (3*j+3,a,b):=three_S _ rfl
theorem doc_at (h:Pr w Λ j c m D N l T stop sh tx bg ss ts bs dsh dbag dtxs rs rb rt cp s r)(B:Int) :
    (¬ (0<=B/\B<N)/\∀ u Λu,Fr Λ Λu (mineS (3*j+1)) w u->Calls Tryz.L 110 #[.pointer (some ⟨m,0,none⟩),.int .i64 B] u fun e w'=>e=.returned (.pointer none)/\Fr Λu Λu (fun _=>False) u w') ∨
    ∃ i b:Nat,B=i/\i<N/\DocShE w Λ (3*j+3) i b N/\∀ u Λu,Fr Λ Λu (mineS (3*j+1)) w u->Calls Tryz.L 110 #[.pointer (some ⟨m,0,none⟩),.int .i64 B] u fun e w'=>e=.returned (.pointer (some ⟨b,0,none⟩))/\Fr Λu Λu (fun _=>False) u w':=by
  by_cases hB:0<=B/\B<N
  · obtain ⟨i,rfl⟩:∃ i:Nat,B=i:=⟨B.toNat,by omega⟩
    have hi:i<N:=by omega
    obtain ⟨b,h1,h2⟩:=h.shD i hi
    exact .inr ⟨i,b,rfl,hi,h2,fun u Λu fu=>doc_at_yes (h.doc.fr fu two_S) hi h1 h.N4⟩
  · exact .inl ⟨hB,fun u Λu fu=>doc_at_no (h.doc.fr fu two_S) hB⟩
theorem pair_up (h:Pr w Λ j c m D N l T stop sh tx bg ss ts bs dsh dbag dtxs rs rb rt cp s r) :
    Calls Tryz.L 69 #[.agg #[.pointer (some ⟨c,0,none⟩),.pointer (some ⟨m,0,none⟩)],.agg #[.int .i64 6,.int .i64 W,.int .i64 A,.int .i64 B,.int .i64 C,.slice oo on oc]] w (AskOut w Λ j c m D stop):=by
  have f:=askFr (w:=w) (Λ:=Λ) (c:=c) (m:=m) (x:=⟨6,W,A,B,C,oo,on,oc⟩)
  have h1:=h.fr f fun _ _ z=>z
  have hk:0<3*j+1:=by omega
  have fin:∀ w' Λ',Fr Λ Λ' (mine (3*j+1)) w w'->Clu w' Λ' (3*j+1) c N T.length l.length 0 sh tx bg D ss ts bs->∃ Λ',Fr Λ Λ' (stepM j) w w'/\PairAny w' Λ' j c m D stop:=fun w' Λ' f1 hc=>AskOut.of h (Fr.refl _ _ _) (f1.mono fun r hr=>mine_S hr) hc
  rcases doc_at h B with ⟨hB,hat⟩|⟨i,b,rfl,hi,hs,hat⟩
  · refine (lone_asked_up (k:=3*j+1) (S:=fun w' Λ'=>Clu w' Λ' (3*j+1) c N T.length l.length 0 sh tx bg D ss ts bs) (hat _ _ (f.mono fun _ z=>z.elim)) (fun u fu=>lone_up_no hk (h.clu.fr fu fun _ _ z=>z) hB) hk (.inl ⟨rfl,rfl⟩)).mono ?_
    rintro e w' ⟨k1,Λ',k2,k3⟩
    exact ⟨k1,fin w' Λ' k2 k3⟩
  · obtain ⟨b',m',W',R',fz,hs1,hs2⟩:=h.shC i hi
    refine (lone_asked_up (k:=3*j+1) (S:=fun w' Λ'=>Clu w' Λ' (3*j+1) c N T.length l.length 0 sh tx bg D ss ts bs) (hat _ _ (f.mono fun _ z=>z.elim)) (fun u fu=>lone_up_yes (σ:=(3*j+3,1,0)) hk (h.clu.fr fu fun _ _ z=>z) hi h.N4 hs1 (hs2.blk.fr fu fun z=>z) (by simp) rfl) hk (.inr ⟨_,_,_,_,rfl,hs.blk,fun z=>three_S _ rfl (mine_S z),rfl⟩)).mono ?_
    rintro e w' ⟨k1,Λ',k2,k3⟩
    exact ⟨k1,fin w' Λ' k2 k3⟩
theorem cnt_nil:cnt0 (List.replicate 26 0) 26=0:=by decide
theorem pair_values (h:Pr w Λ j c m D N l T stop sh tx bg ss ts bs dsh dbag dtxs rs rb rt cp s r) :
    Calls Tryz.L 69 #[.agg #[.pointer (some ⟨c,0,none⟩),.pointer (some ⟨m,0,none⟩)],.agg #[.int .i64 7,.int .i64 W,.int .i64 A,.int .i64 B,.int .i64 C,.slice oo on oc]] w (AskOut w Λ j c m D stop):=by
  have f:=askFr (w:=w) (Λ:=Λ) (c:=c) (m:=m) (x:=⟨7,W,A,B,C,oo,on,oc⟩)
  have h1:=h.fr f fun _ _ z=>z
  have hk:0<3*j+1:=by omega
  have hp:Calls Tryz.L 157 #[.pointer (some ⟨c,0,none⟩),.int .i64 B] (lawW (askW w c m ⟨7,W,A,B,C,oo,on,oc⟩) c m) (PValsOut (lawW (askW w c m ⟨7,W,A,B,C,oo,on,oc⟩) c m) (lawΛ (askW w c m ⟨7,W,A,B,C,oo,on,oc⟩) (askΛ w Λ)) (3*j+1) c N T.length l.length D sh tx bg ss ts bs (List.replicate 26 0) 0):=
    lone_pvals (ks:=3*j+3) hk (by omega) (h1.clu.fr lawFr fun _ _ z=>z) (h1.shC.fr lawFr fun _ _ z=>z) (by omega) h.N4
  rcases doc_at h1 B with ⟨hB,hat⟩|⟨i,b,rfl,hi,hs,hat⟩
  · exact lone_asked_vals ((lone_lawVals_no hk h1.clu hp hat).mono fun e w' ⟨k1,Λ',k2,k3⟩=>⟨k1,AskOut.of h f k2 k3⟩)
  · refine lone_asked_vals ((lone_lawVals_yes (vs:=List.replicate 26 0) hk h1.clu ?_ hat hs.blk three_mineS rfl hs.vals three_mineS (fun x hx=>by rw [List.eq_of_mem_replicate hx];decide)).mono fun e w' ⟨k1,Λ',k2,k3⟩=>⟨k1,AskOut.of h f k2 k3⟩)
    rw [cnt_nil]
    exact hp
theorem pair_locks (h:Pr w Λ j c m D N l T stop sh tx bg ss ts bs dsh dbag dtxs rs rb rt cp s r) :
    Calls Tryz.L 69 #[.agg #[.pointer (some ⟨c,0,none⟩),.pointer (some ⟨m,0,none⟩)],.agg #[.int .i64 8,.int .i64 W,.int .i64 A,.int .i64 B,.int .i64 C,.slice oo on oc]] w (AskOut w Λ j c m D stop):=by
  have f:=askFr (w:=w) (Λ:=Λ) (c:=c) (m:=m) (x:=⟨8,W,A,B,C,oo,on,oc⟩)
  have h1:=h.fr f fun _ _ z=>z
  have hk:0<3*j+1:=by omega
  have hp:Calls Tryz.L 158 #[.pointer (some ⟨c,0,none⟩),.int .i64 B] (lawW (askW w c m ⟨8,W,A,B,C,oo,on,oc⟩) c m) (PLocksOut (lawW (askW w c m ⟨8,W,A,B,C,oo,on,oc⟩) c m) (lawΛ (askW w c m ⟨8,W,A,B,C,oo,on,oc⟩) (askΛ w Λ)) (3*j+1) c N T.length l.length D sh tx bg ss ts bs (List.replicate 26 (-1)) 0):=
    lone_plocks (ks:=3*j+3) hk (by omega) (h1.clu.fr lawFr fun _ _ z=>z) (h1.shC.fr lawFr fun _ _ z=>z) (by omega) h.N4
  rcases doc_at h1 B with ⟨hB,hat⟩|⟨i,b,rfl,hi,hs,hat⟩
  · exact lone_asked_locks ((lone_lawLocks_no hk hp hat).mono fun e w' ⟨k1,Λ',k2,k3⟩=>⟨k1,AskOut.of h f k2 k3⟩)
  · exact lone_asked_locks ((lone_lawLocks_yes (lk:=[]) (nl:=0) hk hp hat hs.blk three_mineS rfl (Row.nil _ _ still _ _) rfl (not_mineS hk) (fun p hp=>by simp at hp) (by omega)).mono fun e w' ⟨k1,Λ',k2,k3⟩=>⟨k1,AskOut.of h f k2 k3⟩)
theorem pair_records (h:Pr w Λ j c m D N l T stop sh tx bg ss ts bs dsh dbag dtxs rs rb rt cp s r) :
    Calls Tryz.L 69 #[.agg #[.pointer (some ⟨c,0,none⟩),.pointer (some ⟨m,0,none⟩)],.agg #[.int .i64 9,.int .i64 W,.int .i64 A,.int .i64 B,.int .i64 C,.slice oo on oc]] w (AskOut w Λ j c m D stop):=by
  have f:=askFr (w:=w) (Λ:=Λ) (c:=c) (m:=m) (x:=⟨9,W,A,B,C,oo,on,oc⟩)
  have h1:=h.fr f fun _ _ z=>z
  have hk:0<3*j+1:=by omega
  have hrec:∀ u Λu,Fr (askΛ w Λ) Λu (mineS (3*j+1)) (askW w c m ⟨9,W,A,B,C,oo,on,oc⟩) u->Clu u Λu (3*j+1) c N T.length l.length 0 sh tx bg D ss ts bs->Calls Tryz.L 159 #[.pointer (some ⟨c,0,none⟩),.int .i64 B] u (RecsNone u Λu (3*j+1) c N T.length l.length D sh tx bg ss ts bs):=fun u Λu fu hc=>lone_Records_none (ks:=3*j+3) hk (by omega) hc (h1.shC.fr fu three_S) (by omega) h.N4
  rcases doc_at h1 B with ⟨hB,hat⟩|⟨i,b,rfl,hi,hs,hat⟩
  · exact lone_asked_recs ((lone_lawRecs hk h1.clu hat (.inl rfl) hrec).mono fun e w' ⟨k1,Λ',k2,k3⟩=>⟨k1,AskOut.of h f k2 k3⟩)
  · exact lone_asked_recs ((lone_lawRecs hk h1.clu hat (.inr ⟨_,_,_,_,rfl,hs.blk,three_mineS,rfl,rfl⟩) hrec).mono fun e w' ⟨k1,Λ',k2,k3⟩=>⟨k1,AskOut.of h f k2 k3⟩)
theorem pair_asked {K:Int}(hK:K=4∨K=5∨K=6∨K=7∨K=8∨K=9)(h:PairAny w Λ j c m D stop) :
    Calls Tryz.L 69 #[.agg #[.pointer (some ⟨c,0,none⟩),.pointer (some ⟨m,0,none⟩)],.agg #[.int .i64 K,.int .i64 W,.int .i64 A,.int .i64 B,.int .i64 C,.slice oo on oc]] w (AskOut w Λ j c m D stop):=by
  obtain ⟨N,l,T,sh,tx,bg,ss,ts,bs,dsh,dbag,dtxs,rs,rb,rt,cp,s,r,h⟩:=h
  rcases hK with rfl|rfl|rfl|rfl|rfl|rfl
  · exact pair_bag h
  · exact pair_result h
  · exact pair_up h
  · exact pair_values h
  · exact pair_locks h
  · exact pair_records h
end
end
section
def roleOf (j:Nat):Obj->Role
  | .cells _ e _=>if e=94 then (3*j+1,0,0) else if e=100 then (3*j+1,1,0) else if e=154 then (3*j+3,1,0) else if e=51 then (3*j+2,0,0) else if e=52 then (3*j+2,1,0) else if e=59 then (3*j+3,4,0) else if e=3 then (3*j+3,5,0) else still
  | .chan ..=>(3*j+3,0,0)
  | .map ..=>(3*j+3,2,0)
  | _=>still
def bornΛ (j n:Nat) (w:World) (Λ:Lab):Lab:=fun x=>if x<n then Λ x else match w.heap[x]? with
  | some o=>roleOf j o
  | none=>still
section
variable {v v1 u v2:World}{Λ:Lab}{j N m:Nat}{ms:List Member}{pos:Nat->Nat}{dsh:Value}{dss:List Nat}
theorem born_at {n x:Nat}{w:World}{o:Obj}{ρ:Role}(h:w.heap[x]? = some o)(hx:n<=x)(hr:roleOf j o=ρ):At w (bornΛ j n w Λ) ρ x o:=by
  refine ⟨h,?_⟩
  unfold bornΛ
  rw [if_neg (by omega),h]
  exact hr
theorem born_row {n base size k:Nat}{w:World}{e:TypeId}{sl:Value}{xs:List Value}{ρ:Role}(h:w.ownsRow base e size sl k xs)(hb:n<=base)(hr:∀ c f,roleOf j (.cells c e f)=ρ):Row w (bornΛ j n w Λ) ρ e size sl k xs:=by
  refine ⟨own_zero h,fun b hb'=>?_⟩
  have hlt:=h.lt b hb'
  obtain ⟨cur,hc⟩:=elem_of h hb'
  unfold bornΛ
  rw [if_neg (by omega),hc]
  exact hr _ _
theorem NewAt.posLe {k cb c D:Nat}(h:NewAt v v1 N k cb c D ms pos):∀ i,i<=k->v.heap.size+3<=pos i
  | 0,_=>h.first
  | i+1,hi=>Nat.le_trans (h.posLe i (by omega)) (h.mono i (by omega))
theorem pair_born (h1:1<=N)(h4:N<=4)(hA:NewAt v v1 N N (v.heap.size+2) (v.heap.size+1) v.heap.size ms pos)(hu:u.heap=v1.heap)(huo:u.os=v1.os)(hM:NewRef u v2 m N dsh dss)(hl:dss.length=N)(hs:∀ i s,dss[i]? = some s->m<s/\RS v2 i N s) :
    Fr Λ (bornΛ j v.heap.size v2 Λ) (fun _=>False) v v2/\PairAny v2 (bornΛ j v.heap.size v2 Λ) j (v.heap.size+1) m v.heap.size false:=by
  have hk:∀ {x:Nat} {o:Obj},v1.heap[x]? = some o->v2.heap[x]? = some o:=fun {x o} hx=>by
    have hlt:=(Array.getElem?_eq_some_iff.1 hx).1
    rw [hM.grown.heap x (by rw [hu];exact hlt),hu]
    exact hx
  have hsz:v.heap.size+3<=v1.heap.size:=hA.size
  have hmge:v1.heap.size<=m:=by have:=hM.ge;rw [hu] at this;exact this
  have hms:=hA.len
  obtain ⟨sl,k1,k2,k3⟩:=hA.cell
  have k2':v2.ownsRow (v.heap.size+3) 100 1 sl N (ms.map fun x=>.pointer (some ⟨x.s,0,none⟩)):=own_more k2 (Nat.le_refl _) fun b hb=>by
    rw [hM.grown.heap b (by rw [hu];exact (k2.lt b hb).2),hu]
  refine ⟨⟨by have:=hM.grown.size;rw [hu] at this;omega,fun x hx _=>?_,fun x hx=>if_pos hx,?_⟩,N,[],[],sl,.slice none 0 0,.slice none 0 0,ms.map fun x=>.pointer (some ⟨x.s,0,none⟩),[],[],dsh,.slice none 0 0,.slice none 0 0,dss.map fun s=>.pointer (some ⟨s,0,none⟩),[],[],0,0,0,?_⟩
  · rw [hM.grown.heap x (by rw [hu];omega),hu]
    exact hA.old x hx
  · rw [hM.grown.os,huo]
    exact hA.os
  exact {
    clu:=⟨born_at (hk k1) (by omega) rfl,born_row k2' (by omega) fun _ _=>rfl,Row.nil _ _ _ _ _,Row.nil _ _ _ _ _⟩
    doc:=⟨born_at hM.cell (by omega) rfl,born_row hM.row (by omega) fun _ _=>rfl,Row.nil _ _ _ _ _,Row.nil _ _ _ _ _⟩
    msgs:=fun i x hx=>by simp at hx
    refs:=fun i x hx=>by simp at hx
    ok:=fun x hx=>by simp at hx
    oneB:=fun u hu=>by simp at hu
    oneR:=fun u hu=>by simp at hu
    txs:=fun i x hx=>by simp at hx
    txOk:=fun x hx=>by simp at hx
    shC:=fun i hi=>by
      obtain ⟨x,hx⟩:∃ x,ms[i]? = some x:=⟨_,List.getElem?_eq_getElem (by omega)⟩
      obtain ⟨mm,R,q⟩:=hA.shards i x hx
      have hp:=hA.posLe i (by omega)
      have hg:=q.ge
      refine ⟨x.s,mm,x.W,R,(16,17),by rw [List.getElem?_map,hx];rfl,born_at (hk q.cells) (by omega) rfl,born_at (hk (q.maps 0 (by omega))) (by omega) rfl,born_at (hk (q.maps 1 (by omega))) (by omega) rfl⟩
    shD:=fun i hi=>by
      obtain ⟨x,hx⟩:∃ x,dss[i]? = some x:=⟨_,List.getElem?_eq_getElem (by omega)⟩
      obtain ⟨q1,q2,cur,q3,q4⟩:=hs i x hx
      refine ⟨x,by rw [List.getElem?_map,hx];rfl,born_at q2 (by omega) rfl,?_,fun b hb=>?_⟩
      · refine ⟨by decide,.inr ⟨x+1,26,cur,rfl,Nat.zero_le _,q3,Nat.le_refl _,by decide,?_,?_⟩⟩
        · have:=congrArg List.length q4
          rw [Array.length_toList] at this
          rw [this]
          decide
        · rw [q4,List.take_of_length_le (by decide)]
      · cases hb
        exact (born_at (j:=j) (Λ:=Λ) q3 (by omega) rfl).lab
    done:=born_at (hk hA.done) (Nat.le_refl _) rfl
    N1:=h1
    N4:=h4
    T60:=by simp
    l400:=by simp }
end
end
end Go.Proofs.Shardlog
namespace Go.Proofs.Shardlog
open Go Go.Conc Go.Tame Go.Proofs Go.RowKit
section
def pkN (x:Int) (n:Nat):Nat:=((if x<0 then -(x+1) else x) % (n:Int)).toNat
theorem pkN_lt (x:Int){n:Nat}(hn:0<n):pkN x n<n:=by
  unfold pkN
  have h1:=Int.emod_lt_of_pos (if x<0 then -(x+1) else x) (show (0:Int)<n by omega)
  have h2:=Int.emod_nonneg (if x<0 then -(x+1) else x) (show (n:Int)≠0 by omega)
  omega
theorem lone_pick {w:World}{x:Int}{n:Nat}(hx : -9223372036854775808<=x/\x<=9223372036854775807)(hn:0<n)(hn':n<=1152921504606846976):Calls Tryz.L 15 #[.int .i64 x,.int .i64 n] w fun e w'=>e=.returned (.int .i64 (pkN x n))/\w'=w:=by
  obtain ⟨h1,h2⟩:=hx
  have hn0:((n:Int) == 0)=false:=by simp;omega
  have e:∀ y:Int,0<=y->y<=9223372036854775807->IntKind.i64.wrap (y.tmod n)=y % (n:Int):=fun y hy hy'=>by
    rw [Int.tmod_eq_emod_of_nonneg hy]
    have a1:=Int.emod_lt_of_pos y (show (0:Int)<n by omega)
    have a2:=Int.emod_nonneg y (show (n:Int)≠0 by omega)
    simp only [IntKind.wrap,IntKind.bits,IntKind.signed]
    simp
    omega
  by_cases h0:x<0
  · have e2:((pkN x n:Nat):Int)=(-(x+1)) % (n:Int):=by
      unfold pkN
      rw [if_pos h0,Int.toNat_of_nonneg (Int.emod_nonneg _ (by omega))]
    have e1:=e (-(x+1)) (by omega) (by omega)
    have e3:IntKind.i64.wrap (x+1)=x+1:=by simp only [IntKind.wrap,IntKind.bits,IntKind.signed];simp;omega
    have e4:IntKind.i64.wrap (-(x+1)) = -(x+1):=by simp only [IntKind.wrap,IntKind.bits,IntKind.signed];simp;omega
    go_enter LL.func15,Tryz.ntmps15
    go_wp2
    go_ret
    refine ⟨?_,rfl⟩
    rw [e2,← Int.tmod_eq_emod_of_nonneg (by omega),Int.neg_tmod]
    rfl
  · have e2:((pkN x n:Nat):Int)=x % (n:Int):=by
      unfold pkN
      rw [if_neg h0,Int.toNat_of_nonneg (Int.emod_nonneg _ (by omega))]
    have e1:=e x (by omega) (by omega)
    go_enter LL.func15,Tryz.ntmps15
    go_wp2
    go_ret
    refine ⟨?_,rfl⟩
    first
      | rfl
      | (rw [← Int.tmod_eq_emod_of_nonneg (by omega)];rfl)
end
end Go.Proofs.Shardlog
namespace Go.Proofs.Shardlog
open Go Go.Conc Go.Tame Go.Proofs Go.RowKit Go.Mem
section
theorem LL.func35:Tryz.L.funcs[35]? = some Tryz.f35:=LL.funcOf Tryz.func35 (by kernel_rfl)
def pairL (ps:List (Nat × Nat)):List Value:=ps.flatMap fun p=>[.pointer (some ⟨p.1,0,none⟩),.pointer (some ⟨p.2,0,none⟩)]
theorem pairL_get (ps:List (Nat × Nat))(i:Nat)(p:Nat × Nat)(h:ps[i]? = some p):(pairL ps)[i*2]? = some (.pointer (some ⟨p.1,0,none⟩))/\(pairL ps)[i*2+1]? = some (.pointer (some ⟨p.2,0,none⟩)):=by
  induction ps generalizing i with
  | nil=>simp at h
  | cons x l ih=>
    cases i with
    | zero=>
      simp at h
      subst h
      exact ⟨rfl,rfl⟩
    | succ i=>
      simp at h
      obtain ⟨h1,h2⟩:=ih i h
      have e:∀ j,(pairL (x :: l))[(i+1)*2+j]? = (pairL l)[i*2+j]?:=fun j=>by
        show ([Value.pointer (some ⟨x.1,0,none⟩),.pointer (some ⟨x.2,0,none⟩)]++pairL l)[(i+1)*2+j]? = _
        rw [List.getElem?_append_right (by simp;omega)]
        congr 1
        simp
        omega
      exact ⟨(e 0).trans h1,(e 1).trans h2⟩
def rWd:Role:=(0,0,1)
def rPs:Role:=(0,0,2)
structure Wd (w:World) (Λ:Lab) (W:Nat) (v:Value) (ps:List (Nat × Nat)):Prop where
  blk:At w Λ rWd W (.cells #[v] 98 (0,0))
  row:Row w Λ rPs 134 2 v ps.length (pairL ps)
theorem Wd.fr {w w':World}{Λ Λ':Lab}{M:Role->Prop}{W:Nat}{v:Value}{ps:List (Nat × Nat)}(h:Wd w Λ W v ps)(f:Fr Λ Λ' M w w')(h1:¬ M rWd)(h2:¬ M rPs):Wd w' Λ' W v ps:=⟨h.blk.fr f h1,h.row.fr f h2⟩
theorem step_Wd {j:Nat}:¬ stepM j rWd/\¬ stepM j rPs:=by
  refine ⟨?_,?_⟩ <;> (rintro (h|h|h) <;> simp [rWd,rPs,scr] at h)
section
variable {w:World}{Λ:Lab}{E:Nat->Addr}{j c m Wb D on oc:Nat}{stop:Bool}{v:Value}{ps:List (Nat × Nat)}{oo:Option Addr}{K W A B C:Int}
noncomputable def stpW (w:World) (x:Stp):World:=w.alloc (.cells x.cells.toArray 29)
noncomputable def stpU (w:World) (x:Stp) (c m:Nat):World:=((stpW w x).alloc (.cells #[.pointer (some ⟨c,0,none⟩),.pointer (some ⟨m,0,none⟩)] 134)).drew
noncomputable def stpΛ (w:World) (Λ:Lab):Lab:=fun x=>if x=w.heap.size∨x=w.heap.size+1 then still else Λ x
theorem stpFr {x:Stp}:Fr Λ (stpΛ w Λ) (fun _=>False) w (stpU w x c m):=((((Fr.refl Λ _ w).alloc _).alloc _).drew).relab fun x hx=>if_neg (by omega)
theorem stp_o {x:Stp}:At (stpU w x c m) (stpΛ w Λ) still w.heap.size (.cells x.cells.toArray 29):=by
  refine ⟨?_,if_pos (.inl rfl)⟩
  show (((stpW w x).alloc _).heap)[_]? = _
  unfold stpW
  rw [alloc_get,if_neg (by rw [alloc_size];omega),alloc_get,if_pos rfl]
theorem stp_p {x:Stp}:At (stpU w x c m) (stpΛ w Λ) still (w.heap.size+1) (.cells #[.pointer (some ⟨c,0,none⟩),.pointer (some ⟨m,0,none⟩)] 134):=by
  refine ⟨?_,if_pos (.inr rfl)⟩
  show (((stpW w x).alloc _).heap)[_]? = _
  unfold stpW
  rw [alloc_get,if_pos (by rw [alloc_size])]
def StepOut (w:World) (Λ:Lab) (j c m D:Nat) (stop:Bool) (e:Ending) (w':World):Prop:=e=.returned (.bool true)/\∃ Λ',Fr Λ Λ' (stepM j) w w'/\PairAny w' Λ' j c m D stop
set_option maxHeartbeats 8000000 in
theorem lone_step_do (hW : -9223372036854775808<=W/\W<=9223372036854775807)(h:Wd w Λ Wb v ps)(hn:0<ps.length)(hps:ps.length<=2199023255552)(hcm:ps[pkN W ps.length]? = some (c,m))
    (hdo:Calls Tryz.L 67 #[.pointer (some ⟨c,0,none⟩),.int .i64 A,.int .i64 B,.int .i64 C] (stpU w ⟨3,W,A,B,C,oo,on,oc⟩ c m) (DoOut (stpU w ⟨3,W,A,B,C,oo,on,oc⟩ c m) (stpΛ w Λ) j c m D stop A B C)) :
    Calls Tryz.L 35 #[.pointer (some ⟨Wb,0,none⟩),.agg #[.int .i64 3,.int .i64 W,.int .i64 A,.int .i64 B,.int .i64 C,.slice oo on oc]] w (StepOut w Λ j c m D stop):=by
  have hpk:=hid' (fun u:World=>lone_pick (w:=u) hW hn (by omega))
  generalize pkN W ps.length=p at *
  obtain ⟨g1,g2⟩:=pairL_get ps p _ hcm
  obtain ⟨gp,cap,rfl,_⟩:=h.row.some hn
  have x0:w.cell? ⟨Wb,0,none⟩=some (.slice (some ⟨gp,0,none⟩) ps.length cap):=h.blk.cell rfl
  have x1:w.cell? ⟨gp,p*2,none⟩=some (.pointer (some ⟨c,0,none⟩)):=h.row.cell rfl g1
  have x2:w.cell? ⟨gp,p*2+1,none⟩=some (.pointer (some ⟨m,0,none⟩)):=h.row.cell rfl g2
  have y0:(stpW w ⟨3,W,A,B,C,oo,on,oc⟩).cell? ⟨Wb,0,none⟩=some (.slice (some ⟨gp,0,none⟩) ps.length cap):=cell_alloc x0
  have y1:(stpW w ⟨3,W,A,B,C,oo,on,oc⟩).cell? ⟨gp,p*2,none⟩=some (.pointer (some ⟨c,0,none⟩)):=cell_alloc x1
  have y2:(stpW w ⟨3,W,A,B,C,oo,on,oc⟩).cell? ⟨gp,p*2+1,none⟩=some (.pointer (some ⟨m,0,none⟩)):=cell_alloc x2
  have hp:p<ps.length:=(List.getElem?_eq_some_iff.1 hcm).1
  have hD:=hid' hdo
  have ho:=hid' (And.intro (stp_o (w:=w) (Λ:=Λ) (c:=c) (m:=m) (x:=⟨3,W,A,B,C,oo,on,oc⟩)) (stp_p (w:=w) (Λ:=Λ) (c:=c) (m:=m) (x:=⟨3,W,A,B,C,oo,on,oc⟩)))
  clear h g1 g2 hdo
  unfold stpW Stp.cells at y0 y1 y2
  go_enter LL.func35,Tryz.ntmps35
  go_wp2_with fail
  have n0:=World.new_ne _ _ y0
  have n1:=World.new_ne _ _ y1
  have n2:=World.new_ne _ _ y2
  go_region_held3 (fun u=>u.cell? ⟨Wb,0,none⟩=some (.slice (some ⟨gp,0,none⟩) ps.length cap)/\u.cell? ⟨w.heap.size,1,none⟩=some (.int .i64 W)/\u.cell? ⟨gp,p*2,none⟩=some (.pointer (some ⟨c,0,none⟩))/\u.cell? ⟨gp,p*2+1,none⟩=some (.pointer (some ⟨m,0,none⟩))) (first|go_keep)
    (first
      | (go_at_call 15;refine (hpk.out _).mono ?_;rintro e w6 ⟨rfl,rfl⟩))
  all_goals go_wp2_with fail
  all_goals refine hD.out.mono ?_
  all_goals
    rintro e w2 ⟨y,Λ2,rfl,f2,hdoc⟩
    have q1:w2.cell? ⟨w.heap.size,2,none⟩=some (.int .i64 A):=(ho.out.1.fr f2 not_stepM).cell rfl
    have q2:w2.cell? ⟨w.heap.size,3,none⟩=some (.int .i64 B):=(ho.out.1.fr f2 not_stepM).cell rfl
    have q3:w2.cell? ⟨w.heap.size,4,none⟩=some (.int .i64 C):=(ho.out.1.fr f2 not_stepM).cell rfl
    have q4:w2.cell? ⟨w.heap.size+1,1,none⟩=some (.pointer (some ⟨m,0,none⟩)):=(ho.out.2.fr f2 not_stepM).cell rfl
    have hC:=hid' (hdoc w2 rfl rfl)
    have hF:=hid' f2
    clear f2 hdoc
    go_wp2_with fail
  all_goals refine hC.out.mono ?_
  all_goals
    rintro e w4 ⟨rfl,Λ4,f4,hP⟩
    have hZ:=hid' (And.intro ((stpFr.mono fun _ z=>z.elim).trans (hF.out.trans f4)) hP)
    clear f4 hP hC q1 q2 q3 q4
    go_wp2
    go_ret
    exact ⟨rfl,Λ4,hZ.out.1,hZ.out.2⟩
end
end
section
variable {Ω:World}
def sl (b:Bool) (x:Value):Value:=if b=true then x else undef
theorem sl_true (x:Value):sl true x=x:=rfl
def T11 (q:Bool->Value->Value) (K W A B C:Int) (oo:Option Addr) (on oc Wb sz gp cap n p c m:Nat) (d:Nat->Bool):Array Value:=#[.pointer (some ⟨Wb,0,none⟩),.agg #[.int .i64 K,.int .i64 W,.int .i64 A,.int .i64 B,.int .i64 C,.slice oo on oc],undef,.pointer (some ⟨sz,0,none⟩),.bool false,undef,undef,undef,undef,q (d 14) (Value.pointer (some ⟨sz+1,0,none⟩)),undef,undef,undef,undef,undef,undef,undef,.pointer (some ⟨sz,0,none⟩),.int .i64 K,.bool false,undef,undef,undef,undef,undef,undef,undef,undef,undef,undef,undef,undef,undef,undef,undef,undef,undef,undef,undef,undef,undef,undef,undef,undef,undef,undef,undef,undef,undef,undef,undef,undef,undef,undef,undef,undef,.pointer (some ⟨Wb,0,none⟩),.pointer (some ⟨Wb,0,none⟩),.pointer (some ⟨Wb,0,none⟩),.slice (some ⟨gp,0,none⟩) n cap,.int .i64 n,.bool false,q (d 0) (Value.pointer (some ⟨Wb,0,none⟩)),q (d 1) (Value.pointer (some ⟨Wb,0,none⟩)),q (d 2) (Value.pointer (some ⟨Wb,0,none⟩)),q (d 3) (Value.slice (some ⟨gp,0,none⟩) n cap),q (d 4) (Value.pointer (some ⟨sz,1,none⟩)),q (d 5) (Value.int .i64 W),q (d 6) (Value.pointer (some ⟨Wb,0,none⟩)),q (d 7) (Value.pointer (some ⟨Wb,0,none⟩)),q (d 8) (Value.pointer (some ⟨Wb,0,none⟩)),q (d 9) (Value.slice (some ⟨gp,0,none⟩) n cap),q (d 10) (Value.int .i64 n),q (d 11) (Value.int .i64 p),q (d 12) (Value.pointer (some ⟨gp,p*2,none⟩)),q (d 13) (Value.agg #[.pointer (some ⟨c,0,none⟩),.pointer (some ⟨m,0,none⟩)]),undef,undef,undef,undef,undef,undef,undef,undef,undef,undef,undef,undef,undef,undef,undef,undef,undef,undef,undef,undef,undef,undef,undef,undef,undef,undef,undef,undef,undef,undef,undef,undef,undef,undef,undef,undef,undef,undef,undef,undef,undef,undef,undef,undef,undef,undef,undef,undef,undef,undef,undef,undef,undef,undef,undef,undef,undef,undef,undef,undef,undef,undef,undef,undef,undef,undef,undef,undef,undef,undef,undef,undef]
structure St11 (q:Bool->Value->Value) (K W A B C:Int) (oo:Option Addr) (on oc Wb sz gp cap n p c m:Nat) (g:List Rec) (u:World) (d:Nat->Bool) (g':List Rec) (a:Act) (v':World):Prop where
  gh:g'=g
  act:a=⟨T11 q K W A B C oo on oc Wb sz gp cap n p c m d,[]⟩
  grown:Grown u v'
  last:d 15=true->∀ j,j<15->d j=true
  open0:d 14=false->v'.heap=u.heap
  made:d 14=true->d 15=false->v'.heap=(u.alloc (.cells #[.pointer none,.pointer none] 134)).heap
  full:d 15=true->v'.heap=(u.alloc (.cells #[.pointer (some ⟨c,0,none⟩),.pointer (some ⟨m,0,none⟩)] 134)).heap
theorem St11.same {q:Bool->Value->Value}{K W A B C:Int}{oo:Option Addr}{on oc Wb sz gp cap n p c m i:Nat}{g g':List Rec}{u v' v2:World}{d:Nat->Bool}{a a2:Act}(h:St11 q K W A B C oo on oc Wb sz gp cap n p c m g u d g' a v')(hi:i<14)(hd:d i=false)(ha:a2=⟨T11 q K W A B C oo on oc Wb sz gp cap n p c m (updB d i),[]⟩)(hh:v2.heap=v'.heap)(ho:v2.os=v'.os):St11 q K W A B C oo on oc Wb sz gp cap n p c m g u (updB d i) g' a2 v2:=by
  have e:∀ j,i≠j->updB d i j=d j:=fun j hj=>if_neg (Ne.symm hj)
  refine ⟨h.gh,ha,h.grown.trans (Grown.same hh ho),fun h15=>?_,fun h14=>?_,fun h14 h15=>?_,fun h15=>?_⟩
  · rw [e 15 (by omega)] at h15
    have:=h.last h15 i (by omega)
    rw [hd] at this
    cases this
  · rw [e 14 (by omega)] at h14
    rw [hh];exact h.open0 h14
  · rw [e 14 (by omega)] at h14
    rw [e 15 (by omega)] at h15
    rw [hh];exact h.made h14 h15
  · rw [e 15 (by omega)] at h15
    have:=h.last h15 i (by omega)
    rw [hd] at this
    cases this
section
variable {g:List Rec}{u:World}{cs:List Frame}{X:List Rec->Frame->List Frame->World->Prop}{k:List Item}{K W A B C:Int}{oo:Option Addr}{on oc Wb sz gp cap n p c m:Nat}
noncomputable def ops11:Array Oper:=
  #[{ dst:=some 62,op:=.move (.tmp 0),type:=95,pos:= "law.go:245",after:=#[],guard:=none },
    { dst:=some 63,op:=.nilCheck (.tmp 62),type:=0,pos:= "law.go:245",after:=#[{ on:=0,ground:=.data }],guard:=none },
    { dst:=some 64,op:=.fieldAddr 98 (.tmp 63) 0,type:=0,pos:= "law.go:245",after:=#[{ on:=1,ground:=.data }],guard:=none },
    { dst:=some 65,op:=.load 96 (.tmp 64),type:=96,pos:= "law.go:245",after:=#[{ on:=2,ground:=.data }],guard:=none },
    { dst:=some 66,op:=.fieldAddr 29 (.tmp 3) 1,type:=0,pos:= "law.go:245",after:=#[],guard:=none },
    { dst:=some 67,op:=.load 3 (.tmp 66),type:=3,pos:= "law.go:245",after:=#[{ on:=4,ground:=.data }],guard:=none },
    { dst:=some 68,op:=.move (.tmp 0),type:=95,pos:= "law.go:245",after:=#[],guard:=none },
    { dst:=some 69,op:=.nilCheck (.tmp 68),type:=0,pos:= "law.go:245",after:=#[{ on:=6,ground:=.data }],guard:=none },
    { dst:=some 70,op:=.fieldAddr 98 (.tmp 69) 0,type:=0,pos:= "law.go:245",after:=#[{ on:=7,ground:=.data }],guard:=none },
    { dst:=some 71,op:=.load 96 (.tmp 70),type:=96,pos:= "law.go:245",after:=#[{ on:=8,ground:=.data }],guard:=none },
    { dst:=some 72,op:=.call { callee:=.builtin .len,args:=#[.tmp 71],argTypes:=#[96] },type:=3,pos:= "law.go:245",after:=#[{ on:=9,ground:=.data }],guard:=none },
    { dst:=some 73,op:=.call { callee:=.value (.func 15),args:=#[.tmp 67,.tmp 72],argTypes:=#[3,3] },type:=3,pos:= "law.go:245",after:=#[{ on:=5,ground:=.data },{ on:=10,ground:=.data }],guard:=none },
    { dst:=some 74,op:=.indexAddr 96 (.tmp 65) (.tmp 73),type:=0,pos:= "law.go:245",after:=#[{ on:=3,ground:=.data },{ on:=11,ground:=.data }],guard:=none },
    { dst:=some 75,op:=.load 134 (.tmp 74),type:=134,pos:= "law.go:245",after:=#[{ on:=12,ground:=.data }],guard:=none },
    { dst:=some 9,op:=.alloc 134,type:=0,pos:= "law.go:245",after:=#[],guard:=none },
    { dst:=none,op:=.store 134 (.tmp 9) (.tmp 75),type:=0,pos:= "law.go:245",after:=#[{ on:=14,ground:=.data },{ on:=13,ground:=.data },{ on:=11,ground:=.chain },{ on:=0,ground:=.phase },{ on:=1,ground:=.phase },{ on:=2,ground:=.phase },{ on:=3,ground:=.phase },{ on:=4,ground:=.phase },{ on:=5,ground:=.phase },{ on:=6,ground:=.phase },{ on:=7,ground:=.phase },{ on:=8,ground:=.phase },{ on:=9,ground:=.phase },{ on:=10,ground:=.phase },{ on:=11,ground:=.phase },{ on:=12,ground:=.phase },{ on:=13,ground:=.phase },{ on:=14,ground:=.phase }],guard:=none }]
def waitsOf:Nat->List Nat
  | 0=>[]
  | 1=>[0]
  | 2=>[1]
  | 3=>[2]
  | 4=>[]
  | 5=>[4]
  | 6=>[]
  | 7=>[6]
  | 8=>[7]
  | 9=>[8]
  | 10=>[9]
  | 11=>[5,10]
  | 12=>[3,11]
  | 13=>[12]
  | 14=>[]
  | 15=>[0,1,2,3,4,5,6,7,8,9,10,11,12,13,14]
  | _=>[]
theorem waits_all:((List.range 16).all fun i=>(waitsOf i).all fun q=>((ops11[i]?).map (·.after.any fun e=>Region.binds .any e && e.on == q)).getD false)=true:=by kernel_rfl
theorem waits_of {d:Nat->Bool}{i:Nat}(h:waitsDone ops11 d i=true)(hi:i<16)(q:Nat)(hq:q ∈ waitsOf i):d q=true:=by
  have h1:=List.all_eq_true.1 (List.all_eq_true.1 waits_all i (List.mem_range.2 hi)) q hq
  unfold waitsDone at h
  cases ho:ops11[i]? with
  | none=>rw [ho] at h1;cases h1
  | some o=>
    rw [ho] at h h1
    simp only [Option.map_some,Option.getD_some] at h h1
    obtain ⟨e,he,h2⟩:=Array.any_eq_true'.1 h1
    rw [Bool.and_eq_true,beq_iff_eq] at h2
    have h3:=Array.all_eq_true_iff_forall_mem.1 h e he
    rw [h2.1,h2.2] at h3
    simpa using h3
set_option maxHeartbeats 8000000 in
theorem zz_region11 {q:Bool->Value->Value}(hq:∀ x,q true x=x)(hsz:u.heap.size=sz+1)(hW : -9223372036854775808<=W/\W<=9223372036854775807)(hn:0<n)(hn2:n<=2199023255552)(hp:pkN W n=p)(hpn:p<n)(x0:u.cell? ⟨Wb,0,none⟩=some (.slice (some ⟨gp,0,none⟩) n cap))(x1:u.cell? ⟨sz,1,none⟩=some (.int .i64 W))(x2:u.cell? ⟨gp,p*2,none⟩=some (.pointer (some ⟨c,0,none⟩)))(x3:u.cell? ⟨gp,p*2+1,none⟩=some (.pointer (some ⟨m,0,none⟩)))
    (hX:∀ v':World,v'.heap=(u.alloc (.cells #[.pointer (some ⟨c,0,none⟩),.pointer (some ⟨m,0,none⟩)] 134)).heap->v'.os=u.os->CW (ZZ Ω) g ((base 35).at ⟨T11 q K W A B C oo on oc Wb sz gp cap n p c m (fun _=>true),[]⟩ k) cs v' X) :
    CW (ZZ Ω) g ((base 35).at ⟨T11 q K W A B C oo on oc Wb sz gp cap n p c m (fun _=>false),[]⟩ (.code (.region 11 ops11 true) :: k)) cs u X:=by
  refine ZZ.sched (St11 q K W A B C oo on oc Wb sz gp cap n p c m g u) (by kernel_rfl) (fun u' hh ho=>⟨rfl,rfl,Grown.same hh ho,fun h=>by (cases h),fun _=>hh,fun h=>by (cases h),fun h=>by (cases h)⟩) (fun d g' a' v' hd hs=>?_) (fun d i rest g' a' v' hi hd hw hs ih=>?_)
  · obtain rfl:=hs.gh
    have hT:T11 q K W A B C oo on oc Wb sz gp cap n p c m d=T11 q K W A B C oo on oc Wb sz gp cap n p c m (fun _=>true):=by
      have e:∀ j,j<16->d j=true:=fun j hj=>hd j (by rw [show ops11.size=16 by kernel_rfl];exact hj)
      unfold T11
      simp only [e 0 (by decide),e 1 (by decide),e 2 (by decide),e 3 (by decide),e 4 (by decide),e 5 (by decide),e 6 (by decide),e 7 (by decide),e 8 (by decide),e 9 (by decide),e 10 (by decide),e 11 (by decide),e 12 (by decide),e 13 (by decide),e 14 (by decide)]
    rw [hs.act,hT]
    exact hX v' (hs.full (hd 15 (by rw [show ops11.size=16 by kernel_rfl];decide))) hs.grown.os
  · have hi:i<16:=by rw [show ops11.size=16 by kernel_rfl] at hi;exact hi
    have hw':∀ q,q ∈ waitsOf i->d q=true:=fun q hq=>waits_of hw hi q hq
    obtain rfl:=hs.gh
    have x0:=hs.grown.cell x0
    have x1:=hs.grown.cell x1
    have x2:=hs.grown.cell x2
    have x3:=hs.grown.cell x3
    have hact:=hs.act
    rcases i with _|_|_|_|_|_|_|_|_|_|_|_|_|_|_|_|i
    · -- 0
      rw [hact]
      unfold T11
      refine ZZ.mid [] [_] [_,_,_,_,_,_,_,_,_,_,_,_,_,_,_] rfl (by kernel_rfl) (by simp [base]) fun Q u6 hu6 ho6 hQ=>?_
      rw [← cell_heap hu6] at x0 x1 x2 x3
      go_wp2
      exact ih _ _ _ (hs.same (by decide) hd (by unfold T11;simp [updB,hq]) hu6 ho6)
    · -- 1
      have h0:d 0=true:=hw' 0 (by decide)
      rw [hact]
      unfold T11
      simp only [h0,hq]
      refine ZZ.mid [_] [_] [_,_,_,_,_,_,_,_,_,_,_,_,_,_] rfl (by kernel_rfl) (by simp [base]) fun Q u6 hu6 ho6 hQ=>?_
      rw [← cell_heap hu6] at x0 x1 x2 x3
      go_wp2
      exact ih _ _ _ (hs.same (by decide) hd (by unfold T11;simp [updB,hq,h0]) hu6 ho6)
    · -- 2
      have h1:d 1=true:=hw' 1 (by decide)
      rw [hact]
      unfold T11
      simp only [h1,hq]
      refine ZZ.mid [_,_] [_] [_,_,_,_,_,_,_,_,_,_,_,_,_] rfl (by kernel_rfl) (by simp [base]) fun Q u6 hu6 ho6 hQ=>?_
      rw [← cell_heap hu6] at x0 x1 x2 x3
      go_wp2
      exact ih _ _ _ (hs.same (by decide) hd (by unfold T11;simp [updB,hq,h1]) hu6 ho6)
    · -- 3
      have h2:d 2=true:=hw' 2 (by decide)
      rw [hact]
      unfold T11
      simp only [h2,hq]
      refine ZZ.mid [_,_,_] [_] [_,_,_,_,_,_,_,_,_,_,_,_] rfl (by kernel_rfl) (by simp [base]) fun Q u6 hu6 ho6 hQ=>?_
      rw [← cell_heap hu6] at x0 x1 x2 x3
      go_wp2
      exact ih _ _ _ (hs.same (by decide) hd (by unfold T11;simp [updB,hq,h2]) hu6 ho6)
    · -- 4
      rw [hact]
      unfold T11
      refine ZZ.mid [_,_,_,_] [_] [_,_,_,_,_,_,_,_,_,_,_] rfl (by kernel_rfl) (by simp [base]) fun Q u6 hu6 ho6 hQ=>?_
      rw [← cell_heap hu6] at x0 x1 x2 x3
      go_wp2
      exact ih _ _ _ (hs.same (by decide) hd (by unfold T11;simp [updB,hq]) hu6 ho6)
    · -- 5
      have h4:d 4=true:=hw' 4 (by decide)
      rw [hact]
      unfold T11
      simp only [h4,hq]
      refine ZZ.mid [_,_,_,_,_] [_] [_,_,_,_,_,_,_,_,_,_] rfl (by kernel_rfl) (by simp [base]) fun Q u6 hu6 ho6 hQ=>?_
      rw [← cell_heap hu6] at x0 x1 x2 x3
      go_wp2
      exact ih _ _ _ (hs.same (by decide) hd (by unfold T11;simp [updB,hq,h4]) hu6 ho6)
    · -- 6
      rw [hact]
      unfold T11
      refine ZZ.mid [_,_,_,_,_,_] [_] [_,_,_,_,_,_,_,_,_] rfl (by kernel_rfl) (by simp [base]) fun Q u6 hu6 ho6 hQ=>?_
      rw [← cell_heap hu6] at x0 x1 x2 x3
      go_wp2
      exact ih _ _ _ (hs.same (by decide) hd (by unfold T11;simp [updB,hq]) hu6 ho6)
    · -- 7
      have h6:d 6=true:=hw' 6 (by decide)
      rw [hact]
      unfold T11
      simp only [h6,hq]
      refine ZZ.mid [_,_,_,_,_,_,_] [_] [_,_,_,_,_,_,_,_] rfl (by kernel_rfl) (by simp [base]) fun Q u6 hu6 ho6 hQ=>?_
      rw [← cell_heap hu6] at x0 x1 x2 x3
      go_wp2
      exact ih _ _ _ (hs.same (by decide) hd (by unfold T11;simp [updB,hq,h6]) hu6 ho6)
    · -- 8
      have h7:d 7=true:=hw' 7 (by decide)
      rw [hact]
      unfold T11
      simp only [h7,hq]
      refine ZZ.mid [_,_,_,_,_,_,_,_] [_] [_,_,_,_,_,_,_] rfl (by kernel_rfl) (by simp [base]) fun Q u6 hu6 ho6 hQ=>?_
      rw [← cell_heap hu6] at x0 x1 x2 x3
      go_wp2
      exact ih _ _ _ (hs.same (by decide) hd (by unfold T11;simp [updB,hq,h7]) hu6 ho6)
    · -- 9
      have h8:d 8=true:=hw' 8 (by decide)
      rw [hact]
      unfold T11
      simp only [h8,hq]
      refine ZZ.mid [_,_,_,_,_,_,_,_,_] [_] [_,_,_,_,_,_] rfl (by kernel_rfl) (by simp [base]) fun Q u6 hu6 ho6 hQ=>?_
      rw [← cell_heap hu6] at x0 x1 x2 x3
      go_wp2
      exact ih _ _ _ (hs.same (by decide) hd (by unfold T11;simp [updB,hq,h8]) hu6 ho6)
    · -- 10
      have h9:d 9=true:=hw' 9 (by decide)
      rw [hact]
      unfold T11
      simp only [h9,hq]
      refine ZZ.mid [_,_,_,_,_,_,_,_,_,_] [_] [_,_,_,_,_] rfl (by kernel_rfl) (by simp [base]) fun Q u6 hu6 ho6 hQ=>?_
      rw [← cell_heap hu6] at x0 x1 x2 x3
      go_wp2
      exact ih _ _ _ (hs.same (by decide) hd (by unfold T11;simp [updB,hq,h9]) hu6 ho6)
    · -- 11
      have h5:d 5=true:=hw' 5 (by decide)
      have h10:d 10=true:=hw' 10 (by decide)
      rw [hact]
      unfold T11
      simp only [h5,h10,hq]
      refine ZZ.lone (i:=11) (f:=15) (first:=#[]) (captured:=#[]) (args:=#[.int .i64 W,.int .i64 n]) (R:=fun y w'=>y=.int .i64 (p:Nat)/\w'.heap=v'.heap/\w'.os=v'.os) rfl rfl (by simp [base]) rfl rfl (by rfl) (by simp [Act.eval]) Tryz.func15 (by kernel_rfl) (by kernel_rfl) (by decide) (by kernel_rfl) (fun u h1 h2=>(lone_pick hW hn (by omega)).mono fun e w' ⟨k1,k2⟩=>⟨_,k1,by rw [hp],by rw [k2];exact h1,by rw [k2];exact h2⟩) ?_
      rintro y u6 ⟨rfl,hu6,ho6⟩
      exact ih _ _ _ (hs.same (by decide) hd (by unfold T11;simp [updB,hq,Act.put,ops11,h5,h10]) hu6 ho6)
    · -- 12
      have h3:d 3=true:=hw' 3 (by decide)
      have h11:d 11=true:=hw' 11 (by decide)
      rw [hact]
      unfold T11
      simp only [h3,h11,hq]
      refine ZZ.mid [_,_,_,_,_,_,_,_,_,_,_,_] [_] [_,_,_] rfl (by kernel_rfl) (by simp [base]) fun Q u6 hu6 ho6 hQ=>?_
      rw [← cell_heap hu6] at x0 x1 x2 x3
      go_wp2
      exact ih _ _ _ (hs.same (by decide) hd (by unfold T11;simp [updB,hq,h3,h11]) hu6 ho6)
    · -- 13
      have h12:d 12=true:=hw' 12 (by decide)
      rw [hact]
      unfold T11
      simp only [h12,hq]
      refine ZZ.mid [_,_,_,_,_,_,_,_,_,_,_,_,_] [_] [_,_] rfl (by kernel_rfl) (by simp [base]) fun Q u6 hu6 ho6 hQ=>?_
      rw [← cell_heap hu6] at x0 x1 x2 x3
      go_wp2
      exact ih _ _ _ (hs.same (by decide) hd (by unfold T11;simp [updB,hq,h12]) hu6 ho6)
    · -- 14
      have h15:d 15=false:=by
        cases h:d 15 with
        | false=>rfl
        | true=>have:=hs.last h 14 (by decide);rw [hd] at this;cases this
      have e0:=hs.open0 hd
      rw [hact]
      unfold T11
      refine ZZ.mid [_,_,_,_,_,_,_,_,_,_,_,_,_,_] [_] [_] rfl (by kernel_rfl) (by simp [base]) fun Q u6 hu6 ho6 hQ=>?_
      have s6:u6.heap.size=sz+1:=by rw [hu6,e0,hsz]
      go_wp2
      refine ih _ _ _ ⟨rfl,by unfold T11;simp [updB,hq],(hs.grown.trans (Grown.same hu6 ho6)).trans (Grown.alloc _ _),fun h=>?_,fun h=>?_,fun _ _=>?_,fun h=>?_⟩
      · have:d 15=true:=h
        rw [h15] at this;cases this
      · cases h
      · show (u6.heap.push _)=(u.heap.push _)
        rw [hu6,e0]
      · have:d 15=true:=h
        rw [h15] at this;cases this
    · -- 15
      have h0:d 0=true:=hw' 0 (by decide)
      have h1:d 1=true:=hw' 1 (by decide)
      have h2:d 2=true:=hw' 2 (by decide)
      have h3:d 3=true:=hw' 3 (by decide)
      have h4:d 4=true:=hw' 4 (by decide)
      have h5:d 5=true:=hw' 5 (by decide)
      have h6:d 6=true:=hw' 6 (by decide)
      have h7:d 7=true:=hw' 7 (by decide)
      have h8:d 8=true:=hw' 8 (by decide)
      have h9:d 9=true:=hw' 9 (by decide)
      have h10:d 10=true:=hw' 10 (by decide)
      have h11:d 11=true:=hw' 11 (by decide)
      have h12:d 12=true:=hw' 12 (by decide)
      have h13:d 13=true:=hw' 13 (by decide)
      have h14:d 14=true:=hw' 14 (by decide)
      have e0:=hs.made h14 hd
      rw [hact]
      unfold T11
      simp only [h0,h1,h2,h3,h4,h5,h6,h7,h8,h9,h10,h11,h12,h13,h14,hq]
      refine ZZ.mid [_,_,_,_,_,_,_,_,_,_,_,_,_,_,_] [_] [] rfl (by kernel_rfl) (by simp [base]) fun Q u6 hu6 ho6 hQ=>?_
      have s6:u6.heap[sz+1]? = some (.cells #[.pointer none,.pointer none] 134 (0,0)):=by
        rw [hu6,e0,Mem.alloc_get,if_pos hsz.symm]
      have q0:u6.cell? ⟨sz+1,0,none⟩=some (.pointer none):=by unfold World.cell?;rw [s6];rfl
      have q1:u6.cell? ⟨sz+1,1,none⟩=some (.pointer none):=by unfold World.cell?;rw [s6];rfl
      have f0:u6.frozen? ⟨sz+1,0,none⟩=false:=by unfold World.frozen?;rw [s6];simp
      have f1:u6.frozen? ⟨sz+1,1,none⟩=false:=by unfold World.frozen?;rw [s6];simp
      go_wp2
      have hfin:((u6.setCell ⟨sz+1,0,none⟩ (.pointer (some ⟨c,0,none⟩))).setCell ⟨sz+1,1,none⟩ (.pointer (some ⟨m,0,none⟩))).heap=(u.alloc (.cells #[.pointer (some ⟨c,0,none⟩),.pointer (some ⟨m,0,none⟩)] 134)).heap:=by
        apply Array.ext_getElem?
        intro x
        have a0:Mem.At u6 (fun _=>still) still (sz+1) (.cells #[.pointer none,.pointer none] 134 (0,0)):=⟨s6,rfl⟩
        have a2:=(a0.set 0 (.pointer (some ⟨c,0,none⟩))).set 1 (.pointer (some ⟨m,0,none⟩))
        by_cases e:x=sz+1
        · subst e
          rw [a2.obj,Mem.alloc_get,if_pos hsz.symm]
          rfl
        · rw [Mem.setCell_ne e,Mem.setCell_ne e,hu6,e0,Mem.alloc_get,Mem.alloc_get,if_neg (by omega),if_neg (by omega)]
      refine ih _ _ _ ⟨rfl,by unfold T11;simp [updB,hq,h0,h1,h2,h3,h4,h5,h6,h7,h8,h9,h10,h11,h12,h13,h14],⟨?_,fun x hx=>?_,?_⟩,fun _ j hj=>?_,fun h=>?_,fun _ h=>by (cases h),fun _=>hfin⟩
      · rw [hfin,Mem.alloc_size];omega
      · rw [hfin,Mem.alloc_get,if_neg (by omega)]
      · show u6.os=u.os
        rw [ho6];exact hs.grown.os
      · show (if j=15 then true else d j)=true
        rw [if_neg (by omega)]
        exact hw' j (by revert hj;revert j;decide)
      · have:d 14=false:=h
        rw [h14] at this;cases this
    · omega
end
end
end Go.Proofs.Shardlog
