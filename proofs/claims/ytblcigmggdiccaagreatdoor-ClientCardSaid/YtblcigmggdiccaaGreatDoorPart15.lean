/- Several texts in one: LoneC, LoneD, LoneE, LoneF, LoneG, LoneH, LoneI, LoneJ, LoneK. -/
import Derived.Test.YtblcigmggdiccaaGreatDoorPart14
import Derived.Deep.RegionHeld3
import Derived.Test.YtblcigmggdiccaaGreatDoorPart11
import Derived.Defers
import Derived.WalkKit
import Derived.LaidEql
import Derived.Stop.Asserts
import Derived.RowKitTokens
set_option linter.unusedSectionVars false
set_option linter.unusedSimpArgs false
set_option linter.unusedVariables false
set_option maxRecDepth 100000
namespace Go.Proofs.Shardlog
open Go Go.Conc Go.Tame Go.Proofs Go.RowKit Go.Mem
section
theorem und82:Tryz.L.underlying 82=some (.slice 168):=by kernel_rfl
theorem f82_body:Tryz.f82.body.isNone=false:=by kernel_rfl
theorem f82_name:(Tryz.f82.name == "runtime.NumGoroutine")=false:=by kernel_rfl
section
variable {w:World}{Λ:Lab}{ρ ρc ρo:Role}{c nt n g cap:Nat}{x:Array Value}{f:Nat × Nat}{tx:Value}{ts:List Value}{l:List OpD}
def clTx (opv:Value):List Value:=[opv,.int .i64 1,.slice none 0 0]
def Added (w:World) (Λ:Lab) (ρc ρ:Role) (c nt n:Nat) (x:Array Value) (f:Nat × Nat) (ts:List Value) (l:List OpD) (e:Ending) (w':World):Prop:=
  ∃ y,e=.returned y/\y=.int .i64 (nt:Int)/\∃ g' tx' Λ',Wrote w w' Λ Λ' ρc ρ c 3 x f 168 3 tx' (nt+1) (ts++clTx (.slice (some ⟨g',0,none⟩) n n))/\Row w' Λ' still 65 3 (.slice (some ⟨g',0,none⟩) n n) n (clL l)
theorem alloc_cells (w:World)(l:List Value)(e:TypeId)(j:Nat)(u:Value)(h:l[j]? = some u):(w.alloc (.cells l.toArray e)).cell? ((⟨w.heap.size,0,none⟩:Addr).add j)=some u:=(made_cell w l.toArray e j).trans (by simpa using h)
theorem one_clTx (v:Value)(h:v.oneCell'=true):∀ u ∈ clTx v,u.oneCell'=true:=by
  intro u hu
  simp [clTx] at hu
  rcases hu with rfl|rfl|rfl
  · exact h
  · rfl
  · rfl
theorem add_after {w1 w2:World}{Λ1 Λ2:Lab}{g1:Nat}{v2:Value}{X:Obj}(hne:ρc≠ρ)(hs1:ρ≠still)(hs2:ρc≠still)(hx:x[3]? = some tx)(hf:¬ (f.1<=3/\3<f.2))(h1:Fr Λ Λ1 (fun _=>False) w w1)(hc1:At w1 Λ1 ρc c (.cells x 94 f))(hR1:Row w1 Λ1 still 65 3 (.slice (some ⟨g1,0,none⟩) n n) n (clL l))(hF2:Fr Λ1 Λ2 (· = ρ) (w1.alloc X) w2)(hR2:Row w2 Λ2 ρ 168 3 v2 (nt+1) (ts++clTx (.slice (some ⟨g1,0,none⟩) n n))) :
    w2.cell? ⟨c,3,none⟩=some tx/\w2.frozen? ⟨c,3,none⟩=false/\Hid (∃ Λ',Wrote w (w2.setCell ⟨c,3,none⟩ v2) Λ Λ' ρc ρ c 3 x f 168 3 v2 (nt+1) (ts++clTx (.slice (some ⟨g1,0,none⟩) n n))/\Row (w2.setCell ⟨c,3,none⟩ v2) Λ' still 65 3 (.slice (some ⟨g1,0,none⟩) n n) n (clL l)):=by
  have hc2:At (w1.alloc X) Λ1 ρc c (.cells x 94 f):=hc1.fr (Fr.alloc' (M:=fun _=>False) w1 X) (fun h=>h)
  have hc3:=hc2.fr hF2 hne
  have hR3:=(hR1.fr (Fr.alloc' (M:=fun _=>False) w1 X) (fun h=>h)).fr hF2 (Ne.symm hs1)
  have hW:Wrote (w1.alloc X) (w2.setCell ⟨c,3,none⟩ v2) Λ1 Λ2 ρc ρ c 3 x f 168 3 v2 (nt+1) (ts++clTx (.slice (some ⟨g1,0,none⟩) n n)):=wrote hne hc2 hF2 hR2
  refine ⟨hc3.cell hx,hc3.thaw hf,Λ2,⟨((h1.mono fun _ h=>h.elim).trans (Fr.alloc' _ _)).trans hW.fr,hW.blk,hW.row⟩,hR3.fr (Fr.set' (M:=fun r=>r=ρc) hc3.lab) (Ne.symm hs2)⟩
set_option maxHeartbeats 4000000 in
theorem lone_add (hne:ρc≠ρ)(hs1:ρ≠still)(hs2:ρc≠still)(hc:At w Λ ρc c (.cells x 94 f))(hx:x[3]? = some tx)(hf:¬ (f.1<=3/\3<f.2))(hb:Row w Λ ρ 168 3 tx nt ts)(ho:Row w Λ ρo 65 3 (.slice (some ⟨g,0,none⟩) n cap) n (clL l))(h0:0<n)(hn:n<=5864062014805)(hm:nt<=1048576) :
    Calls Tryz.L 47 #[.pointer (some ⟨c,3,none⟩),.slice (some ⟨g,0,none⟩) n cap] w (Added w Λ ρc ρ c nt n x f ts l):=by
  have hcell:=hc.cell hx
  obtain ⟨o,cp,rfl⟩:=hb.slice
  have hmx:nt+1<=maxLen:=by unfold maxLen;omega
  have hby:(nt+1)*56<=140737488355328:=by omega
  have HO:∀ w0,Same w w0->Hid (Row w0 Λ ρo 65 3 (.slice (some ⟨g,0,none⟩) n cap) n (clL l)):=fun w0 h=>hid' (ho.fr (Fr.same (M:=fun _=>False) h.heap h.os) (fun h=>h))
  have hclt:=hc.lt
  have H1:∀ w0 w1 Λ1,Same w w0->Fr Λ Λ1 (fun _=>False) w0 w1->w1.cell? ⟨c,3,none⟩=some (.slice o nt cp)/\c<w1.heap.size/\Hid (Fr Λ Λ1 (fun _=>False) w w1/\At w1 Λ1 ρc c (.cells x 94 f)/\∀ X,Row (w1.alloc X) Λ1 ρ 168 3 (.slice o nt cp) nt ts):=fun w0 w1 Λ1 hs h=>by
    have h':Fr Λ Λ1 (fun _=>False) w w1:=(Fr.same (M:=fun _=>False) hs.heap hs.os).trans h
    have hc1:=hc.fr h' (fun h=>h)
    exact ⟨hc1.cell hx,hc1.lt,hid' ⟨h',hc1,fun X=>(hb.fr h' (fun h=>h)).fr (Fr.alloc' (M:=fun _=>False) w1 X) (fun h=>h)⟩⟩
  have H2:=hid' (fun (w1 w2:World) (Λ1 Λ2:Lab) (g1:Nat) (v2:Value) (h1:Fr Λ Λ1 (fun _=>False) w w1) (hc1:At w1 Λ1 ρc c (.cells x 94 f)) (hR1:Row w1 Λ1 still 65 3 (.slice (some ⟨g1,0,none⟩) n n) n (clL l)) (hF2:Fr Λ1 Λ2 (· = ρ) (w1.alloc (.cells (clTx (.slice (some ⟨g1,0,none⟩) n n)).toArray 168)) w2) (hR2:Row w2 Λ2 ρ 168 3 v2 (nt+1) (ts++clTx (.slice (some ⟨g1,0,none⟩) n n)))=>add_after hne hs1 hs2 hx hf h1 hc1 hR1 hF2 hR2)
  have H1':=hid' H1
  have HO':=hid' HO
  clear hc hb ho H1 HO
  go_enter LL.func47,Tryz.ntmps47
  go_wp2_with fail
  go_region_law (first
    | (refine call_draw (f:=82) (args:=#[.slice (some ⟨g,0,none⟩) n cap]) rfl rfl (by simp [Act.eval,Act.put]) LL.func82 f82_body f82_name (lone_freshOps (HO'.out _ (by constructor <;> rfl)).out h0 hn) ?_;intro y w1 hy;obtain ⟨⟨g1,rfl⟩,Λ1,hF1,hR1⟩:=hy;obtain ⟨k1,k2,k3⟩:=H1'.out _ w1 Λ1 (by constructor <;> rfl) hF1;have HR1:=hid' hR1;clear hF1 hR1)
    | (refine append_draw (m:=1) (c:=1) (p:=⟨w1.heap.size,0,none⟩) (news:=clTx (.slice (some ⟨g1,0,none⟩) n n)) slotTx und82 (.tmp 8) (.tmp 12) rfl rfl (k3.out.2.2 _) (by simp [Act.eval,Act.put]) (by simp [Act.eval,Act.put]) rfl (alloc_cells w1 (clTx (.slice (some ⟨g1,0,none⟩) n n)) 168) (one_clTx _ rfl) hmx hby (fun v' w2 Λ2 hF2 hR2=>?_);obtain ⟨o2,c2,rfl⟩:=hR2.slice;obtain ⟨m1,m2,m3⟩:=H2.out w1 w2 Λ1 Λ2 g1 _ k3.out.1 k3.out.2.1 HR1.out hF2 hR2;clear hF2 hR2))
  all_goals go_wp2
  all_goals go_ret
  all_goals (obtain ⟨Λ',hW,hR⟩:=m3.out;exact ⟨_,rfl,rfl,g1,_,Λ',hW,hR⟩)
end
end
section
def priv:Role:=(0,1,0)
theorem nthOp_get (l:List OpD)(i:Nat)(h:i<l.length):l[i]? = some (nthOp l i):=by
  unfold nthOp
  rw [List.getD_eq_getElem?_getD,List.getElem?_eq_getElem h]
  rfl
section
variable {w w':World}{Λ Λ':Lab}{M:Role->Prop}{ρ ρc ρo:Role}{n:Nat}{v:Value}{l:List OpD}
theorem Grown.fr (h:Grown w w'):Fr Λ Λ M w w':=⟨h.size,fun x hx _=>h.heap x hx,fun _ _=>rfl,h.os⟩
theorem clOps_of {g cap:Nat}(h:Row w Λ ρ 65 3 (.slice (some ⟨g,0,none⟩) n cap) n (clL l)):ClOps w g 0 n (nthOp l):=by
  have hl:l.length=n:=by have:=h.len;rw [len_clL] at this;omega
  refine ⟨fun i hi=>?_,fun i hi=>?_,fun i hi=>?_⟩
  all_goals
    have:=clL_get l i _ (nthOp_get l i (by omega))
    obtain ⟨h1,h2,h3⟩:=this
    simp only [Nat.zero_add]
  · exact h.cell rfl h1
  · exact h.cell rfl h2
  · exact h.cell rfl h3
theorem row_len {v:Value}(h:Row w Λ ρ 65 3 v n (clL l)):l.length=n:=by have:=h.len;rw [len_clL] at this;omega
theorem lone_isTx_nil (a:Option Addr)(c:Nat):Calls Tryz.L 44 #[.slice a 0 c] w fun e w'=>e=.returned (.bool false)/\Grown w w':=by
  go_enter LL.func44,Tryz.ntmps44
  go_wp2
  go_ret
  exact ⟨rfl,Grown.refl w⟩
theorem lone_isTxV (h:Row w Λ ρ 65 3 v n (clL l))(hn:n<=5864062014805):Calls Tryz.L 44 #[v] w (Tells (fun w'=>Fr Λ Λ (fun _=>False) w w') (TxL l)):=by
  have hl:=row_len h
  rcases Nat.eq_zero_or_pos n with rfl|h0
  · obtain ⟨o,c,rfl⟩:=h.slice
    refine (lone_isTx_nil o c).mono fun e w' k=>⟨false,k.1,?_,k.2.fr⟩
    constructor
    · intro h;cases h
    · intro hx
      have:=hx.1
      omega
  · obtain ⟨g,cap,rfl,hcap,_⟩:=h.some h0
    refine (lone_isTx (clOps_of h) hn hcap).mono fun e w' k=>?_
    obtain ⟨t,h1,h2,h3⟩:=k
    refine ⟨t,h1,?_,h3.fr⟩
    unfold TxL
    rw [hl]
    exact h2
theorem isTxV_yes (h:Row w Λ ρ 65 3 v n (clL l))(hn:n<=5864062014805)(ht:TxL l):Calls Tryz.L 44 #[v] w fun e w'=>e=.returned (.bool true)/\Fr Λ Λ (fun _=>False) w w':=(lone_isTxV h hn).mono fun _ _ k=>k.yes ht
theorem isTxV_no (h:Row w Λ ρ 65 3 v n (clL l))(hn:n<=5864062014805)(ht:¬ TxL l):Calls Tryz.L 44 #[v] w fun e w'=>e=.returned (.bool false)/\Fr Λ Λ (fun _=>False) w w':=(lone_isTxV h hn).mono fun _ _ k=>k.no ht
def errV (a:Addr):Value:=.iface 384 (.pointer (some a))
structure Errs (w:World) (Λ:Lab) (E:Nat->Addr):Prop where
  glob:∀ i,i<10->i≠4->w.cell? ⟨i,0,none⟩=some (errV (E i))
  thaw:∀ i,i<10->i≠4->w.frozen? (E i)=false
  cells:∀ i,i<10->i≠4->∃ ca ta,w.heap[(E i).block]? = some (.cells ca ta (0,0))
  typ:w.cell? ⟨4,0,none⟩=some (.iface 199 (.agg #[.pointer (some ⟨10,44,none⟩)]))
  apart:∀ i j,i<10->j<10->i≠4->j≠4->i≠j->E i≠E j
  low:∀ i,i<10->Λ i=still/\i<w.heap.size/\(i≠4->Λ (E i).block=still/\(E i).block<w.heap.size)
theorem Errs.fr {E:Nat->Addr}(h:Errs w Λ E)(f:Fr Λ Λ' M w w')(hm:¬ M still):Errs w' Λ' E:=by
  have keep:∀ b,Λ b=still->b<w.heap.size->w'.heap[b]? = w.heap[b]?:=fun b hb hl=>f.old b hl (by rw [hb];exact hm)
  refine ⟨fun i hi h4=>?_,fun i hi h4=>?_,fun i hi h4=>?_,?_,h.apart,fun i hi=>?_⟩
  · rw [← h.glob i hi h4]
    unfold World.cell?
    rw [keep i (h.low i hi).1 (h.low i hi).2.1]
  · rw [← h.thaw i hi h4]
    obtain ⟨h1,h2⟩:=(h.low i hi).2.2 h4
    unfold World.frozen?
    rw [keep _ h1 h2]
  · obtain ⟨ca,ta,h0⟩:=h.cells i hi h4
    obtain ⟨h1,h2⟩:=(h.low i hi).2.2 h4
    exact ⟨ca,ta,(keep _ h1 h2).trans h0⟩
  · rw [← h.typ]
    unfold World.cell?
    rw [keep 4 (h.low 4 (by omega)).1 (h.low 4 (by omega)).2.1]
  · obtain ⟨h1,h2,h3⟩:=h.low i hi
    refine ⟨(f.lab i h2).trans h1,Nat.lt_of_lt_of_le h2 f.size,fun h4=>?_⟩
    obtain ⟨h5,h6⟩:=h3 h4
    exact ⟨(f.lab _ h6).trans h5,Nat.lt_of_lt_of_le h6 f.size⟩
structure Clu (w:World) (Λ:Lab) (k c N nt nb:Nat) (mu:Int) (sh tx bg:Value) (D:Nat) (ss ts bs:List Value):Prop where
  blk:At w Λ (k,0,0) c (.cells #[.int .i32 mu,.int .u32 0,sh,tx,bg,.chan (some D)] 94 (5,6))
  shards:Row w Λ (k,1,0) 100 1 sh N ss
  txs:Row w Λ (k,2,0) 168 3 tx nt ts
  bag:Row w Λ (k,3,0) 217 1 bg nb bs
theorem Clu.fr {k c N nt nb:Nat}{mu:Int}{sh tx bg:Value}{D:Nat}{ss ts bs:List Value}(h:Clu w Λ k c N nt nb mu sh tx bg D ss ts bs)(f:Fr Λ Λ' M w w')(hm:∀ r,r.1=k->¬ M r):Clu w' Λ' k c N nt nb mu sh tx bg D ss ts bs:=
  ⟨h.blk.fr f (hm _ rfl),h.shards.fr f (hm _ rfl),h.txs.fr f (hm _ rfl),h.bag.fr f (hm _ rfl)⟩
end
end
section
section
variable {w:World}{Λ:Lab}{E:Nat->Addr}{ρo:Role}{k c N nt nb n bo bc bt D:Nat}{mu:Int}{sh tx bg v:Value}{ss ts bs:List Value}{l:List OpD}
set_option maxHeartbeats 1000000 in
theorem lone_sub1_ops (hE:Errs w Λ E)(hbo:w.cell? ⟨bo,0,none⟩=some v)(hv:Row w Λ ρo 65 3 v n (clL l))(hn:n<=5864062014805)(ht:¬ TxL l) :
    Calls Tryz.L 43 #[.pointer (some ⟨bo,0,none⟩),.pointer (some ⟨bc,0,none⟩),.pointer (some ⟨bt,0,none⟩)] w fun e w'=>e=.returned (errV (E 1))/\Fr Λ Λ (fun _=>False) w w':=by
  have hI:=hid' (isTxV_no hv hn ht)
  have hG:∀ w1,Fr Λ Λ (fun _=>False) w w1->w1.cell? ⟨1,0,none⟩=some (errV (E 1)):=fun w1 h=>(hE.fr h (fun h=>h)).glob 1 (by omega) (by omega)
  have hG':=hid' hG
  obtain ⟨o,c,rfl⟩:=hv.slice
  clear hE hv hG
  unfold errV at *
  go_enter LL.func43,Tryz.ntmps43
  go_wp2_with fail
  refine hI.out.mono ?_
  rintro e w1 ⟨rfl,hF⟩
  have g1:=hG'.out w1 hF
  have hF':=hid' hF
  clear hF hI
  go_wp2
  go_ret
  exact ⟨rfl,hF'.out⟩
set_option maxHeartbeats 1000000 in
theorem lone_sub1_many (hE:Errs w Λ E)(hC:Clu w Λ k c N nt nb mu sh tx bg D ss ts bs)(hbo:w.cell? ⟨bo,0,none⟩=some v)(hbc:w.cell? ⟨bc,0,none⟩=some (.pointer (some ⟨c,0,none⟩)))(hv:Row w Λ ρo 65 3 v n (clL l))(hn:n<=5864062014805)(ht:TxL l)(hmany:60<=nt∨400<=nb)(hlow:bc<w.heap.size) :
    Calls Tryz.L 43 #[.pointer (some ⟨bo,0,none⟩),.pointer (some ⟨bc,0,none⟩),.pointer (some ⟨bt,0,none⟩)] w fun e w'=>e=.returned (errV (E 2))/\Fr Λ Λ (fun _=>False) w w':=by
  have hI:=hid' (isTxV_yes hv hn ht)
  obtain ⟨o,cp,rfl⟩:=hv.slice
  obtain ⟨otx,ctx,rfl⟩:=hC.txs.slice
  obtain ⟨obg,cbg,rfl⟩:=hC.bag.slice
  have hG:∀ w1,Fr Λ Λ (fun _=>False) w w1->w1.cell? ⟨2,0,none⟩=some (errV (E 2))/\w1.cell? ⟨bc,0,none⟩=some (.pointer (some ⟨c,0,none⟩))/\w1.cell? ⟨c,3,none⟩=some (.slice otx nt ctx)/\w1.cell? ⟨c,4,none⟩=some (.slice obg nb cbg):=fun w1 h=>by
    refine ⟨(hE.fr h (fun h=>h)).glob 2 (by omega) (by omega),?_,(hC.blk.fr h (fun h=>h)).cell rfl,(hC.blk.fr h (fun h=>h)).cell rfl⟩
    rw [← hbc]
    unfold World.cell?
    rw [h.old bc hlow (fun h=>h)]
  have hG':=hid' hG
  clear hE hv hG hC hbc hlow
  unfold errV at *
  by_cases h60:60<=nt
  · have e60:decide (60<=nt)=true:=by simpa using h60
    go_enter LL.func43,Tryz.ntmps43
    go_wp2_with fail
    refine hI.out.mono ?_
    rintro e w1 ⟨rfl,hF⟩
    obtain ⟨g1,g2,g3,g4⟩:=hG'.out w1 hF
    have hF':=hid' hF
    clear hF hI
    go_wp2_with (go_at_call 45;refine (lone_txsFull _ _ _).mono ?_;rintro e w2 ⟨rfl,rfl⟩)
    go_ret
    exact ⟨rfl,hF'.out⟩
  · have h400:400<=nb:=by omega
    have e60:decide (60<=nt)=false:=by simpa using h60
    have e400:decide (400<=nb)=true:=by simpa using h400
    go_enter LL.func43,Tryz.ntmps43
    go_wp2_with fail
    refine hI.out.mono ?_
    rintro e w1 ⟨rfl,hF⟩
    obtain ⟨g1,g2,g3,g4⟩:=hG'.out w1 hF
    have hF':=hid' hF
    clear hF hI
    go_wp2_with (first|(go_at_call 45;refine (lone_txsFull _ _ _).mono ?_;rintro e w2 ⟨rfl,rfl⟩)|(go_at_call 46;refine (lone_bagFull _ _ _).mono ?_;rintro e w2 ⟨rfl,rfl⟩))
    go_ret
    exact ⟨rfl,hF'.out⟩
end
end
section
theorem f47_body:Tryz.f47.body.isNone=false:=by kernel_rfl
theorem f47_name:(Tryz.f47.name == "runtime.NumGoroutine")=false:=by kernel_rfl
theorem f48_body:Tryz.f48.body.isNone=false:=by kernel_rfl
theorem f48_name:(Tryz.f48.name == "runtime.NumGoroutine")=false:=by kernel_rfl
def own (k:Nat) (r:Role):Prop:=r.1=k∨r=priv
section
variable {w u u':World}{Λ Λ' Λ₂:Lab}{ρo:Role}{k c N nt nb n bc bt D g:Nat}{mu t:Int}{sh tx bg:Value}{ss ts bs:List Value}{l:List OpD}
structure Mid (w u:World) (Λ Λ':Lab) (k c N nt nb:Nat) (mu:Int) (sh tx bg:Value) (D:Nat) (ss ts bs:List Value) (bc bt g n:Nat) (l:List OpD) (t:Int):Prop where
  fr:Fr Λ Λ' (own k) w u
  clu:Clu u Λ' k c N nt nb mu sh tx bg D ss ts bs
  ops:Row u Λ' still 65 3 (.slice (some ⟨g,0,none⟩) n n) n (clL l)
  bt:At u Λ' priv bt (.cells #[.int .i64 t] 3 (0,0))
  bc:At u Λ' still bc (.cells #[.pointer (some ⟨c,0,none⟩)] 23 (0,0))
theorem Mid.quiet (h:Mid w u Λ Λ' k c N nt nb mu sh tx bg D ss ts bs bc bt g n l t)(f:Fr Λ' Λ₂ (fun _=>False) u u'):Mid w u' Λ Λ₂ k c N nt nb mu sh tx bg D ss ts bs bc bt g n l t:=
  ⟨h.fr.trans (f.mono fun _ z=>z.elim),h.clu.fr f fun _ _ z=>z,h.ops.fr f (fun z=>z),h.bt.fr f (fun z=>z),h.bc.fr f (fun z=>z)⟩
theorem Mid.facts (h:Mid w u Λ Λ' k c N nt nb mu sh tx bg D ss ts bs bc bt g n l t):u.cell? ⟨bc,0,none⟩=some (.pointer (some ⟨c,0,none⟩))/\u.cell? ⟨bt,0,none⟩=some (.int .i64 t)/\u.frozen? ⟨bt,0,none⟩=false/\u.cell? ⟨c,2,none⟩=some sh/\u.cell? ⟨c,3,none⟩=some tx:=
  ⟨h.bc.cell rfl,h.bt.cell rfl,h.bt.thaw (by simp),h.clu.blk.cell rfl,h.clu.blk.cell rfl⟩
theorem priv_still:priv≠still:=by decide
theorem Mid.setT (h:Mid w u Λ Λ' k c N nt nb mu sh tx bg D ss ts bs bc bt g n l t)(hk:0<k)(t':Int):Mid w (u.setCell ⟨bt,0,none⟩ (.int .i64 t')) Λ Λ' k c N nt nb mu sh tx bg D ss ts bs bc bt g n l t':=by
  have f:Fr Λ' Λ' (· = priv) u (u.setCell ⟨bt,0,none⟩ (.int .i64 t')):=Fr.set' h.bt.lab
  refine ⟨h.fr.trans (f.mono fun _ z=>.inr z),h.clu.fr f fun r hr z=>?_,h.ops.fr f (Ne.symm priv_still),h.bt.set 0 _,h.bc.fr f (Ne.symm priv_still)⟩
  rw [z] at hr
  simp [priv] at hr
  omega
theorem Mid.added {w1 w2:World}{Λ2:Lab}{tx':Value}(hk:0<k)(hF:Fr Λ Λ (fun _=>False) w w1)(hC:Clu w Λ k c N nt nb mu sh tx bg D ss ts bs)(hbt:At w Λ priv bt (.cells #[.int .i64 0] 3 (0,0)))(hbc:At w Λ still bc (.cells #[.pointer (some ⟨c,0,none⟩)] 23 (0,0)))
    (hW:Wrote w1 w2 Λ Λ2 (k,0,0) (k,2,0) c 3 #[.int .i32 mu,.int .u32 0,sh,tx,bg,.chan (some D)] (5,6) 168 3 tx' (nt+1) (ts++clTx (.slice (some ⟨g,0,none⟩) n n))) (hR:Row w2 Λ2 still 65 3 (.slice (some ⟨g,0,none⟩) n n) n (clL l)) :
    Mid w w2 Λ Λ2 k c N (nt+1) nb mu sh tx' bg D ss (ts++clTx (.slice (some ⟨g,0,none⟩) n n)) bs bc bt g n l 0:=by
  have ne:∀ r:Role,r.1=0->¬ (r=(k,0,0)∨r=(k,2,0)):=fun r hr h=>by
    rcases h with h|h <;> (rw [h] at hr;simp at hr;omega)
  have hC1:=hC.fr hF fun _ _ z=>z
  refine ⟨(hF.mono fun _ z=>z.elim).trans (hW.fr.mono fun r h=>.inl (by rcases h with h|h <;> rw [h])),⟨hW.blk,hC1.shards.fr hW.fr (by simp),hW.row,hC1.bag.fr hW.fr (by simp)⟩,hR,(hbt.fr hF (fun z=>z)).fr hW.fr (ne _ rfl),(hbc.fr hF (fun z=>z)).fr hW.fr (ne _ rfl)⟩
def Taken (w:World) (Λ:Lab) (k c N nt nb n bt:Nat) (mu:Int) (sh:Value) (D:Nat) (ss ts bs:List Value) (l:List OpD) (e:Ending) (w':World):Prop:=
  e=.returned .nilIface/\∃ Λ' g tx bg,Fr Λ Λ' (own k) w w'/\Clu w' Λ' k c N (nt+1) (nb+1) mu sh tx bg D ss (ts++clTx (.slice (some ⟨g,0,none⟩) n n)) (bs ++ [.iface 110 (clBegin (plc (nthOp l 0).key N:Nat) nt (.slice (some ⟨g,0,none⟩) n n))]) /\
    Row w' Λ' still 65 3 (.slice (some ⟨g,0,none⟩) n n) n (clL l)/\At w' Λ' priv bt (.cells #[.int .i64 nt] 3 (0,0))
theorem Mid.put {u':World}{bg':Value}{msg:Value}(h:Mid w u Λ Λ' k c N nt nb mu sh tx bg D ss ts bs bc bt g n l t)(hk:0<k)(hW:Wrote u u' Λ' Λ₂ (k,0,0) (k,3,0) c 4 #[.int .i32 mu,.int .u32 0,sh,tx,bg,.chan (some D)] (5,6) 217 1 bg' (nb+1) (bs ++ [msg])) :
    Mid w u' Λ Λ₂ k c N nt (nb+1) mu sh tx bg' D ss ts (bs ++ [msg]) bc bt g n l t:=by
  have ne:∀ r:Role,r.1=0->¬ (r=(k,0,0)∨r=(k,3,0)):=fun r hr h=>by
    rcases h with h|h <;> (rw [h] at hr;simp at hr;omega)
  exact ⟨h.fr.trans (hW.fr.mono fun r h=>.inl (by rcases h with h|h <;> rw [h])),⟨hW.blk,h.clu.shards.fr hW.fr (by simp),h.clu.txs.fr hW.fr (by simp),hW.row⟩,h.ops.fr hW.fr (ne _ rfl),h.bt.fr hW.fr (ne _ rfl),h.bc.fr hW.fr (ne _ rfl)⟩
theorem Mid.puts {msg:Value}(h:Mid w u Λ Λ' k c N nt nb mu sh tx bg D ss ts bs bc bt g n l t)(hk:0<k)(h1:msg.oneCell'=true)(hnb:nb<=5864062014804) :
    Calls Tryz.L 48 #[.pointer (some ⟨c,4,none⟩),.slice (some ⟨u.heap.size,0,none⟩) 1 1] (u.alloc (.cells #[msg] 217)) fun e w'=>∃ y,e=.returned y/\(y=.tuple #[]/\∃ Λ₂ bg',Mid w w' Λ Λ₂ k c N nt (nb+1) mu sh tx bg' D ss ts (bs ++ [msg]) bc bt g n l t):=by
  have hm:=h.quiet (Fr.alloc' u (.cells #[msg] 217))
  refine (lone_put (w:=u.alloc (.cells #[msg] 217)) (Λ:=Λ') (ρ:=(k,3,0)) (ρc:=(k,0,0)) (c:=c) (nb:=nb) (m:=1) (cap:=1) (news:=[msg]) (p:=⟨u.heap.size,0,none⟩) (i:=4) (by simp) hm.clu.blk rfl (by simp) hm.clu.bag rfl (alloc_cells u [msg] 217) (by simpa using h1) (by omega)).mono ?_
  rintro e w' ⟨y,rfl,rfl,bg',Λ₂,hW⟩
  exact ⟨_,rfl,rfl,Λ₂,bg',hm.put hk hW⟩
end
end
section
section
variable {w:World}{Λ:Lab}{ρo:Role}{k c N nt nb n bo bc bt D g:Nat}{mu:Int}{sh tx bg v:Value}{ss ts bs:List Value}{l:List OpD}
theorem clTx_get (ts:List Value)(nt:Nat)(h:ts.length=nt*3)(v:Value):(ts++clTx v)[nt*3]? = some v:=by
  rw [List.getElem?_append_right (by omega),h,Nat.sub_self]
  rfl
set_option maxHeartbeats 8000000 in
theorem lone_sub1_yes (hk:0<k)(hC:Clu w Λ k c N nt nb mu sh tx bg D ss ts bs)(hN:1<=N)(hN4:N<=4)(hbo:At w Λ still bo (.cells #[v] 36 (0,0)))(hbc:At w Λ still bc (.cells #[.pointer (some ⟨c,0,none⟩)] 23 (0,0)))(hbt:At w Λ priv bt (.cells #[.int .i64 0] 3 (0,0)))
    (hv:Row w Λ ρo 65 3 v n (clL l)) (hro:¬ own k ρo) (ht:TxL l) (hnt:nt<60) (hnb:nb<400) :
    Calls Tryz.L 43 #[.pointer (some ⟨bo,0,none⟩),.pointer (some ⟨bc,0,none⟩),.pointer (some ⟨bt,0,none⟩)] w (Taken w Λ k c N nt nb n bt mu sh D ss ts bs l):=by
  have hl:=row_len hv
  have hn1:1<=n:=by have:=ht.1;omega
  have hn6:n<=6:=by have:=ht.2.1;omega
  have h0:=nthOp_get l 0 (by omega)
  have hkey:97<=(nthOp l 0).key/\(nthOp l 0).key<=122:=by
    obtain ⟨h1,h2,_⟩:=(ht.2.2 0 (by omega)).1
    exact ⟨h1,h2⟩
  have hI:=hid' (isTxV_yes hv (by omega) ht)
  obtain ⟨gv,cap,rfl,_⟩:=hv.some hn1
  obtain ⟨otx,ctx,rfl⟩:=hC.txs.slice
  obtain ⟨obg,cbg,rfl⟩:=hC.bag.slice
  obtain ⟨osh,csh,rfl⟩:=hC.shards.slice
  have e60:decide (60<=nt)=false:=by simp;omega
  have e400:decide (400<=nb)=false:=by simp;omega
  have co:w.cell? ⟨bo,0,none⟩=some (.slice (some ⟨gv,0,none⟩) n cap):=hbo.cell rfl
  have hG:=hid' (fun (w1:World) (h:Fr Λ Λ (fun _=>False) w w1)=>(⟨(hbc.fr h (fun z=>z)).cell rfl,(hC.blk.fr h (fun z=>z)).cell rfl,(hC.blk.fr h (fun z=>z)).cell rfl,(hbo.fr h (fun z=>z)).cell rfl⟩:w1.cell? ⟨bc,0,none⟩=some (.pointer (some ⟨c,0,none⟩))/\w1.cell? ⟨c,3,none⟩=some (.slice otx nt ctx)/\w1.cell? ⟨c,4,none⟩=some (.slice obg nb cbg)/\w1.cell? ⟨bo,0,none⟩=some (.slice (some ⟨gv,0,none⟩) n cap)))
  have hAdd:=hid' (fun (w1:World) (h:Fr Λ Λ (fun _=>False) w w1)=>lone_add (w:=w1) (Λ:=Λ) (ρ:=(k,2,0)) (ρc:=(k,0,0)) (ρo:=ρo) (l:=l) (by simp) (by simp [still]) (by simp [still];omega) (hC.blk.fr h (fun z=>z)) rfl (by simp) (hC.txs.fr h (fun z=>z)) (hv.fr h (fun z=>z)) hn1 (by omega) (by omega))
  have hlen:=hC.txs.len
  have hMid:=hid' (fun (w0 w1 w2:World) (hs:Same w1 w2) (h:Fr Λ Λ (fun _=>False) w w1) (w3:World) (Λ2:Lab) (g1:Nat) (tx':Value) (hW:Wrote w2 w3 Λ Λ2 (k,0,0) (k,2,0) c 3 #[.int .i32 mu,.int .u32 0,.slice osh N csh,.slice otx nt ctx,.slice obg nb cbg,.chan (some D)] (5,6) 168 3 tx' (nt+1) (ts++clTx (.slice (some ⟨g1,0,none⟩) n n))) (hR:Row w3 Λ2 still 65 3 (.slice (some ⟨g1,0,none⟩) n n) n (clL l))=>Mid.added hk (h.trans (Fr.same hs.heap hs.os)) hC hbt hbc hW hR)
  clear hbc hbt hv hC hbo
  go_enter LL.func43,Tryz.ntmps43
  go_wp2_with fail
  refine hI.out.mono ?_
  rintro e w1 ⟨rfl,hF⟩
  obtain ⟨g1,g2,g3,g4⟩:=hG.out w1 hF
  have hF':=hid' hF
  clear hF hI
  go_wp2_with (first|(go_at_call 45;refine (lone_txsFull _ _ _).mono ?_;rintro e w2 ⟨rfl,rfl⟩)|(go_at_call 46;refine (lone_bagFull _ _ _).mono ?_;rintro e w2 ⟨rfl,rfl⟩))
  go_region_law (refine call_draw (f:=47) (args:=#[.pointer (some ⟨c,3,none⟩),.slice (some ⟨gv,0,none⟩) n cap]) rfl rfl (by simp [Act.eval,Act.put]) LL.func47 f47_body f47_name (hAdd.out _ hF'.out.drew) ?_;intro y w3 hy;obtain ⟨rfl,g',tx',Λ3,hW3,hR3⟩:=hy;have hM3:=hMid.out w _ _ (by constructor <;> rfl) hF'.out w3 Λ3 g' tx' hW3 hR3;obtain ⟨m1,m2,m3,m4,m5⟩:=hM3.facts;have hM4:=hid' (hM3.setT hk nt);clear hW3 hR3 hM3)
  all_goals
    obtain ⟨gt,ctx',rfl,_⟩:=hM4.out.clu.txs.some (by omega)
    generalize w3.setCell _ _=w4 at *
    obtain ⟨p1,p2,p3,p4,p5⟩:=hM4.out.facts
    clear m1 m2 m3 m4 m5
    have hB:=hid' (lone_beginOf (w:=w4.drew) (hM4.out.clu.txs.fr (Fr.same (M:=fun _=>False) rfl rfl) (fun z=>z)) (by omega) (clTx_get ts nt hlen _) (hM4.out.ops.fr (Fr.same (M:=fun _=>False) rfl rfl) (fun z=>z)) h0 hkey hN hN4 (by omega) (by omega))
    have hP:=hid' (fun (w5:World) (h5:Mid w w5 Λ Λ3 k c N (nt+1) nb mu (.slice osh N csh) (.slice (some ⟨gt,0,none⟩) (nt+1) ctx') (.slice obg nb cbg) D ss (ts++clTx (.slice (some ⟨g',0,none⟩) n n)) bs bc bt g' n l nt)=>h5.puts (msg:=.iface 110 (clBegin (plc (nthOp l 0).key N:Nat) nt (.slice (some ⟨g',0,none⟩) n n))) hk rfl (by omega))
    go_wp2_with fail
    have n1:=World.new_ne w4 _ p1
    go_region_held3 (fun u=>u.cell? ⟨bc,0,none⟩=some (.pointer (some ⟨c,0,none⟩))/\u.cell? ⟨bt,0,none⟩=some (.int .i64 nt)/\u.cell? ⟨c,2,none⟩=some (.slice osh N csh)/\u.cell? ⟨c,3,none⟩=some (.slice (some ⟨gt,0,none⟩) (nt+1) ctx')) (go_keep)
      (first
        | (go_at_call 49;refine hB.out.mono ?_;rintro e w5 ⟨y,rfl,rfl,hF5⟩;have hM5:=hid' (hM4.out.quiet ((Fr.same (M:=fun _=>False) rfl rfl:Fr Λ3 Λ3 (fun _=>False) w4 w4.drew).trans hF5));obtain ⟨q1,q2,q3,q4,q5⟩:=hM5.out.facts;clear hF5;have n5:=World.new_ne w5 _ q1;have n6:=World.new_ne w5 _ q2;have n7:=World.new_ne w5 _ q4)
        | (go_at_call 48;refine (hP.out _ hM5.out).mono ?_;rintro e w6 ⟨y,rfl,rfl,Λ6,bg',hM6⟩;obtain ⟨r1,r2,r3,r4,r5⟩:=hM6.facts;have hM6':=hid' hM6;clear hM6))
    have hM7:=hM6'
    go_wp2
    go_ret
    exact ⟨rfl,Λ6,g',_,bg',hM7.out.fr,hM7.out.clu,hM7.out.ops,hM7.out.bt⟩
end
end
section
section
variable {v:World}{c o:Nat}
theorem lone_unlock_d {u:FrameMode}(hc:v.cell? ⟨c,o,none⟩=some (.int .i32 1))(hz:v.frozen? ⟨c,o,none⟩=false) :
    CallsD Tryz.L 56 #[.pointer (some ⟨c,o,none⟩)] u v fun e u' v'=>u'=u/\(e=.returned (.tuple #[])/\v'=v.setCell ⟨c,o,none⟩ (.int .i32 0)):=by
  go_enter_d LL.func56,Tryz.ntmps56
  go_wp2
  refine (lone_unlock91 hc hz).mono ?_
  rintro e v' ⟨rfl,rfl⟩
  go_wp2
  exact bodyPost_end (results_none rfl _ _ _) rfl ⟨rfl,rfl⟩
set_option maxHeartbeats 1000000 in
theorem lone_alone {R:World->Prop}{cap:Array Value}(hc:v.cell? ⟨c,0,none⟩=some (.int .i32 0))(hz:v.frozen? ⟨c,0,none⟩=false)
    (hcl:Calls Tryz.L 79 cap (v.setCell ⟨c,0,none⟩ (.int .i32 1)) fun e w=>e=.returned (.tuple #[])/\w.cell? ⟨c,0,none⟩=some (.int .i32 1)/\w.frozen? ⟨c,0,none⟩=false/\R w) :
    Calls Tryz.L 31 #[.pointer (some ⟨c,0,none⟩),.func (.func 79) #[] cap] v fun e w'=>e=.returned (.tuple #[])/\∃ w,R w/\w'=w.setCell ⟨c,0,none⟩ (.int .i32 0):=by
  have hH:=hid' hcl
  clear hcl
  go_enter_defers LL.func31,Tryz.ntmps31
  go_wp2_with (go_at_call 55;refine (lone_lock hc hz).mono ?_;rintro e w' ⟨rfl,rfl⟩)
  refine hH.out.mono ?_
  rintro e w ⟨rfl,h1,h2,h3⟩
  clear hH
  go_wp2
  refine leaves_cons (f:=56) (args:=#[.pointer (some ⟨c,0,none⟩)]) (by simp) (by simp [go_sem]) ?_
  refine (lone_unlock_d (u:=.returning) h1 h2).mono ?_
  rintro e u' w'' ⟨rfl,rfl,rfl⟩
  exact ⟨_,results_none rfl _ _ _,rfl,_,h3,rfl⟩
def errO:Option Addr->Value
  | none=>.nilIface
  | some a=>errV a
set_option maxHeartbeats 1000000 in
theorem lone_work {D cp s r bx bw be f:Nat}{cap:Array Value}{R:Option Addr->World->Prop}(hf:∀ (args:Array Value) (u:World),Sem.run Tryz.L (callFunc f args) u=.ok (.enter f args) u)(hbx:v.cell? ⟨bx,0,none⟩=some (.pointer (some ⟨c,0,none⟩)))(hbw:v.cell? ⟨bw,0,none⟩=some (.func (.func f) #[] cap))
    (hd:v.cell? ⟨c,5,none⟩=some (.chan (some D))) (hD:v.heap[D]? = some (.chan cp #[] false s r false))
    (hcl:Calls Tryz.L f cap v fun e w=>∃ y,e=.returned (errO y)/\(∃ z,w.cell? ⟨be,0,none⟩=some z)/\w.frozen? ⟨be,0,none⟩=false/\R y w) :
    Calls Tryz.L 79 #[.pointer (some ⟨bx,0,none⟩),.pointer (some ⟨bw,0,none⟩),.pointer (some ⟨be,0,none⟩)] v fun e w'=>e=.returned (.tuple #[])/\∃ y w,R y w/\w'=w.setCell ⟨be,0,none⟩ (errO y):=by
  have hH:=hid' hcl
  clear hcl
  go_enter LL.func79,Tryz.ntmps79
  go_wp2_with (go_at_call 33;refine (lone_live hd hD).mono ?_;rintro e w' ⟨rfl,rfl⟩)
  refine hH.out.mono ?_
  rintro e w ⟨y,rfl,⟨z,h1⟩,h2,h3⟩
  clear hH
  cases y
  · unfold errO
    go_wp2
    go_end0
    exact ⟨rfl,none,w,h3,rfl⟩
  · rename_i a
    unfold errO errV
    go_wp2
    go_end0
    exact ⟨rfl,some a,w,h3,rfl⟩
end
end
section
def slip:Role:=(0,2,0)
section
variable {w w' w1 w2:World}{Λ Λ' Λ1 Λ2:Lab}{E:Nat->Addr}{k c N nt nb D f cp s r be:Nat}{mu:Int}{sh tx bg:Value}{ss ts bs:List Value}
theorem Clu.setMu (h:Clu w Λ k c N nt nb mu sh tx bg D ss ts bs)(mu':Int):Clu (w.setCell ⟨c,0,none⟩ (.int .i32 mu')) Λ k c N nt nb mu' sh tx bg D ss ts bs:=by
  have f:Fr Λ Λ (· = (k,0,0)) w (w.setCell ⟨c,0,none⟩ (.int .i32 mu')):=Fr.set' h.blk.lab
  exact ⟨h.blk.set 0 _,h.shards.fr f (by simp),h.txs.fr f (by simp),h.bag.fr f (by simp)⟩
def CallE (nm:Value) (at':Int) (y:Option Addr) (v:Value) (w:World) (Λ:Lab):Prop:=
  match y with
  | none=>v=.nilIface
  | some a=>∃ b,v=.iface 113 (.pointer (some ⟨b,0,none⟩))/\At w Λ still b (.cells #[nm,.int .i64 at',errV a] 117 (0,0))
theorem Fr.both {M:Role->Prop}(h:Fr Λ Λ' M w w')(a:Addr)(y:Value):Fr Λ Λ' M (w.setCell a y) (w'.setCell a y):=by
  refine ⟨by rw [setCell_size,setCell_size];exact h.size,fun x hx hm=>?_,fun x hx=>h.lab x (by rwa [setCell_size] at hx),h.os⟩
  rw [setCell_size] at hx
  simp only [World.setCell,Array.getElem?_modify]
  rw [h.old x hx hm]
theorem thaw_set {a b:Addr}{y:Value}(h:w.frozen? a=false):(w.setCell b y).frozen? a=false:=by rw [World.frozen?_setCell];exact h
def Works (w:World) (Λ:Lab) (k c N nt nb:Nat) (sh tx bg:Value) (D:Nat) (ss ts bs:List Value) (f:Nat) (cap:Array Value) (R:Option Addr->World->Lab->Prop):Prop:=
  ∀ w1 Λ1,Fr Λ Λ1 (· = (k,0,0)) w w1->Clu w1 Λ1 k c N nt nb 1 sh tx bg D ss ts bs->Calls Tryz.L f cap w1 fun e w2=>∃ y Λ2,e=.returned (errO y)/\Fr Λ1 Λ2 (own k) w1 w2/\(∃ sh' tx' bg',At w2 Λ2 (k,0,0) c (.cells #[.int .i32 1,.int .u32 0,sh',tx',bg',.chan (some D)] 94 (5,6)))/\R y w2 Λ2
def Behind (w:World) (Λ:Lab) (k c be:Nat) (R:Option Addr->World->Lab->Prop) (w':World):Prop:=
  ∃ y w2 Λ2,R y w2 Λ2/\Fr Λ Λ2 (own k) w w2/\At w' Λ2 slip be (.cells #[errO y] 44 (0,0))/\Fr Λ2 Λ2 (· = slip) (w2.setCell ⟨c,0,none⟩ (.int .i32 0)) w'
theorem lone_inner {δ:Role}{R:Option Addr->World->Lab->Prop}{cap:Array Value}{v0:Value}(hf:∀ (args:Array Value) (u:World),Sem.run Tryz.L (callFunc f args) u=.ok (.enter f args) u)
    (hk:0<k) (hC:Clu w Λ k c N nt nb 0 sh tx bg D ss ts bs) (hD:At w Λ δ D (.chan cp #[] false s r false)) (hcl:Works w Λ k c N nt nb sh tx bg D ss ts bs f cap R) (hδ:δ.1≠k:=by simp [still];omega) :
    Calls Tryz.L 31 #[.pointer (some ⟨c,0,none⟩),.func (.func 79) #[] #[.pointer (some ⟨w.heap.size,0,none⟩),.pointer (some ⟨w.heap.size+1,0,none⟩),.pointer (some ⟨w.heap.size+1+1,0,none⟩)]]
      (((w.alloc (.cells #[.pointer (some ⟨c,0,none⟩)] 23)).alloc (.cells #[.func (.func f) #[] cap] 112)).alloc (.cells #[v0] 44)) fun e w'=>e=.returned (.tuple #[])/\Behind w Λ k c (w.heap.size+1+1) R w':=by
  generalize hA:((w.alloc (.cells #[.pointer (some ⟨c,0,none⟩)] 23)).alloc (.cells #[.func (.func f) #[] cap] 112)).alloc (.cells #[v0] 44)=wA
  have ok:k≠0:=by omega
  let ΛA:Lab:=fun x=>if x=w.heap.size+1+1 then slip else if x=w.heap.size∨x=w.heap.size+1 then still else Λ x
  have fA:Fr Λ ΛA (fun _=>False) w wA:=by
    rw [← hA]
    refine ((((Fr.refl Λ _ w).alloc _).alloc _).alloc _).relab fun x hx=>?_
    show (if _ then _ else _)=_
    rw [if_neg (by omega),if_neg (by omega)]
  have g0:At wA ΛA still w.heap.size (.cells #[.pointer (some ⟨c,0,none⟩)] 23):=by
    refine ⟨?_,?_⟩
    · rw [← hA,alloc_get,if_neg (by simp only [alloc_size];omega),alloc_get,if_neg (by simp only [alloc_size];omega),alloc_get,if_pos rfl]
    · show (if _ then _ else _)=_
      rw [if_neg (by omega),if_pos (by omega)]
  have g1:At wA ΛA still (w.heap.size+1) (.cells #[.func (.func f) #[] cap] 112):=by
    refine ⟨?_,?_⟩
    · rw [← hA,alloc_get,if_neg (by simp only [alloc_size];omega),alloc_get,if_pos (by simp only [alloc_size])]
    · show (if _ then _ else _)=_
      rw [if_neg (by omega),if_pos (by omega)]
  have g2:At wA ΛA slip (w.heap.size+1+1) (.cells #[v0] 44):=by
    refine ⟨?_,?_⟩
    · rw [← hA,alloc_get,if_pos (by simp only [alloc_size])]
    · show (if _ then _ else _)=_
      rw [if_pos rfl]
  generalize w.heap.size+1+1=be at *
  generalize w.heap.size+1=bw at *
  generalize w.heap.size=bx at *
  clear hA
  have hC0:=hC.fr fA fun _ _ z=>z
  have f1:Fr ΛA ΛA (· = (k,0,0)) wA (wA.setCell ⟨c,0,none⟩ (.int .i32 1)):=Fr.set' hC0.blk.lab
  have hC1:=hC0.setMu 1
  have e0:¬ (slip=((k,0,0):Role)):=by unfold slip;intro h;injection h with h1;omega
  have e1:¬ (still=((k,0,0):Role)):=by unfold still;intro h;injection h with h1;omega
  have e2:¬ own k slip:=by
    rintro (h|h)
    · exact ok h.symm
    · exact absurd h (by decide)
  have hX:=hcl (wA.setCell ⟨c,0,none⟩ (.int .i32 1)) ΛA ((fA.mono fun _ z=>z.elim).trans f1) hC1
  have hW:=lone_work (R:=fun y w2=>∃ Λ2,Fr ΛA Λ2 (own k) (wA.setCell ⟨c,0,none⟩ (.int .i32 1)) w2/\(∃ sh' tx' bg',At w2 Λ2 (k,0,0) c (.cells #[.int .i32 1,.int .u32 0,sh',tx',bg',.chan (some D)] 94 (5,6)))/\R y w2 Λ2) hf ((g0.fr f1 e1).cell rfl) ((g1.fr f1 e1).cell rfl) (hC1.blk.cell rfl) (((hD.fr fA (fun z=>z)).fr f1 (fun h=>hδ (by rw [h]))).obj)
    (be:=be) (hX.mono fun e w2 ⟨y,Λ2,h1,h2,h3,h4⟩=>⟨y,h1,⟨_,((g2.fr f1 e0).fr h2 e2).cell rfl⟩,((g2.fr f1 e0).fr h2 e2).thaw (by simp),Λ2,h2,h3,h4⟩)
  refine (lone_alone (R:=fun w3=>∃ y w2,(∃ Λ2,Fr ΛA Λ2 (own k) (wA.setCell ⟨c,0,none⟩ (.int .i32 1)) w2/\(∃ sh' tx' bg',At w2 Λ2 (k,0,0) c (.cells #[.int .i32 1,.int .u32 0,sh',tx',bg',.chan (some D)] 94 (5,6)))/\R y w2 Λ2)/\w3=w2.setCell ⟨be,0,none⟩ (errO y)) (hC0.blk.cell rfl) (hC0.blk.thaw (by simp)) (hW.mono fun e w3 ⟨h1,y,w2,h2,h3⟩=>⟨h1,?_,?_,y,w2,h2,h3⟩)).mono ?_
  · obtain ⟨Λ2,h4,⟨sh',tx',bg',h5⟩,h6⟩:=h2
    have g4:=((g2.fr f1 e0).fr h4 e2)
    rw [h3]
    exact (h5.fr (Fr.set' (M:=(· = slip)) g4.lab) (Ne.symm e0)).cell rfl
  · obtain ⟨Λ2,h4,⟨sh',tx',bg',h5⟩,h6⟩:=h2
    rw [h3]
    exact thaw_set (h5.thaw (by simp))
  · rintro e w' ⟨rfl,w3,⟨y,w2,⟨Λ2,h4,⟨sh',tx',bg',h5⟩,h6⟩,rfl⟩,rfl⟩
    have g4:=((g2.fr f1 e0).fr h4 e2)
    refine ⟨rfl,y,w2,Λ2,h6,((fA.mono fun _ z=>z.elim).trans (f1.mono fun r h=>.inl (by rw [h]))).trans h4,?_,?_⟩
    · exact (g4.set 0 (errO y)).fr (Fr.set' (M:=(· = (k,0,0))) h5.lab) e0
    · exact Fr.both (Fr.set' g4.lab) _ _
set_option maxHeartbeats 2000000 in
theorem lone_call {δ:Role}{R:Option Addr->World->Lab->Prop}{cap:Array Value}{nm:ByteArray}{at':Int}(hf:∀ (args:Array Value) (u:World),Sem.run Tryz.L (callFunc f args) u=.ok (.enter f args) u)
    (hk:0<k) (hE:Errs w Λ E) (hC:Clu w Λ k c N nt nb 0 sh tx bg D ss ts bs) (hD:At w Λ δ D (.chan cp #[] false s r false)) (hcl:Works w Λ k c N nt nb sh tx bg D ss ts bs f cap R) (hδ:δ.1≠k:=by simp [still];omega) :
    Calls Tryz.L 42 #[.pointer (some ⟨c,0,none⟩),.string nm,.int .i64 at',.func (.func f) #[] cap] w fun e w'=>∃ y w2 Λ2 v Λ',e=.returned v/\R y w2 Λ2/\Fr Λ Λ2 (own k) w w2/\Fr Λ2 Λ' (· = slip) (w2.setCell ⟨c,0,none⟩ (.int .i32 0)) w'/\CallE (.string nm) at' y v w' Λ':=by
  have h3:=hE.glob 3 (by omega) (by omega)
  have hlow:3<w.heap.size:=((hE.low 3 (by omega)).2).1
  have l1:3<w.heap.size+1:=by omega
  have l2:3<w.heap.size+1+1:=by omega
  have l3:3<w.heap.size+2:=by omega
  have hI:=hid' (lone_inner (v0:=errV (E 3)) hf hk hC hD hcl hδ)
  clear hcl hE hC hD hδ
  unfold errV at *
  go_enter LL.func42,Tryz.ntmps42
  go_wp2_with fail
  refine hI.out.mono ?_
  rintro e w' ⟨rfl,y,w2,Λ2,h4,h5,h6,h7⟩
  have c1:=h6.cell (i:=0) rfl
  have hX:=hid' (And.intro h4 (And.intro h5 (And.intro h6 h7)))
  clear h4 h5 h6 h7 hI
  cases y
  · unfold errO at c1
    go_wp2
    go_ret
    exact ⟨none,w2,Λ2,_,Λ2,rfl,hX.out.1,hX.out.2.1,hX.out.2.2.2,rfl⟩
  · rename_i a
    unfold errO errV at c1
    go_wp2
    go_ret
    refine ⟨some a,w2,Λ2,_,fun x=>if x=w'.heap.size then still else Λ2 x,rfl,hX.out.1,hX.out.2.1,(hX.out.2.2.2.alloc _).relab fun x hx=>if_neg ?_,_,rfl,?_⟩
    · have:=hX.out.2.2.2.size
      omega
    · exact At.new w' Λ2 _
end
end
section
def mine (k:Nat) (r:Role):Prop:=own k r∨r=slip
def submitName:ByteArray:={ data:=#[83,117,98,109,105,116] }
section
variable {w w':World}{Λ Λ':Lab}{E:Nat->Addr}{ρo:Role}{k c N nt nb n D cp s r:Nat}{sh tx bg v:Value}{ss ts bs:List Value}{l:List OpD}
noncomputable def subW (w:World) (c:Nat) (v:Value):World:=((w.alloc (.cells #[.pointer (some ⟨c,0,none⟩)] 23)).alloc (.cells #[v] 36)).alloc (.cells #[.int .i64 0] 3)
noncomputable def subΛ (w:World) (Λ:Lab):Lab:=fun x=>if x=w.heap.size+1+1 then priv else if x=w.heap.size∨x=w.heap.size+1 then still else Λ x
theorem subFr:Fr Λ (subΛ w Λ) (fun _=>False) w (subW w c v):=by
  refine ((((Fr.refl Λ _ w).alloc _).alloc _).alloc _).relab fun x hx=>?_
  show (if _ then _ else _)=_
  rw [if_neg (by omega),if_neg (by omega)]
theorem sub_bc:At (subW w c v) (subΛ w Λ) still w.heap.size (.cells #[.pointer (some ⟨c,0,none⟩)] 23):=by
  refine ⟨?_,?_⟩
  · unfold subW
    rw [alloc_get,if_neg (by simp only [alloc_size];omega),alloc_get,if_neg (by simp only [alloc_size];omega),alloc_get,if_pos rfl]
  · show (if _ then _ else _)=_
    rw [if_neg (by omega),if_pos (by omega)]
theorem sub_bo:At (subW w c v) (subΛ w Λ) still (w.heap.size+1) (.cells #[v] 36):=by
  refine ⟨?_,?_⟩
  · unfold subW
    rw [alloc_get,if_neg (by simp only [alloc_size];omega),alloc_get,if_pos (by simp only [alloc_size])]
  · show (if _ then _ else _)=_
    rw [if_neg (by omega),if_pos (by omega)]
theorem sub_bt:At (subW w c v) (subΛ w Λ) priv (w.heap.size+1+1) (.cells #[.int .i64 0] 3):=by
  refine ⟨?_,?_⟩
  · unfold subW
    rw [alloc_get,if_pos (by simp only [alloc_size])]
  · show (if _ then _ else _)=_
    rw [if_pos rfl]
set_option maxHeartbeats 2000000 in
theorem lone_submit_of {δ:Role}{R:Option Addr->World->Lab->Prop}{t:Int}{y:Option Addr}{o:Option Addr}{m cap:Nat}(hv:v=.slice o m cap)(hk:0<k)(hE:Errs w Λ E)(hC:Clu w Λ k c N nt nb 0 sh tx bg D ss ts bs)(hD:At w Λ δ D (.chan cp #[] false s r false))
    (hR:∀ y' w2 Λ2,R y' w2 Λ2->y'=y/\At w2 Λ2 priv (w.heap.size+1+1) (.cells #[.int .i64 t] 3 (0,0)))
    (hW:Works (subW w c v) (subΛ w Λ) k c N nt nb sh tx bg D ss ts bs 43 #[.pointer (some ⟨w.heap.size+1,0,none⟩),.pointer (some ⟨w.heap.size,0,none⟩),.pointer (some ⟨w.heap.size+1+1,0,none⟩)] R) (hδ:δ.1≠k:=by simp [still];omega) :
    Calls Tryz.L 27 #[.pointer (some ⟨c,0,none⟩),v] w fun e w'=>∃ u w2 Λ2 Λ',e=.returned (.tuple #[.int .i64 t,u])/\R y w2 Λ2/\Fr Λ Λ2 (own k) w w2/\Fr Λ2 Λ' (· = slip) (w2.setCell ⟨c,0,none⟩ (.int .i32 0)) w'/\CallE (.string submitName) 0 y u w' Λ':=by
  have hlab:∀ Λ2 w2,Fr Λ Λ2 (own k) w w2->Λ2 c=(k,0,0):=fun Λ2 w2 h=>(h.lab c hC.blk.lt).trans hC.blk.lab
  have e2:¬ (priv=((k,0,0):Role)):=by unfold priv;intro h;injection h with h1;omega
  have hI:=hid' (lone_call (nm:=submitName) (at':=0) LL.call43 hk (hE.fr subFr (fun z=>z)) (hC.fr subFr (fun _ _ z=>z)) (hD.fr subFr (fun z=>z)) hW hδ)
  have hl':=hid' hlab
  have hR':=hid' hR
  clear hW hE hC hD hlab hR hδ
  subst hv
  go_enter LL.func27,Tryz.ntmps27
  go_wp2_with fail
  refine hI.out.mono ?_
  rintro e w' ⟨y',w2,Λ2,u,Λ',rfl,h4,h5,h6,h7⟩
  obtain ⟨rfl,hb⟩:=hR'.out y' w2 Λ2 h4
  have hF:Fr Λ Λ2 (own k) w w2:=(subFr.mono fun _ z=>z.elim).trans h5
  have f2:Fr Λ2 Λ2 (· = (k,0,0)) w2 (w2.setCell ⟨c,0,none⟩ (.int .i32 0)):=Fr.set' (hl'.out _ _ hF)
  have c1:=((hb.fr f2 e2).fr h6 (by decide)).cell (i:=0) rfl
  have hX:=hid' (And.intro h4 (And.intro hF (And.intro h6 h7)))
  clear h4 h5 h6 h7 hF f2 hb hI hR' hl'
  go_wp2
  go_ret2
  exact ⟨u,w2,Λ2,Λ',rfl,hX.out.1,hX.out.2.1,hX.out.2.2.1,hX.out.2.2.2⟩
theorem mine_of {Λ2:Lab}{w2:World}(h:Fr Λ Λ2 (own k) w w2)(hc:Λ2 c=(k,0,0))(f:Fr Λ2 Λ' (· = slip) (w2.setCell ⟨c,0,none⟩ (.int .i32 0)) w'):Fr Λ Λ' (mine k) w w':=
  ((h.mono fun _ z=>.inl z).trans (Fr.set' (M:=mine k) (by rw [hc];exact .inl (.inl rfl)))).trans (f.mono fun _ z=>.inr z)
theorem ne_of_fst {a b:Role}(h:a.1≠b.1):¬ a=b:=fun e=>h (by rw [e])
theorem lone_submit_yes {δ:Role}(hk:0<k)(hE:Errs w Λ E)(hC:Clu w Λ k c N nt nb 0 sh tx bg D ss ts bs)(hD:At w Λ δ D (.chan cp #[] false s r false))(hN:1<=N)(hN4:N<=4)
    (hv:Row w Λ ρo 65 3 v n (clL l)) (hro:¬ own k ρo) (ht:TxL l) (hnt:nt<60) (hnb:nb<400) (hδ:δ.1≠k:=by simp [still];omega) :
    Calls Tryz.L 27 #[.pointer (some ⟨c,0,none⟩),v] w fun e w'=>e=.returned (.tuple #[.int .i64 nt,.nilIface])/\∃ Λ' g tx' bg',Fr Λ Λ' (mine k) w w' /\
      Clu w' Λ' k c N (nt+1) (nb+1) 0 sh tx' bg' D ss (ts++clTx (.slice (some ⟨g,0,none⟩) n n)) (bs ++ [.iface 110 (clBegin (plc (nthOp l 0).key N:Nat) nt (.slice (some ⟨g,0,none⟩) n n))])/\Row w' Λ' still 65 3 (.slice (some ⟨g,0,none⟩) n n) n (clL l):=by
  obtain ⟨o,cap,hvs⟩:=hv.slice
  have e1:¬ (still=((k,0,0):Role)):=ne_of_fst (by simp [still];omega)
  have e2:¬ (priv=((k,0,0):Role)):=ne_of_fst (by simp [priv];omega)
  refine (lone_submit_of (w:=w) (Λ:=Λ) (E:=E) (k:=k) (c:=c) (N:=N) (nt:=nt) (nb:=nb) (D:=D) (cp:=cp) (s:=s) (r:=r) (sh:=sh) (tx:=tx) (bg:=bg) (ss:=ss) (ts:=ts) (bs:=bs) (t:=nt) (y:=none)
    (R:=fun y w2 Λ2=>y=none/\(∃ g tx' bg',Clu w2 Λ2 k c N (nt+1) (nb+1) 1 sh tx' bg' D ss (ts++clTx (.slice (some ⟨g,0,none⟩) n n)) (bs ++ [.iface 110 (clBegin (plc (nthOp l 0).key N:Nat) nt (.slice (some ⟨g,0,none⟩) n n))])/\Row w2 Λ2 still 65 3 (.slice (some ⟨g,0,none⟩) n n) n (clL l))/\At w2 Λ2 priv (w.heap.size+1+1) (.cells #[.int .i64 nt] 3 (0,0)))
    hvs hk hE hC hD (fun y w2 Λ2 h=>⟨h.1,h.2.2⟩) ?_ hδ).mono ?_
  · intro w1 Λ1 f1 hC1
    have hro':¬ (ρo=((k,0,0):Role)):=fun h=>hro (by rw [h];exact .inl rfl)
    refine (lone_sub1_yes hk hC1 hN hN4 (sub_bo.fr f1 e1) (sub_bc.fr f1 e1) (sub_bt.fr f1 e2) ((hv.fr subFr (fun z=>z)).fr f1 hro') hro ht hnt hnb).mono ?_
    rintro e w2 ⟨rfl,Λ2,g,tx',bg',h1,h2,h3,h4⟩
    exact ⟨none,Λ2,rfl,h1,⟨_,_,_,h2.blk⟩,rfl,⟨g,tx',bg',h2,h3⟩,h4⟩
  · rintro e w' ⟨u,w2,Λ2,Λ',rfl,⟨_,⟨g,tx',bg',h2,h3⟩,_⟩,h5,h6,h7⟩
    have hc:Λ2 c=(k,0,0):=h2.blk.lab
    have f2:Fr Λ2 Λ2 (· = (k,0,0)) w2 (w2.setCell ⟨c,0,none⟩ (.int .i32 0)):=Fr.set' hc
    refine ⟨by rw [h7],Λ',g,tx',bg',mine_of h5 hc h6,(h2.setMu 0).fr h6 fun r hr z=>?_,(h3.fr f2 e1).fr h6 (by decide)⟩
    rw [z] at hr
    simp [slip] at hr
    omega
theorem lone_submit_no_of {δ:Role}{i:Nat}(hk:0<k)(hE:Errs w Λ E)(hC:Clu w Λ k c N nt nb 0 sh tx bg D ss ts bs)(hD:At w Λ δ D (.chan cp #[] false s r false))
    (hv:Row w Λ ρo 65 3 v n (clL l))
    (hW:∀ w1 Λ1,Fr (subΛ w Λ) Λ1 (· = (k,0,0)) (subW w c v) w1->Clu w1 Λ1 k c N nt nb 1 sh tx bg D ss ts bs->Calls Tryz.L 43 #[.pointer (some ⟨w.heap.size+1,0,none⟩),.pointer (some ⟨w.heap.size,0,none⟩),.pointer (some ⟨w.heap.size+1+1,0,none⟩)] w1 fun e w2=>e=.returned (errV (E i))/\Fr Λ1 Λ1 (fun _=>False) w1 w2) (hδ:δ.1≠k:=by simp [still];omega) :
    Calls Tryz.L 27 #[.pointer (some ⟨c,0,none⟩),v] w fun e w'=>∃ b Λ',e=.returned (.tuple #[.int .i64 0,.iface 113 (.pointer (some ⟨b,0,none⟩))])/\Fr Λ Λ' (mine k) w w'/\Clu w' Λ' k c N nt nb 0 sh tx bg D ss ts bs/\At w' Λ' still b (.cells #[.string submitName,.int .i64 0,errV (E i)] 117 (0,0)):=by
  obtain ⟨o,cap,hvs⟩:=hv.slice
  have e2:¬ (priv=((k,0,0):Role)):=ne_of_fst (by simp [priv];omega)
  refine (lone_submit_of (w:=w) (Λ:=Λ) (E:=E) (k:=k) (c:=c) (N:=N) (nt:=nt) (nb:=nb) (D:=D) (cp:=cp) (s:=s) (r:=r) (sh:=sh) (tx:=tx) (bg:=bg) (ss:=ss) (ts:=ts) (bs:=bs) (t:=0) (y:=some (E i))
    (R:=fun y w2 Λ2=>y=some (E i)/\Clu w2 Λ2 k c N nt nb 1 sh tx bg D ss ts bs/\At w2 Λ2 priv (w.heap.size+1+1) (.cells #[.int .i64 0] 3 (0,0)))
    hvs hk hE hC hD (fun y w2 Λ2 h=>⟨h.1,h.2.2⟩) ?_ hδ).mono ?_
  · intro w1 Λ1 f1 hC1
    refine (hW w1 Λ1 f1 hC1).mono ?_
    rintro e w2 ⟨rfl,h1⟩
    exact ⟨some (E i),Λ1,rfl,h1.mono fun _ z=>z.elim,⟨_,_,_,(hC1.fr h1 fun _ _ z=>z).blk⟩,rfl,hC1.fr h1 fun _ _ z=>z,(sub_bt.fr f1 e2).fr h1 fun z=>z⟩
  · rintro e w' ⟨u,w2,Λ2,Λ',rfl,⟨_,h2,_⟩,h5,h6,b,rfl,h7⟩
    have hc:Λ2 c=(k,0,0):=h2.blk.lab
    refine ⟨b,Λ',rfl,mine_of h5 hc h6,(h2.setMu 0).fr h6 fun r hr z=>?_,h7⟩
    rw [z] at hr
    simp [slip] at hr
    omega
theorem lone_submit_ops {δ:Role}(hk:0<k)(hE:Errs w Λ E)(hC:Clu w Λ k c N nt nb 0 sh tx bg D ss ts bs)(hD:At w Λ δ D (.chan cp #[] false s r false))
    (hv:Row w Λ ρo 65 3 v n (clL l)) (hro:¬ own k ρo) (hn:n<=5864062014805) (ht:¬ TxL l) (hδ:δ.1≠k:=by simp [still];omega) :
    Calls Tryz.L 27 #[.pointer (some ⟨c,0,none⟩),v] w fun e w'=>∃ b Λ',e=.returned (.tuple #[.int .i64 0,.iface 113 (.pointer (some ⟨b,0,none⟩))])/\Fr Λ Λ' (mine k) w w'/\Clu w' Λ' k c N nt nb 0 sh tx bg D ss ts bs/\At w' Λ' still b (.cells #[.string submitName,.int .i64 0,errV (E 1)] 117 (0,0)):=by
  have e1:¬ (still=((k,0,0):Role)):=ne_of_fst (by simp [still];omega)
  have hro':¬ (ρo=((k,0,0):Role)):=fun h=>hro (by rw [h];exact .inl rfl)
  refine lone_submit_no_of hk hE hC hD hv (fun w1 Λ1 f1 hC1=>?_) hδ
  exact lone_sub1_ops ((hE.fr subFr (fun z=>z)).fr f1 e1) ((sub_bo.fr f1 e1).cell rfl) ((hv.fr subFr (fun z=>z)).fr f1 hro') hn ht
theorem lone_submit_many {δ:Role}(hk:0<k)(hE:Errs w Λ E)(hC:Clu w Λ k c N nt nb 0 sh tx bg D ss ts bs)(hD:At w Λ δ D (.chan cp #[] false s r false))
    (hv:Row w Λ ρo 65 3 v n (clL l)) (hro:¬ own k ρo) (hn:n<=5864062014805) (ht:TxL l) (hmany:60<=nt∨400<=nb) (hδ:δ.1≠k:=by simp [still];omega) :
    Calls Tryz.L 27 #[.pointer (some ⟨c,0,none⟩),v] w fun e w'=>∃ b Λ',e=.returned (.tuple #[.int .i64 0,.iface 113 (.pointer (some ⟨b,0,none⟩))])/\Fr Λ Λ' (mine k) w w'/\Clu w' Λ' k c N nt nb 0 sh tx bg D ss ts bs/\At w' Λ' still b (.cells #[.string submitName,.int .i64 0,errV (E 2)] 117 (0,0)):=by
  have e1:¬ (still=((k,0,0):Role)):=ne_of_fst (by simp [still];omega)
  have hro':¬ (ρo=((k,0,0):Role)):=fun h=>hro (by rw [h];exact .inl rfl)
  refine lone_submit_no_of hk hE hC hD hv (fun w1 Λ1 f1 hC1=>?_) hδ
  exact lone_sub1_many ((hE.fr subFr (fun z=>z)).fr f1 e1) hC1 ((sub_bo.fr f1 e1).cell rfl) ((sub_bc.fr f1 e1).cell rfl) ((hv.fr subFr (fun z=>z)).fr f1 hro') hn ht hmany (sub_bc.fr f1 e1).lt
end
end
end Go.Proofs.Shardlog
namespace Go.Proofs.Shardlog
open Go Go.Conc Go.Tame Go.Proofs Go.RowKit Go.Mem Go.Stop
section
theorem LL.func84:Tryz.L.funcs[84]? = some Tryz.f84:=LL.funcOf Tryz.func84 (by kernel_rfl)
theorem LL.func85:Tryz.L.funcs[85]? = some Tryz.f85:=LL.funcOf Tryz.func85 (by kernel_rfl)
theorem LL.func86:Tryz.L.funcs[86]? = some Tryz.f86:=LL.funcOf Tryz.func86 (by kernel_rfl)
theorem LL.func88:Tryz.L.funcs[88]? = some Tryz.f88:=LL.funcOf Tryz.func88 (by kernel_rfl)
theorem LL.func118:Tryz.L.funcs[118]? = some Tryz.f118:=LL.funcOf Tryz.func118 (by kernel_rfl)
theorem LL.func119:Tryz.L.funcs[119]? = some Tryz.f119:=LL.funcOf Tryz.func119 (by kernel_rfl)
theorem LL.func288:Tryz.L.funcs[288]? = some Tryz.f288:=LL.funcOf Tryz.func288 (by kernel_rfl)
theorem LL.func303:Tryz.L.funcs[303]? = some Tryz.f303:=LL.funcOf Tryz.func303 (by kernel_rfl)
theorem LL.func304:Tryz.L.funcs[304]? = some Tryz.f304:=LL.funcOf Tryz.func304 (by kernel_rfl)
theorem LL.func305:Tryz.L.funcs[305]? = some Tryz.f305:=LL.funcOf Tryz.func305 (by kernel_rfl)
theorem LL.func306:Tryz.L.funcs[306]? = some Tryz.f306:=LL.funcOf Tryz.func306 (by kernel_rfl)
theorem LL.rtypeOf (v:Value)(w:World):(Extern.ReflectliteType.typeOf #[.iface 384 v]).run Tryz.L w=.ok (.iface 199 (.agg #[.pointer (some ⟨10,384,none⟩)])) w:=by kernel_rfl
theorem LL.comparable384 (w:World):((Extern.ReflectliteType.method fun t=>do Extern.Rtype.noPackHeld "Comparable" t;Functor.map (fun a=>Value.bool a.comparable) (typeInfo t)) #[.agg #[.pointer (some ⟨10,384,none⟩)]]).run Tryz.L w=.ok (.bool true) w:=by kernel_rfl
theorem LL.methodComparable (v:Value)(w:World):(Go.method (Tryz.L.types.size+100) 199 v "Comparable").run Tryz.L w=.ok (304,v) w:=by kernel_rfl
theorem LL.comp384:(Tryz.L.info? 384).map (·.comparable)=some true:=by kernel_rfl
theorem LL.size406:(Tryz.L.info? 406).map (·.size)=some 1:=by kernel_rfl
theorem LL.noIsE (v:Value)(xT:TypeId)(w:World):(Instr.typeAssert (.iface 384 v) xT 208 true).run Tryz.L w=.ok (.tuple #[.nilIface,.bool false]) w:=run_typeAssert_lacksB ((LL.underlying 208).trans Tryz.underlying208) (by kernel_rfl) (by kernel_rfl) v xT w
theorem LL.noUnwrapE (v:Value)(xT:TypeId)(w:World):(Instr.typeAssert (.iface 384 v) xT 206 true).run Tryz.L w=.ok (.tuple #[.nilIface,.bool false]) w:=run_typeAssert_lacksB ((LL.underlying 206).trans Tryz.underlying206) (by kernel_rfl) (by kernel_rfl) v xT w
theorem LL.noUnwrapsE (v:Value)(xT:TypeId)(w:World):(Instr.typeAssert (.iface 384 v) xT 207 true).run Tryz.L w=.ok (.tuple #[.nilIface,.bool false]) w:=run_typeAssert_lacksB ((LL.underlying 207).trans Tryz.underlying207) (by kernel_rfl) (by kernel_rfl) v xT w
theorem LL.noIsW (v:Value)(xT:TypeId)(w:World):(Instr.typeAssert (.iface 113 v) xT 208 true).run Tryz.L w=.ok (.tuple #[.nilIface,.bool false]) w:=run_typeAssert_lacksB ((LL.underlying 208).trans Tryz.underlying208) (by kernel_rfl) (by kernel_rfl) v xT w
theorem LL.hasUnwrapW (v:Value)(xT:TypeId)(w:World):(Instr.typeAssert (.iface 113 v) xT 206 true).run Tryz.L w=.ok (.tuple #[.iface 113 v,.bool true]) w:=run_typeAssert_hasB ((LL.underlying 206).trans Tryz.underlying206) (by kernel_rfl) v xT w
theorem LL.methodUnwrap (v:Value)(w:World):(Go.method (Tryz.L.types.size+100) 113 v "Unwrap").run Tryz.L w=.ok (51,v) w:=by kernel_rfl
end
end Go.Proofs.Shardlog
