/- Several texts in one: TamePNew, TameMid, TameShutZ, TameHalt, LoneR, LoneForget, LoneRefNew. -/
import Derived.Test.YtblcigmggdiccaaGreatDoorPart20
import Derived.Test.YtblcigmggdiccaaGreatDoorPart15
import Derived.Test.YtblcigmggdiccaaGreatDoorPart17
import Derived.Test.YtblcigmggdiccaaGreatDoorPart14
set_option linter.unusedSectionVars false
set_option linter.unusedSimpArgs false
set_option linter.unusedVariables false
set_option maxRecDepth 100000
/- Walks of the first goroutine: plain.New. -/
namespace Go.Proofs.Shardlog
open Go Go.Conc Go.Tame Go.Proofs
variable {Ω : World}
section
variable {g : List Rec} {v : World} {N : Nat}
theorem NewAt.base {u v u' : World} {k cb c D : Nat} {ms : List Member} {pos : Nat → Nat} (h : NewAt u u' N k cb c D ms pos) (hh : u.heap = v.heap) (ho : u.os = v.os) : NewAt v u' N k cb c D ms pos := by
  obtain ⟨h1, h2, h3, h6, h7, h8, h9, h10, h11, h12, h13⟩ := h
  rw [hh] at h3 h9 h11 h12
  exact ⟨h1, h2, h3, h6, h7, h8, h9, h10, h11, h12, h13.trans ho⟩
set_option maxHeartbeats 1000000 in
theorem zz_pnew (hΩ : Ω.heap.size ≤ v.heap.size) (h1 : 1 ≤ N) (h4 : N ≤ 4) (hb : Below g v.heap.size) :
    CWCall (ZZ Ω) g 14 #[.int .i64 N] v fun g' y v' => ∃ ms pos, g' = ⟨v.heap.size + 2, v.heap.size + 1, v.heap.size, ms, N, true⟩ :: g ∧ y = .tuple #[.pointer (some ⟨v.heap.size + 1, 0, none⟩), .int .i64 0] ∧ NewAt v v' N N (v.heap.size + 2) (v.heap.size + 1) v.heap.size ms pos := by
  refine ZZ.body (tmps := #[.int .i64 N, undef, undef, undef, undef, undef, undef, undef, undef, undef, undef, undef, undef, undef, undef, undef, undef, undef, undef, undef, undef]) Tryz.func14 (by rfl) (by kernel_rfl) ?_
  intro b cs
  refine CW.seq ZZ.ok (ZZ.plain (by kernel_rfl) (by simp [base]) fun Q u0 hu0 ho0 hQ => ?_)
  go_wp2
  refine CW.seq ZZ.ok (ZZ.pre [_] [_, _, _, _, _, _] (by kernel_rfl) (by simp [base]) fun Q u1 hu1 ho1 hQ => ?_)
  go_wp2
  have e1 : u1.heap = v.heap := by rw [hu1, hu0]
  have o1 : u1.os = v.os := by rw [ho1, ho0]
  have hN := zz_new (Ω := Ω) (g := g) (v := u1) (N := N) (by rw [e1]; exact hΩ) h1 h4 (by rw [e1]; exact hb)
  rw [e1] at hN
  refine CW.callAt ZZ.ok (i := 1) (f := 25) (first := #[]) (captured := #[]) (args := #[.int .i64 N]) rfl rfl (by simp [base]) rfl rfl (by rfl) (by simp [Act.eval]) Tryz.func25 (by kernel_rfl) (by kernel_rfl) hN fun g' y v' hR => ?_
  obtain ⟨ms, pos, rfl, rfl, hA⟩ := hR
  refine ZZ.rest rfl (by kernel_rfl) (by simp [base]) fun Q u2 hu2 ho2 hQ => ?_
  have hA2 := (hA.same hu2 ho2).base e1 o1
  clear hA hN hu2 ho2
  go_wp2
  refine CW.seq ZZ.ok (CW.block ZZ.ok (CW.seq ZZ.ok (ZZ.plain (by kernel_rfl) (by simp [base]) fun Q u3 hu3 ho3 hQ => ?_)))
  have hA3 := hA2.same hu3 ho3
  go_wp2
  refine CW.cond (t := true) ZZ.ok (by rfl) ?_
  simp only [if_true]
  refine CW.seq ZZ.ok (ZZ.plain (by kernel_rfl) (by simp [base]) fun Q u4 hu4 ho4 hQ => ?_)
  have hA4 := hA3.same hu4 ho4
  go_wp2
  exact CW.ret ZZ.ok rfl rfl Tryz.func14 (y := .tuple #[.pointer (some ⟨v.heap.size + 1, 0, none⟩), .int .i64 0]) (fun w => results_two (fn := Tryz.f14) (x := 2) (y := 3) rfl _ _ w) (.done ⟨rfl, _, rfl, ms, pos, rfl, rfl, hA4⟩)
end
end Go.Proofs.Shardlog
/- Walks of the first goroutine: operations in the midst of a region; a call whose contract holds alone. -/
namespace Go.Proofs.Shardlog
open Go Go.Conc Go.Tame Go.Proofs
variable {Ω : World}
section
variable {g : List Rec} {v : World} {cs : List Frame} {X : List Rec → Frame → List Frame → World → Prop} {b : Frame} {a : Act} {k : List Item}
theorem ZZ.mid (pre mid post : List Oper) {rest rest' : List Nat} (hr : rest = List.range' pre.length mid.length ++ rest') (hops : (mid.all fun o => valOp o.op && okOp Tryz.prog o.op) = true) (hk : b.kind ≠ .early)
    (h : ∀ (Q : _root_.Go.Exit → Act → World → Prop) (u : World), u.heap = v.heap → u.os = v.os → (∀ a' v', CW (ZZ Ω) g (b.at a' (.inRegion (pre ++ (mid ++ post)).toArray rest' :: k)) cs v' X → Q .normal a' v') → wpList Tryz.L (pre ++ (mid ++ post)).toArray Q mid a u) : CW (ZZ Ω) g (b.at a (.inRegion (pre ++ (mid ++ post)).toArray rest :: k)) cs v X := by
  rw [hr]
  refine CW.preK ZZ.ok hk mid pre.length a v (fun j hj => ?_) (fun o ho => ?_) fun t _ => h _ (retape v t) rfl rfl fun a' v' hx => ⟨rfl, hx⟩
  · rw [List.getElem?_toArray, List.getElem?_append_right (by omega), show pre.length + j - pre.length = j by omega, List.getElem?_append_left hj]
  · have := List.all_eq_true.1 hops o ho
    simpa using this
theorem ZZ.lone {ops : Array Oper} {i : Nat} {rest : List Nat} {o : Oper} {c : Call} {x : Operand} {f : FuncId} {fn : Func} {first captured args : Array Value} {R : Value → World → Prop} (ho : ops[i]? = some o) (hw : o.guard = none) (hk : b.kind ≠ .early)
    (hop : o.op = .call c) (hc : c.callee = .value x) (hx : a.eval x = .func (.func f) first captured) (ha : first ++ c.args.map a.eval ++ captured = args) (hf : Tryz.prog.funcs[f]? = some fn) (hb : fn.body.isNone = false) (hn : (fn.name == "runtime.NumGoroutine") = false)
    (hsp : spB f = false) (hbl : ((Tryz.FL)[f]?).any (fun fn => !fn.body.isNone) = true)
    (hcl : ∀ u : World, u.heap = v.heap → u.os = v.os → Calls Tryz.L f args u fun e w' => ∃ y, e = .returned y ∧ R y w')
    (hK : ∀ y v', R y v' → CW (ZZ Ω) g (b.at (a.put o.dst y) (.inRegion ops rest :: k)) cs v' X) : CW (ZZ Ω) g (b.at a (.inRegion ops (i :: rest) :: k)) cs v X := by
  refine .enter ZZ.ok ho (by simp [Region.wanted, hw]) hk (fun w => call_enters hop hc hx ha hf hb hn w) (.calls ZZ.ok (fun h => ?_) hbl fun t0 _ => Calls.mono (hcl (retape v t0) rfl rfl) ?_)
  · have h' : f = 90 ∨ f = 91 ∨ deadFn f = true := h
    have : spB f = true := by
      unfold spB
      rcases h' with rfl | rfl | h'
      · rfl
      · rfl
      · rw [h']; simp
    rw [hsp] at this
    cases this
  · rintro e u ⟨y, rfl, hR⟩
    refine ⟨y, rfl, ?_⟩
    rw [Frame.finish_at, ho]
    exact hK y u hR
end
end Go.Proofs.Shardlog
/- Walks of the first goroutine: what Stop does under the mutex. -/
namespace Go.Proofs.Shardlog
open Go Go.Conc Go.Tame Go.Proofs
variable {Ω : World}
noncomputable def shut1 : Array Oper :=
  #[{ dst := some 3, op := .load 23 (.tmp 0), type := 23, pos := "cluster.go:157", after := #[], guard := none }, { dst := some 4, op := .nilCheck (.tmp 3), type := 0, pos := "cluster.go:157", after := #[{ on := 0, ground := .data }], guard := none },
    { dst := some 5, op := .fieldAddr 94 (.tmp 4) 4, type := 0, pos := "cluster.go:157", after := #[{ on := 1, ground := .data }], guard := none }, { dst := some 6, op := .load 85 (.tmp 5), type := 85, pos := "cluster.go:157", after := #[{ on := 2, ground := .data }], guard := none },
    { dst := none, op := .call { callee := .builtin .close, args := #[.tmp 6], argTypes := #[85] }, type := 0, pos := "cluster.go:157", after := #[{ on := 3, ground := .data }], guard := none }]
section
variable {g : List Rec} {fr : Frame} {cs : List Frame} {v : World} {X : List Rec → Frame → List Frame → World → Prop} {b : Frame} {a : Act} {k : List Item} {c o B D cap s rr : Nat} {r : Rec}
/-- stopped, of a cluster that lives. -/
theorem zz_live (hc : v.cell? ⟨c, 5, none⟩ = some (.chan (some D))) (hd : v.heap[D]? = some (.chan cap #[] false s rr false)) (h : ∀ u : World, u.heap = v.heap → u.os = v.os → CW (ZZ Ω) g (b.finish (.bool false)) cs u X) :
    CW (ZZ Ω) g (Frame.enter Tryz.prog 33 #[.pointer (some ⟨c, 0, none⟩)] .normal) (b :: cs) v X := by
  refine .calls ZZ.ok (fun h => ?_) (by kernel_rfl) fun t _ => ?_
  · rcases h with h | h | h
    · cases h
    · cases h
    · revert h; decide
  · refine Calls.mono (lone_live (v := retape v t) hc hd) ?_
    rintro e v' ⟨rfl, rfl⟩
    exact ⟨_, rfl, h _ rfl rfl⟩
/-- What the first goroutine finds as it closes the channel. -/
theorem zz_firm {w : World} {In : Nat → Option Chair} (hr : r ∈ g) (hlv : r.live = true) (hn : r.cnt = r.ms.length) (hB : v.cell? ⟨B, 0, none⟩ = some (.pointer (some ⟨r.c, 0, none⟩))) (hd : v.heap[r.D]? = some (.chan cap #[] false s rr false)) (hl : Like (protOf Ω g) w v) (hj : Held g w In) {ops : Array Oper} {gg : Goroutine} (hw : mayWake Tryz.prog gg = true)
    (hst : ∀ (d : Nat) (k : Nat × Nat), w.heap[r.D]? = some (.chan cap #[] false k.1 k.2 false) → stepG Tryz.prog true gg (w.at d) = .go (G ((base 32).at ⟨shutTmps r.c B r.D undef undef undef, []⟩ [.inRegion ops [], .code (.region 2 shut2 false)]) (b :: cs)) ((w.at d).setChan r.D cap #[] true k.1 k.2 false) (closeEvents r.D)) :
    ∃ (K : World → Prop) (st sm : Addr) (Head : Goroutine → Prop) (own : Addr → Prop) (D : Nat) (js : List Nat) (cq m : Nat) (k : Nat × Nat) (a' : Goroutine), Firm Tryz.prog (protOf Ω g) K st sm (qf r.c B r.D) (b :: cs) Head own D js In ∧ w.heap[D]? = some (.chan cq #[] false k.1 k.2 false) ∧
      (∀ d, stepG Tryz.prog true gg (w.at d) = .go a' ((w.at d).setChan D cq #[] true k.1 k.2 false) (closeEvents D)) ∧ a'.status = .running ∧ mayWake Tryz.prog gg = true ∧ 0 ∉ js ∧ (∀ j ∈ js, ∃ c, In j = some c) ∧ (∀ j c, In j = some c → c.seat.has D → j ∈ js) ∧
      K ((w.at 0).setChan D cq #[] true k.1 k.2 false) ∧ w.cell? st = some (.int .u64 ((js.length : Int) * 4294967296)) ∧ w.cell? sm = some (.int .u32 0) ∧ w.frozen? st = false ∧ w.frozen? sm = false ∧ WayD Tryz.prog true K (E0 own) (fun d g => d = 1 ∧ Head g) m 0 a' ∧
      ∀ w', Tame.Shut st sm D cq k w w' → Like (protOf Ω g) w' (v.setChan r.D cap #[] true s rr false) ∧ Held (shutRec r.D g) w' (left In js) := by
  obtain ⟨k, hk⟩ := hl.chanOf hd
  have g6 : (protOf Ω g).gone ⟨r.c, 6, none⟩ := ⟨r, hr, .inl rfl⟩
  have g7 : (protOf Ω g).gone ⟨r.c, 7, none⟩ := ⟨r, hr, .inr rfl⟩
  obtain ⟨c6, c7⟩ := hj.count r hr hlv
  obtain ⟨⟨y, e, f, hy, hlt⟩, f7⟩ := hl.warm g7 c7
  obtain ⟨_, f6⟩ := hl.warm g6 c6
  have hne : r.D ≠ r.c := fun e => by
    rw [e] at hk
    rw [hk] at hy
    cases hy
  refine ⟨shutK B r.c, ⟨r.c, 6, none⟩, ⟨r.c, 7, none⟩, _, fun a => a = ⟨B, 0, none⟩, r.D, r.ms.map (·.j), cap, 13, k, _, shut_firm hr hlv hj (hl.notGone hB), hk, fun d => hst d k hk, rfl, hw, fun h => ?_, fun j h => ?_, fun j ch h1 h2 => ?_, ?_, ?_, c7, f6, f7, shut_way (fun w h => h.2) rfl, fun w' hs => ⟨hl.shut g6 g7 hk hd hs, hj.shut hr hlv hk hs⟩⟩
  · obtain ⟨x, hx, e⟩ := List.mem_map.1 h
    exact (hj.nodup r hr hlv).2.1 x hx e
  · obtain ⟨x, hx, rfl⟩ := List.mem_map.1 h
    exact ⟨_, hj.sits r hr hlv x hx⟩
  · obtain ⟨r', hr', hl', x, hx, rfl, rfl⟩ := hj.who j ch h1
    rcases seat_has h2 with h | h
    · obtain rfl := (hj.apart r hr r' hr' hlv hl').1 h
      exact List.mem_map.2 ⟨x, hx, rfl⟩
    · exact absurd h ((hj.apart r hr r' hr' hlv hl').2.2 x hx)
  · refine ⟨⟨y, e, f, ?_, hlt⟩, ?_⟩
    · rw [heap_setChan_ne _ _ _ _ _ _ _ hne]
      exact hy
    · rw [setChan_cell (w := w.at 0) hk]
      exact hl.cell hB
  · rw [List.length_map, ← hn]
    exact c6
theorem zz_close {cs0 : List Frame} (hr : r ∈ g) (hlv : r.live = true) (hn : r.cnt = r.ms.length) (hB : v.cell? ⟨B, 0, none⟩ = some (.pointer (some ⟨r.c, 0, none⟩))) (hd : v.heap[r.D]? = some (.chan cap #[] false s rr false)) (hw : mayWake Tryz.prog (G fr cs0) = true)
    (hst : ∀ (w : World) (d : Nat) (k : Nat × Nat), w.heap[r.D]? = some (.chan cap #[] false k.1 k.2 false) → stepG Tryz.prog true (G fr cs0) (w.at d) = .go (G ((base 32).at ⟨shutTmps r.c B r.D undef undef undef, []⟩ [.inRegion shut1 [], .code (.region 2 shut2 false)]) (b :: cs)) ((w.at d).setChan r.D cap #[] true k.1 k.2 false) (closeEvents r.D))
    (hX : CW (ZZ Ω) (shutRec r.D g) ((qf r.c B r.D).finish (.tuple #[])) (b :: cs) (v.setChan r.D cap #[] true s rr false) X) : CW (ZZ Ω) g fr cs0 v X := by
  exact CW.stops (g' := shutRec r.D g) (b := qf r.c B r.D) (cs' := b :: cs) (v' := v.setChan r.D cap #[] true s rr false) protOf_shut (fun w In hl hj => zz_firm (gg := G fr cs0) hr hlv hn hB hd hl hj hw fun d k hk => hst w d k hk) hX
/-- Function 32: the cluster is stopped. -/
theorem zz_shut (hr : r ∈ g) (hlv : r.live = true) (hn : r.cnt = r.ms.length) (hB : v.cell? ⟨B, 0, none⟩ = some (.pointer (some ⟨r.c, 0, none⟩))) (hc : v.cell? ⟨r.c, 5, none⟩ = some (.chan (some r.D))) (hd : v.heap[r.D]? = some (.chan cap #[] false s rr false)) :
    CWCall (ZZ Ω) g 32 #[.pointer (some ⟨B, 0, none⟩)] v fun g' _ v' => g' = shutRec r.D g ∧ ∃ u : World, u.heap = v.heap ∧ u.os = v.os ∧ v' = u.setChan r.D cap #[] true s rr false := by
  obtain ⟨rcb, c, D, rms, rcnt, rlive⟩ := r
  dsimp only at hlv hn hB hc hd ⊢
  refine ZZ.body (tmps := #[.pointer (some ⟨B, 0, none⟩), undef, undef, undef, undef, undef, undef, undef, undef, undef, undef]) Tryz.func32 (by rfl) (by rfl) ?_
  intro b cs
  refine CW.seq ZZ.ok (CW.seq ZZ.ok (ZZ.pre [_] [_] (by kernel_rfl) (by simp [base]) fun Q u hu ho hQ => ?_))
  rw [← cell_heap hu] at hc hB
  rw [← hu] at hd
  go_wp2
  refine .enter ZZ.ok (i := 1) rfl (by simp [Region.wanted]) (by simp [base]) (fun w => call_enters (f := 33) (first := #[]) (captured := #[]) (args := #[.pointer (some ⟨c, 0, none⟩)]) rfl rfl rfl (by simp [Act.eval]) Tryz.func33 (by kernel_rfl) (by kernel_rfl) w) (zz_live hc hd fun u1 hu1 ho1 => ?_)
  rw [Frame.finish_at]
  rw [← cell_heap hu1] at hc hB
  rw [← hu1] at hd
  refine .regionEnd ZZ.ok (CW.cond (t := false) ZZ.ok (by rfl) ?_)
  simp only [if_false, Bool.false_eq_true]
  refine CW.skip ZZ.ok (CW.seq ZZ.ok (ZZ.pre [_, _, _, _] [_] (by kernel_rfl) (by simp [base]) fun Q u2 hu2 ho2 hQ => ?_))
  rw [← cell_heap hu2] at hc hB
  rw [← hu2] at hd
  go_wp2
  refine zz_close (r := ⟨rcb, c, D, rms, rcnt, rlive⟩) (b := b) (cs := cs) (B := B) hr hlv hn hB hd (by rfl) (fun w d k hk => ?_) ?_
  · exact stepG_close (P := Tryz.prog) (w := w.at d) (ops := shut1) (b := base 32) (a := ⟨shutTmps c B D undef undef undef, []⟩) (i := 4) (rest := []) (x := .tmp 6) rfl (by rfl) (by simp [base]) rfl (by rfl) hk (by kernel_rfl)
  · unfold qf
    rw [Frame.finish_at]
    refine .regionEnd ZZ.ok (.atEnd ZZ.ok (.leave ZZ.ok (fn := Tryz.f32) (y := .tuple #[]) rfl rfl (.inl rfl) Tryz.func32 (fun w _ => ⟨results_none rfl _ _ _, fun e he => by simp [results] at he⟩) (.done ⟨rfl, _, rfl, rfl, u2, ?_, ?_, rfl⟩)))
    · rw [hu2, hu1, hu]
    · rw [ho2, ho1, ho]
end
end Go.Proofs.Shardlog
/- Walks of the first goroutine: Stop, of a cluster that lives. -/
namespace Go.Proofs.Shardlog
open Go Go.Conc Go.Tame Go.Proofs
variable {Ω : World}
section
variable {g : List Rec} {v : World} {cap s rr : Nat} {r : Rec}
/-- The world once a cluster has been stopped. -/
structure Halted (v v' : World) (D cap s rr : Nat) : Prop where
  chan : v'.heap[D]? = some (.chan cap #[] true s rr false)
  old : ∀ x, x < v.heap.size → x ≠ D → v'.heap[x]? = v.heap[x]?
  size : v.heap.size ≤ v'.heap.size
  os : v'.os = v.os
theorem setCell_ne {u : World} {a : Addr} {y : Value} {i : Nat} (h : i ≠ a.block) : (u.setCell a y).heap[i]? = u.heap[i]? := by
  simp only [World.setCell, Array.getElem?_modify]
  rw [if_neg (Ne.symm h)]
theorem setCell_size (u : World) (a : Addr) (y : Value) : (u.setCell a y).heap.size = u.heap.size := by simp [World.setCell]
/-- What is written over and written back stands. -/
theorem setCell_back {u u' : World} {a : Addr} {x y : Value} (hc : u.cell? a = some x) (h : u'.heap[a.block]? = (u.setCell a y).heap[a.block]?) : (u'.setCell a x).heap[a.block]? = u.heap[a.block]? := by
  unfold World.cell? at hc
  simp only [World.setCell, Array.getElem?_modify, if_true] at h ⊢
  rw [h]
  cases hb : u.heap[a.block]? with
  | none => rfl
  | some o =>
    rw [hb] at hc
    cases o with
    | cells c e f =>
      by_cases hs : a.spot.isSome = true
      · simp [hs] at hc
      · simp only [hs, Bool.false_eq_true, if_false] at hc
        simp only [Option.map_some, hs, Bool.false_eq_true, if_false]
        congr 2
        apply Array.ext_getElem?
        intro i
        rw [Array.getElem?_setIfInBounds, Array.getElem?_setIfInBounds]
        by_cases hi : a.off = i
        · subst hi
          have hlt := (Array.getElem?_eq_some_iff.1 hc).1
          rw [hc]
          simp [hlt]
        · simp [hi]
    | _ => rfl
theorem setCell_same_cell {u : World} {a : Addr} {x y : Value} (hc : u.cell? a = some x) : (u.setCell a y).cell? a = some y := World.cell?_setCell_same _ _ _ hc
theorem setCell_frozen (u : World) (a b : Addr) (y : Value) : (u.setCell a y).frozen? b = u.frozen? b := by
  unfold World.frozen?
  simp only [World.setCell, Array.getElem?_modify]
  by_cases h : a.block = b.block
  · simp only [h, if_true]
    cases u.heap[b.block]? with
    | none => rfl
    | some o => cases o <;> rfl
  · simp [h]
/-- Function 21: Stop. -/
theorem zz_stop (hr : r ∈ g) (hlv : r.live = true) (hn : r.cnt = r.ms.length) (hm : v.cell? ⟨r.c, 0, none⟩ = some (.int .i32 0)) (hz : v.frozen? ⟨r.c, 0, none⟩ = false) (hc : v.cell? ⟨r.c, 5, none⟩ = some (.chan (some r.D))) (hd : v.heap[r.D]? = some (.chan cap #[] false s rr false)) :
    CWCall (ZZ Ω) g 21 #[.pointer (some ⟨r.c, 0, none⟩)] v fun g' y v' => g' = shutRec r.D g ∧ y = .tuple #[] ∧ Halted v v' r.D cap s rr := by
  obtain ⟨rcb, c, D, rms, rcnt, rlive⟩ := r
  dsimp only at hlv hn hm hz hc hd ⊢
  have hlt : c < v.heap.size := by
    unfold World.cell? at hc
    rcases Nat.lt_or_ge c v.heap.size with h | h
    · exact h
    · rw [Array.getElem?_eq_none_iff.2 h] at hc
      simp at hc
  have hDlt : D < v.heap.size := (Array.getElem?_eq_some_iff.1 hd).1
  have hDc : D ≠ c := fun e => by
    subst e
    unfold World.cell? at hc
    rw [hd] at hc
    cases hc
  refine ZZ.body (tmps := #[.pointer (some ⟨c, 0, none⟩), undef, undef, undef, undef]) Tryz.func21 (by rfl) (by rfl) ?_
  intro b cs
  refine CW.seq ZZ.ok (ZZ.plain (by kernel_rfl) (by simp [base]) fun Q u hu ho hQ => ?_)
  go_wp2
  refine ZZ.pre [_, _] [_] (by kernel_rfl) (by simp [base]) fun Q u1 hu1 ho1 hQ => ?_
  have gr : Grown v u1 := (Grown.same hu ho).trans ((Grown.alloc u _).trans (Grown.same hu1 ho1))
  have hB : u1.cell? ⟨u.heap.size, 0, none⟩ = some (.pointer (some ⟨c, 0, none⟩)) := by
    rw [cell_heap hu1]
    exact box_cell u _ 23
  have huv : u.heap.size = v.heap.size := by rw [hu]
  rw [huv] at hB
  have hm1 := gr.cell hm
  have hc1 := gr.cell hc
  have hz1 : u1.frozen? ⟨c, 0, none⟩ = false := by
    rw [← hz]
    unfold World.frozen?
    rw [gr.heap c hlt]
  have hd1 : u1.heap[D]? = some (.chan cap #[] false s rr false) := by rw [gr.heap D hDlt, hd]
  go_wp2
  refine CW.callAt (R := fun g' y v' => g' = shutRec D g ∧ y = .tuple #[] ∧ Halted v v' D cap s rr) ZZ.ok (i := 2) (rest := []) (f := 31) (first := #[]) (captured := #[]) (args := #[.pointer (some ⟨c, 0, none⟩), .func (.func 32) #[] #[.pointer (some ⟨v.heap.size, 0, none⟩)]]) rfl rfl (by simp [base]) rfl rfl (by rfl) (by simp [Act.eval]) Tryz.func31 (by kernel_rfl) (by kernel_rfl)
    (zz_alone (K := fun g' u' => g' = shutRec D g ∧ ∃ u2 : World, u2.heap = (u1.setCell ⟨c, 0, none⟩ (.int .i32 1)).heap ∧ u2.os = u1.os ∧ u'.heap = (u2.setChan D cap #[] true s rr false).heap ∧ u'.os = u2.os) Tryz.func32 (by kernel_rfl) (by kernel_rfl) hm1 hz1 (fun u2 hu2 ho2 => ?_) (fun g' u' hK => ?_)) fun g' y v' hR => ?_
  · intro b' cs'
    refine (zz_shut (r := ⟨rcb, c, D, rms, rcnt, rlive⟩) (cap := cap) (s := s) (rr := rr) (B := v.heap.size) hr hlv hn ?_ ?_ ?_ b' cs').mono fun g' fr' cs' v' h => ?_
    · rw [cell_heap hu2, World.cell?_setCell_other _ _ _ _ (by simp <;> omega)]
      exact hB
    · rw [cell_heap hu2, World.cell?_setCell_other _ _ _ _ (by simp)]
      exact hc1
    · rw [hu2, setCell_ne hDc]
      exact hd1
    · obtain ⟨h1, y, h2, h3, u3, h4, h5, h6⟩ := h
      refine ⟨h1, y, h2, h3, u3, h4.trans hu2, h5.trans ho2, by rw [h6], by rw [h6]; rfl⟩
  · obtain ⟨rfl, u2, k1, k2, k3, k4⟩ := hK
    have hd2 : u2.heap[D]? = some (.chan cap #[] false s rr false) := by
      rw [k1, setCell_ne hDc]
      exact hd1
    refine ⟨?_, ?_, fun u'' h1 h2 => ⟨rfl, rfl, ?_, fun x hx hxD => ?_, ?_, ?_⟩⟩
    · rw [cell_heap k3, setChan_cell hd2, cell_heap k1]
      exact setCell_same_cell hm1
    · rw [frozen_heap k3, setChan_frozen hd2, frozen_heap k1, setCell_frozen]
      exact hz1
    · rw [setCell_ne hDc, h1, k3]
      exact heap_setChan_self _ hd2 _ _ _ _ _ _
    · rw [← gr.heap x hx]
      by_cases hxc : x = c
      · subst hxc
        refine setCell_back (a := ⟨x, 0, none⟩) (y := .int .i32 1) hm1 ?_
        show u''.heap[x]? = _
        rw [h1, k3, heap_setChan_ne _ _ _ _ _ _ _ hDc, k1]
      · rw [setCell_ne hxc, h1, k3, heap_setChan_ne _ _ _ _ _ _ _ (Ne.symm hxD), k1, setCell_ne hxc]
    · rw [setCell_size, h1, k3]
      have : (u2.setChan D cap #[] true s rr false).heap.size = u2.heap.size := by simp [World.setChan]
      rw [this, k1, setCell_size]
      exact gr.size
    · rw [setCell_os, h2, k4, k2]
      exact gr.os
  · exact .regionEnd ZZ.ok (.atEnd ZZ.ok (.leave ZZ.ok (fn := Tryz.f21) (y := .tuple #[]) rfl rfl (.inl rfl) Tryz.func21 (fun w _ => ⟨results_none rfl _ _ _, fun e he => by simp [results] at he⟩) (.done ⟨rfl, _, rfl, hR.1, rfl, hR.2.2⟩)))
end
end Go.Proofs.Shardlog
/- Package plain's Submit, alone. -/
namespace Go.Proofs.Shardlog
open Go Go.Conc Go.Tame Go.Proofs Go.RowKit Go.Mem
/-- The list that plain.Submit makes, and hands over. -/
def lent : Role := (0, 3, 0)
section
variable {w : World} {Λ : Lab} {E : Nat → Addr} {ρo : Role} {k c n : Nat} {v : Value} {l : List OpD}
theorem run_append_none (o : Option Addr) (c : Nat) (ty : TypeId) : (Builtin.append_ #[36, 36] ty #[.slice none 0 0, .slice o 0 c]).run Tryz.L w = .ok (.slice none 0 0) w := by
  have h : Tryz.L.underlying 36 = some (.slice 65) := und36
  obtain ⟨i, z, h1, h2, h3, h4, h5⟩ := slot65
  cases o <;> simp [Builtin.append_, run_underlying h, Builtin.lenOf, Builtin.firstCells, sizeOf, typeInfo, h1, loadCells, loadCellsFrom, Sem.run]
theorem copy_out (hr : Row w Λ ρo 65 3 v n (clL l)) (hn : n ≤ 5864062014805) (ty : TypeId) :
    ∃ v' w' Λ', (Builtin.append_ #[36, 36] ty #[.slice none 0 0, v]).run Tryz.L w = .ok v' w' ∧ Fr Λ Λ' (· = lent) w w' ∧ Row w' Λ' lent 65 3 v' n (clL l) := by
  rcases Nat.eq_zero_or_pos n with rfl | h0
  · obtain ⟨o, c, rfl⟩ := hr.slice
    have hl : l = [] := List.eq_nil_of_length_eq_zero (by have := hr.len; rw [len_clL] at this; omega)
    subst hl
    exact ⟨_, w, Λ, run_append_none o c ty, Fr.refl _ _ _, Row.nil _ _ _ _ _⟩
  · obtain ⟨g, cap, rfl, h1, h2, h3, h4⟩ := hr.some h0
    have hlen := hr.len
    obtain ⟨v', w', Λ', k1, k2, k3⟩ := run_append_row (ρ := lent) (t := 36) (t' := 36) (e := 65) (e' := 65) (c := cap) slotOp und36 (Row.nil w Λ lent 65 3) (m := n) (news := clL l) (p := ⟨g, 0, none⟩) hlen (hr.own.cells rfl) (one_clL l) (by unfold maxLen; omega) (by omega) ty
    rw [Nat.zero_add, List.nil_append] at k3
    exact ⟨v', w', Λ', k1, k2, k3⟩
theorem copy_list {ops : Array Oper} {rest : List Oper} {o : Oper} {a : Act} {Q : _root_.Go.Exit → Act → World → Prop} (x y : Operand) (hg : o.guard = none) (hop : o.op = .call { callee := .builtin .append, args := #[x, y], argTypes := #[36, 36] })
    (hr : Row w Λ ρo 65 3 v n (clL l)) (hn : n ≤ 5864062014805) (hx : a.eval x = .slice none 0 0) (hy : a.eval y = v)
    (hK : ∀ v' w' Λ', Fr Λ Λ' (· = lent) w w' → Row w' Λ' lent 65 3 v' n (clL l) → wpList Tryz.L ops Q rest (a.put o.dst v') w') : wpList Tryz.L ops Q (o :: rest) a w := by
  refine wpList_plain hg fun K hK' => ?_
  obtain ⟨v', w', Λ', h1, h2, h3⟩ := copy_out hr hn o.type
  have e : execOp a.eval o = (do pure (Next.value (← Builtin.append_ #[36, 36] o.type #[.slice none 0 0, v])) : Sem Next) := by
    unfold execOp
    rw [hop]
    show builtin .append #[36, 36] o.type (#[x, y].map fun | .const _ => true | _ => false) (#[x, y].map a.eval) = _
    have : (#[x, y].map a.eval) = #[.slice none 0 0, v] := by simp [hx, hy]
    rw [this]
    rfl
  unfold Oper.wp
  rw [e, Sem.run_bind, h1]
  exact hK' _ _ (hK v' w' Λ' h2 h3)
/-- What plain.number makes of an error of Submit's. -/
def NumV (E : Nat → Addr) (u : Value) (m : Nat) (w : World) (Λ : Lab) : Prop :=
  (u = .nilIface ∧ m = 0) ∨ ∃ b i, i < 9 ∧ u = .iface 113 (.pointer (some ⟨b, 0, none⟩)) ∧ At w Λ still b (.cells #[.string submitName, .int .i64 0, errV (E (ordE i))] 117 (0, 0)) ∧ m = i + 1
theorem NumV.fr {Λ' : Lab} {M : Role → Prop} {w' : World} {u : Value} {m : Nat} (h : NumV E u m w Λ) (f : Fr Λ Λ' M w w') (hm : ¬ M still) : NumV E u m w' Λ' :=
  h.imp id fun ⟨b, i, h1, h2, h3, h4⟩ => ⟨b, i, h1, h2, h3.fr f hm, h4⟩
theorem lone_numV {u : Value} {m : Nat} (hE : Errs w Λ E) (h : NumV E u m w Λ) : Calls Tryz.L 28 #[u, .string submitName, .int .i64 0] w fun e w' => e = .returned (.int .i64 m) ∧ ∃ Λ', Fr Λ Λ' (· = slip) w w' := by
  rcases h with ⟨rfl, rfl⟩ | ⟨b, i, h1, rfl, h3, rfl⟩
  · exact lone_number_nil.mono fun e w' ⟨h, h'⟩ => by subst h'; exact ⟨h, Λ, Fr.refl _ _ _⟩
  · exact (lone_number h1 hE h3).mono fun e w' ⟨h, h'⟩ => ⟨by rw [h]; simp, h'⟩
def mineL (k : Nat) (r : Role) : Prop := mine k r ∨ r = lent
set_option maxHeartbeats 4000000 in
theorem lone_psub_of {t : Int} {m : Nat} {R : World → Lab → Prop} (hE : Errs w Λ E) (hv : Row w Λ ρo 65 3 v n (clL l)) (hn : n ≤ 5864062014805)
    (hS : ∀ v' w1 Λ1, Fr Λ Λ1 (· = lent) w w1 → Row w1 Λ1 lent 65 3 v' n (clL l) → Calls Tryz.L 27 #[.pointer (some ⟨c, 0, none⟩), v'] w1 fun e w2 => ∃ u Λ2, e = .returned (.tuple #[.int .i64 t, u]) ∧ NumV E u m w2 Λ2 ∧ Fr Λ1 Λ2 (mine k) w1 w2 ∧ R w2 Λ2) (hk : 0 < k) :
    Calls Tryz.L 18 #[.pointer (some ⟨c, 0, none⟩), v] w fun e w' => ∃ w2 Λ2 Λ', e = .returned (.tuple #[.int .i64 t, .int .i64 m]) ∧ R w2 Λ2 ∧ Fr Λ Λ2 (mineL k) w w2 ∧ Fr Λ2 Λ' (fun r => r = lent ∨ r = slip) w2 w' := by
  have hS' := hid' hS
  have hE' := hid' hE
  have hv' := hid' hv
  clear hS hE
  obtain ⟨o, cap, rfl⟩ := hv.slice
  clear hv
  go_enter LL.func18, Tryz.ntmps18
  go_wp2_with (at_builtin; refine park ?_)
  refine copy_list _ _ rfl rfl hv'.out hn rfl rfl (fun v1 w1 Λ1 hF1 hR1 => ?_)
  obtain ⟨o', cap', rfl⟩ := hR1.slice
  have hF1' := hid' hF1
  have hR1' := hid' hR1
  clear hF1 hR1
  go_wp2_with fail
  refine (hS'.out _ _ _ hF1'.out hR1'.out).mono ?_
  rintro e w2 ⟨u, Λ2, rfl, h1, h2, h3⟩
  have hR2 := hid' (hR1'.out.fr h2 (by rintro ((h | h) | h) <;> simp [lent, priv, slip] at h; omega))
  have hX := hid' (And.intro h1 (And.intro h2 h3))
  clear h1 h2 h3
  go_wp2
  go_loopw [20] (fun j wr => ∃ k : Nat, k ≤ n ∧ j = .int .i64 k ∧ Fr Λ2 Λ2 (· = lent) w2 wr ∧ ∀ g, o' = some ⟨g, 0, none⟩ → ∃ cur, At wr Λ2 lent g (.cells cur 65 (0, 0)) ∧ n * 3 ≤ cur.size) (fun j _ => n - (intOf j).toNat)
  case atStart =>
    refine ⟨0, by omega, rfl, Fr.refl _ _ _, fun g hg => ?_⟩
    subst hg
    rcases hR2.out.own.2 with ⟨h, _⟩ | ⟨g', cap, cur, h, _, h4, _, _, h7, _⟩
    · cases h
    · cases h
      exact ⟨cur, ⟨h4, hR2.out.lab _ rfl⟩, by omega⟩
  case round =>
    obtain ⟨k', hk', rfl, hF2, hB⟩ := hrel
    by_cases hlt : k' < n
    · obtain ⟨g, cp, hs, hcp, _⟩ := hR2.out.some (by omega)
      cases hs
      obtain ⟨cur, hat, hsz⟩ := hB g rfl
      have x0 : wr.cell? ⟨g, k' * 3, none⟩ = some cur[k' * 3] := hat.cell (by simp)
      have x1 : wr.cell? ⟨g, k' * 3 + 1, none⟩ = some cur[k' * 3 + 1] := hat.cell (by simp)
      have x2 : wr.cell? ⟨g, k' * 3 + 2, none⟩ = some cur[k' * 3 + 2] := hat.cell (by simp)
      have z0 : wr.frozen? ⟨g, k' * 3, none⟩ = false := hat.thaw (by simp)
      have z1 : wr.frozen? ⟨g, k' * 3 + 1, none⟩ = false := hat.thaw (by simp)
      have z2 : wr.frozen? ⟨g, k' * 3 + 2, none⟩ = false := hat.thaw (by simp)
      have a1 := hat.set (k' * 3) (.bool true)
      have a2 := a1.set (k' * 3 + 1) (.int .u8 122)
      have a3 := hid' (a2.set (k' * 3 + 2) (.int .i32 (-1)))
      have f3 := hid' (((hF2.trans (Fr.set' (a := ⟨g, k' * 3, none⟩) (y := .bool true) hat.lab)).trans (Fr.set' (a := ⟨g, k' * 3 + 1, none⟩) (y := .int .u8 122) a1.lab)).trans (Fr.set' (a := ⟨g, k' * 3 + 2, none⟩) (y := .int .i32 (-1)) a2.lab))
      clear a1 a2
      go_wp2
      go_roundw
      case rel => exact ⟨k' + 1, by omega, by go_num, f3.out, fun g' hg' => by cases hg'; exact ⟨_, a3.out, by simp; omega⟩⟩
      case measure => simp [intOf]; omega
    · obtain rfl : k' = n := by omega
      obtain ⟨h1, h2, h3⟩ := hX.out
      have hm : ¬ (mineL k still ∨ still = lent) := by simp [mineL, mine, own, still, lent, priv, slip]; omega
      have hm' : ¬ mine k still := fun h => hm (.inl (.inl h))
      have hE2 := (((hE'.out.fr hF1'.out (by decide)).fr h2 hm').fr hF2 (by decide))
      have hN := h1.fr hF2 (by decide)
      have hc := hid' (lone_numV hE2 hN)
      have hR := hid' h3
      have hFA := hid' ((hF1'.out.mono (M' := mineL k) fun r h => .inr h).trans (h2.mono fun r h => .inl h))
      have hFB := hid' hF2
      clear hE2 hN h1 h2 h3 hF2 hB hX hE' hF1'
      unfold submitName at hc
      go_wp2_with (go_at_call 28; refine hc.out.mono ?_; rintro e w3 ⟨rfl, Λ', hF3⟩)
      go_ret2
      exact ⟨w2, Λ2, Λ', rfl, hR.out, hFA.out, (hFB.out.mono fun r h => .inl h).trans (hF3.mono fun r h => .inr h)⟩
section
variable {N nt nb D cp s r : Nat} {sh tx bg : Value} {ss ts bs : List Value}
theorem not_lent {k : Nat} (hk : 0 < k) : ¬ own k lent := by simp [own, lent, priv]; omega
theorem mineL_of {Λ' Λ2 : Lab} {w2 w' : World} (h : Fr Λ Λ2 (mineL k) w w2) (f : Fr Λ2 Λ' (fun r => r = lent ∨ r = slip) w2 w') : Fr Λ Λ' (mineL k) w w' :=
  h.trans (f.mono fun r h => h.elim (fun h => .inr h) (fun h => .inl (.inr h)))
theorem lone_psub_yes (hk : 0 < k) (hE : Errs w Λ E) (hC : Clu w Λ k c N nt nb 0 sh tx bg D ss ts bs) (hD : At w Λ still D (.chan cp #[] false s r false)) (hN : 1 ≤ N) (hN4 : N ≤ 4)
    (hv : Row w Λ ρo 65 3 v n (clL l)) (hn : n ≤ 5864062014805) (ht : TxL l) (hnt : nt < 60) (hnb : nb < 400) :
    Calls Tryz.L 18 #[.pointer (some ⟨c, 0, none⟩), v] w fun e w' => e = .returned (.tuple #[.int .i64 nt, .int .i64 0]) ∧ ∃ Λ' g tx' bg', Fr Λ Λ' (mineL k) w w' ∧
      Clu w' Λ' k c N (nt + 1) (nb + 1) 0 sh tx' bg' D ss (ts ++ clTx (.slice (some ⟨g, 0, none⟩) n n)) (bs ++ [.iface 110 (clBegin (plc (nthOp l 0).key N : Nat) nt (.slice (some ⟨g, 0, none⟩) n n))]) ∧ Row w' Λ' still 65 3 (.slice (some ⟨g, 0, none⟩) n n) n (clL l) := by
  refine (lone_psub_of (m := 0) (t := nt) (k := k) (R := fun w2 Λ2 => ∃ g tx' bg', Clu w2 Λ2 k c N (nt + 1) (nb + 1) 0 sh tx' bg' D ss (ts ++ clTx (.slice (some ⟨g, 0, none⟩) n n)) (bs ++ [.iface 110 (clBegin (plc (nthOp l 0).key N : Nat) nt (.slice (some ⟨g, 0, none⟩) n n))]) ∧ Row w2 Λ2 still 65 3 (.slice (some ⟨g, 0, none⟩) n n) n (clL l)) hE hv hn (fun v' w1 Λ1 f1 hv' => ?_) hk).mono ?_
  · have hl : ¬ (still = lent) := by decide
    refine (lone_submit_yes hk (hE.fr f1 hl) (hC.fr f1 fun r hr h => ?_) (hD.fr f1 hl) hN hN4 hv' (not_lent hk) ht hnt hnb).mono ?_
    · rw [h] at hr; simp [lent] at hr; omega
    · rintro e w2 ⟨rfl, Λ2, g, tx', bg', h1, h2, h3⟩
      exact ⟨_, Λ2, rfl, .inl ⟨rfl, rfl⟩, h1, g, tx', bg', h2, h3⟩
  · rintro e w' ⟨w2, Λ2, Λ', rfl, ⟨g, tx', bg', h2, h3⟩, h4, h5⟩
    refine ⟨rfl, Λ', g, tx', bg', mineL_of h4 h5, h2.fr h5 fun r hr h => ?_, h3.fr h5 (by decide)⟩
    rcases h with h | h <;> (rw [h] at hr; simp [lent, slip] at hr; omega)
theorem lone_psub_no_of {i : Nat} (hi : i < 9) (hk : 0 < k) (hE : Errs w Λ E) (hC : Clu w Λ k c N nt nb 0 sh tx bg D ss ts bs) (hv : Row w Λ ρo 65 3 v n (clL l)) (hn : n ≤ 5864062014805)
    (h : ∀ v' w1 Λ1, Fr Λ Λ1 (· = lent) w w1 → Row w1 Λ1 lent 65 3 v' n (clL l) → Clu w1 Λ1 k c N nt nb 0 sh tx bg D ss ts bs → Calls Tryz.L 27 #[.pointer (some ⟨c, 0, none⟩), v'] w1 fun e w' => ∃ b Λ', e = .returned (.tuple #[.int .i64 0, .iface 113 (.pointer (some ⟨b, 0, none⟩))]) ∧ Fr Λ1 Λ' (mine k) w1 w' ∧ Clu w' Λ' k c N nt nb 0 sh tx bg D ss ts bs ∧ At w' Λ' still b (.cells #[.string submitName, .int .i64 0, errV (E (ordE i))] 117 (0, 0))) :
    Calls Tryz.L 18 #[.pointer (some ⟨c, 0, none⟩), v] w fun e w' => e = .returned (.tuple #[.int .i64 0, .int .i64 ((i + 1 : Nat) : Int)]) ∧ ∃ Λ', Fr Λ Λ' (mineL k) w w' ∧ Clu w' Λ' k c N nt nb 0 sh tx bg D ss ts bs := by
  refine (lone_psub_of (m := i + 1) (t := 0) (k := k) (R := fun w2 Λ2 => Clu w2 Λ2 k c N nt nb 0 sh tx bg D ss ts bs) hE hv hn (fun v' w1 Λ1 f1 hv' => ?_) hk).mono ?_
  · refine (h v' w1 Λ1 f1 hv' (hC.fr f1 fun r hr h => ?_)).mono ?_
    · rw [h] at hr; simp [lent] at hr; omega
    · rintro e w2 ⟨b, Λ2, rfl, h1, h2, h3⟩
      exact ⟨_, Λ2, rfl, .inr ⟨b, i, hi, rfl, h3, rfl⟩, h1, h2⟩
  · rintro e w' ⟨w2, Λ2, Λ', rfl, h2, h4, h5⟩
    refine ⟨rfl, Λ', mineL_of h4 h5, h2.fr h5 fun r hr h => ?_⟩
    rcases h with h | h <;> (rw [h] at hr; simp [lent, slip] at hr; omega)
theorem lone_psub_ops (hk : 0 < k) (hE : Errs w Λ E) (hC : Clu w Λ k c N nt nb 0 sh tx bg D ss ts bs) (hD : At w Λ still D (.chan cp #[] false s r false))
    (hv : Row w Λ ρo 65 3 v n (clL l)) (hn : n ≤ 5864062014805) (ht : ¬ TxL l) :
    Calls Tryz.L 18 #[.pointer (some ⟨c, 0, none⟩), v] w fun e w' => e = .returned (.tuple #[.int .i64 0, .int .i64 2]) ∧ ∃ Λ', Fr Λ Λ' (mineL k) w w' ∧ Clu w' Λ' k c N nt nb 0 sh tx bg D ss ts bs := by
  have hl : ¬ (still = lent) := by decide
  exact lone_psub_no_of (i := 1) (by decide) hk hE hC hv hn fun v' w1 Λ1 f1 hv' hC1 => lone_submit_ops hk (hE.fr f1 hl) hC1 (hD.fr f1 hl) hv' (not_lent hk) hn ht
theorem lone_psub_many (hk : 0 < k) (hE : Errs w Λ E) (hC : Clu w Λ k c N nt nb 0 sh tx bg D ss ts bs) (hD : At w Λ still D (.chan cp #[] false s r false))
    (hv : Row w Λ ρo 65 3 v n (clL l)) (hn : n ≤ 5864062014805) (ht : TxL l) (hmany : 60 ≤ nt ∨ 400 ≤ nb) :
    Calls Tryz.L 18 #[.pointer (some ⟨c, 0, none⟩), v] w fun e w' => e = .returned (.tuple #[.int .i64 0, .int .i64 3]) ∧ ∃ Λ', Fr Λ Λ' (mineL k) w w' ∧ Clu w' Λ' k c N nt nb 0 sh tx bg D ss ts bs := by
  have hl : ¬ (still = lent) := by decide
  exact lone_psub_no_of (i := 2) (by decide) hk hE hC hv hn fun v' w1 Λ1 f1 hv' hC1 => lone_submit_many hk (hE.fr f1 hl) hC1 (hD.fr f1 hl) hv' (not_lent hk) hn ht hmany
end
end
end Go.Proofs.Shardlog
/- The document's answer: a shard forgets, alone. -/
namespace Go.Proofs.Shardlog
open Go Go.Conc Go.Tame Go.Proofs Go.RowKit
section
variable {w : World} {s : Nat}
theorem und54 : Tryz.L.underlying 54 = some (.slice 3) := by kernel_rfl
theorem slot3 : ∃ i, Tryz.L.info? 3 = some i ∧ i.zero = some (.int .i64 0) ∧ i.size = 1 ∧ i.bytes = 8 := by
  have h : (Tryz.L.info? 3).map (fun i => (i.zero, i.size, i.bytes)) = some (some (.int .i64 0), 1, 8) := by kernel_rfl
  obtain ⟨i, hi, hb⟩ := Option.map_eq_some_iff.1 h
  simp only [Prod.mk.injEq] at hb
  exact ⟨i, hi, hb⟩
theorem hid {p : Prop} (h : p) : Hid p := h
/-- What forget writes. -/
def Forgot (u : World) (s : Nat) (z : Value) : World := (((((u.setCell ⟨s, 5, none⟩ z).setCell ⟨s, 6, none⟩ (.slice none 0 0)).setCell ⟨s, 7, none⟩ (.slice none 0 0)).setCell ⟨s, 8, none⟩ (.slice none 0 0)).setCell ⟨s, 9, none⟩ (.slice none 0 0)).setCell ⟨s, 10, none⟩ (.int .i64 0)
theorem forgot_ne {u : World} {z : Value} {x : Nat} (h : x ≠ s) : (Forgot u s z).heap[x]? = u.heap[x]? := by
  unfold Forgot
  rw [setCell_ne h, setCell_ne h, setCell_ne h, setCell_ne h, setCell_ne h, setCell_ne h]
theorem forgot_size (u : World) (z : Value) : (Forgot u s z).heap.size = u.heap.size := by
  unfold Forgot
  simp only [setCell_size]
theorem forgot_os (u : World) (z : Value) : (Forgot u s z).os = u.os := by
  unfold Forgot
  rw [setCell_os, setCell_os, setCell_os, setCell_os, setCell_os, setCell_os]
def ForgetsTo (w : World) (s : Nat) (e : Ending) (w' : World) : Prop :=
  e = .returned (.tuple #[]) ∧ ∃ w1, w.grownBy w1 none ∧ w1.ownsRow w.heap.size 3 1 (.slice (some ⟨w.heap.size, 0, none⟩) 26 26) 26 (madeCells (Value.int IntKind.i64 0).cells (26 * 1)).toList ∧ w' = Forgot w1 s (.slice (some ⟨w.heap.size, 0, none⟩) 26 26)
theorem lone_forget {x0 x1 x2 x3 x4 x5 x6 x7 x8 x9 x10 x11 : Value} (h : w.heap[s]? = some (.cells #[x0, x1, x2, x3, x4, x5, x6, x7, x8, x9, x10, x11] 59 (0, 0))) : Calls Tryz.L 26 #[.pointer (some ⟨s, 0, none⟩)] w (ForgetsTo w s) := by
  obtain ⟨i3, t1, t2, t3, t4⟩ := slot3
  have hsz : s < w.heap.size := (Array.getElem?_eq_some_iff.1 h).1
  have after : ∀ w1, w.grownBy w1 none → (∀ j, w1.frozen? ⟨s, j, none⟩ = false) ∧ w1.cell? ⟨s, 5, none⟩ = some x5 ∧ w1.cell? ⟨s, 6, none⟩ = some x6 ∧ w1.cell? ⟨s, 7, none⟩ = some x7 ∧ w1.cell? ⟨s, 8, none⟩ = some x8 ∧ w1.cell? ⟨s, 9, none⟩ = some x9 ∧ w1.cell? ⟨s, 10, none⟩ = some x10 := fun w1 hgr => by
    have h' : w1.heap[s]? = some (.cells #[x0, x1, x2, x3, x4, x5, x6, x7, x8, x9, x10, x11] 59 (0, 0)) := by rw [hgr.block s hsz (by simp)]; exact h
    unfold World.cell?
    rw [h']
    refine ⟨fun j => ?_, rfl, rfl, rfl, rfl, rfl, rfl⟩
    unfold World.frozen?
    rw [h']
    simp
  have hA := hid after
  clear after h
  go_enter LL.func26, Tryz.ntmps26
  go_wp2_with (at_make; refine wpList_make_full _ rfl _ _ 54 rfl w.heap.size 3 i3 (.int .i64 0) 1 und54 t1 t2 t3 .i64 .i64 26 26 26 rfl rfl rfl rfl (by rw [t4]; omega) (by simp [maxLen]) (Nat.le_refl _) ?_; intro w1 hrow hgr; have hrow' := hid hrow; have hgr' := hid hgr; obtain ⟨fz, c5, c6, c7, c8, c9, c10⟩ := hA.out w1 hgr; clear hrow hgr hA t1 t2 t3 t4)
  exact ⟨rfl, .tuple #[], results_none rfl _ _ _, rfl, w1, hgr'.out, hrow'.out, by unfold Forgot; with_reducible rfl⟩
end
end Go.Proofs.Shardlog
/- The document's answer: New, alone. -/
namespace Go.Proofs.Shardlog
open Go Go.Conc Go.Tame Go.Proofs Go.RowKit
section
variable {w : World} {s : Nat}
/-- A shard of the document's, ahead of forget. -/
abbrev shardCells (k N : Int) : Array Value := #[.int .i64 k, .int .i64 N, .bool true, .slice none 0 0, .int .i64 0, .slice none 0 0, .slice none 0 0, .slice none 0 0, .slice none 0 0, .slice none 0 0, .int .i64 0, .slice none 0 0]
/-- The document's world, new. -/
structure NewRef (w w' : World) (m N : Nat) (sh : Value) (ss : List Nat) : Prop where
  cell : w'.heap[m]? = some (.cells #[sh, .slice none 0 0, .slice none 0 0, .bool false] 51 (0, 0))
  row : w'.ownsRow (m + 1) 52 1 sh N (ss.map fun s => .pointer (some ⟨s, 0, none⟩))
  grown : Grown w w'
  ge : w.heap.size ≤ m
theorem und47 : Tryz.L.underlying 47 = some (.slice 52) := by kernel_rfl
theorem slot52 : ∃ i, Tryz.L.info? 52 = some i ∧ i.zero = some (.pointer none) ∧ i.size = 1 ∧ i.bytes = 8 := by
  have h : (Tryz.L.info? 52).map (fun i => (i.zero, i.size, i.bytes)) = some (some (.pointer none), 1, 8) := by kernel_rfl
  obtain ⟨i, hi, hb⟩ := Option.map_eq_some_iff.1 h
  simp only [Prod.mk.injEq] at hb
  exact ⟨i, hi, hb⟩
set_option maxHeartbeats 4000000 in
theorem lone_refNew (N : Nat) (h1 : 1 ≤ N) (h4 : N ≤ 4) : Calls Tryz.L 16 #[.int .i64 N] w fun e w' => ∃ m sh ss, e = .returned (.tuple #[.pointer (some ⟨m, 0, none⟩), .int .i64 0]) ∧ NewRef w w' m N sh ss := by
  obtain ⟨i52, t1, t2, t3, t4⟩ := slot52
  go_enter LL.func16, Tryz.ntmps16
  go_wp2_with fail
  go_loopw [5] (fun i wr => ∃ (k : Nat) (sh : Value) (ss : List Nat), k ≤ N ∧ i = .int .i64 k ∧ NewRef w wr w.heap.size k sh ss) (fun i _ => N - (intOf i).toNat)
  case atStart =>
    refine ⟨0, .slice none 0 0, [], by omega, rfl, ?_, World.ownsRow_nil _ _ _ _, (Grown.refl w).alloc' _, Nat.le_refl _⟩
    rw [alloc_get', if_pos rfl]
  case round =>
    obtain ⟨k, sh, ss, hk, rfl, hn⟩ := hrel
    by_cases hlt : k < N
    · have hml : w.heap.size < wr.heap.size := (Array.getElem?_eq_some_iff.1 hn.cell).1
      have hs0 : (wr.alloc (Obj.cells (shardCells k N) 59)).heap[wr.heap.size]? = some (Obj.cells (shardCells k N) 59 (0, 0)) := by
        rw [alloc_get', if_pos rfl]
      go_wp2_with fail
      refine (lone_forget hs0).mono ?_
      rintro e w2 ⟨rfl, w1, hg1, hrow1, rfl⟩
      have hm2 : (Forgot w1 wr.heap.size (.slice (some ⟨(wr.alloc (Obj.cells (shardCells k N) 59)).heap.size, 0, none⟩) 26 26)).heap[w.heap.size]? = some (.cells #[sh, .slice none 0 0, .slice none 0 0, .bool false] 51 (0, 0)) := by
        rw [forgot_ne (by omega), hg1.block _ (by rw [alloc_size]; omega) (by simp), alloc_get', if_neg (by omega)]
        exact hn.cell
      have hgr2 : Grown w (Forgot w1 wr.heap.size (.slice (some ⟨(wr.alloc (Obj.cells (shardCells k N) 59)).heap.size, 0, none⟩) 26 26)) := by
        have g1 : Grown w w1 := (hn.grown.alloc' _).by hg1 (fun x hx => by cases hx)
        refine ⟨by rw [forgot_size]; exact g1.size, fun x hx => ?_, (forgot_os _ _).trans g1.os⟩
        rw [forgot_ne (by omega)]
        exact g1.heap x hx
      have hown2 : (Forgot w1 wr.heap.size (.slice (some ⟨(wr.alloc (Obj.cells (shardCells k N) 59)).heap.size, 0, none⟩) 26 26)).ownsRow (w.heap.size + 1) 52 1 sh k (ss.map fun s => .pointer (some ⟨s, 0, none⟩)) :=
        own_more hn.row (Nat.le_refl _) fun x hx => by
          have := (hn.row.lt x hx).2
          rw [forgot_ne (by omega), hg1.block _ (by rw [alloc_size]; omega) (by simp), alloc_get', if_neg (by omega)]
      have hsz2 : (Forgot w1 wr.heap.size (.slice (some ⟨(wr.alloc (Obj.cells (shardCells k N) 59)).heap.size, 0, none⟩) 26 26)).heap.size = w1.heap.size := forgot_size _ _
      have hw2 := hg1.size
      rw [alloc_size, ← hsz2] at hw2
      clear hsz2 hs0
      generalize Forgot w1 wr.heap.size _ = w2 at *
      clear hg1 hrow1
      have hc0 : w2.cell? ⟨w.heap.size, 0, none⟩ = some sh := by
        unfold World.cell?
        rw [hm2]
        rfl
      have hf0 : w2.frozen? ⟨w.heap.size, 0, none⟩ = false := by
        unfold World.frozen?
        rw [hm2]
        simp
      have hnews : ∀ j u, [Value.pointer (some ⟨wr.heap.size, 0, none⟩)][j]? = some u → (w2.alloc (Obj.cells #[Value.pointer (some ⟨wr.heap.size, 0, none⟩)] 52)).cell? ((⟨w2.heap.size, 0, none⟩ : Addr).add j) = some u := fun j u hu => (made_cell w2 _ 52 j).trans (by simpa using hu)
      have hone : ∀ u ∈ [Value.pointer (some ⟨wr.heap.size, 0, none⟩)], u.oneCell' = true := by simp [Value.oneCell']
      have hmx : k + 1 ≤ maxLen := by simp only [maxLen]; omega
      have hby : (k + 1) * 8 ≤ 140737488355328 := by omega
      have hbs : w.heap.size + 1 ≤ (w2.alloc (Obj.cells #[Value.pointer (some ⟨wr.heap.size, 0, none⟩)] 52)).heap.size := by
        rw [alloc_size]
        omega
      have after : ∀ w3 v', w3.ownsRow (w.heap.size + 1) 52 1 v' (k + 1) (ss.map (fun s => Value.pointer (some ⟨s, 0, none⟩)) ++ [.pointer (some ⟨wr.heap.size, 0, none⟩)]) → (w2.alloc (Obj.cells #[Value.pointer (some ⟨wr.heap.size, 0, none⟩)] 52)).grownBy w3 sh.ownBlock →
          (∃ o m p, v' = .slice o m p) ∧ w3.cell? ⟨w.heap.size, 0, none⟩ = some sh ∧ w3.frozen? ⟨w.heap.size, 0, none⟩ = false ∧ NewRef w (w3.setCell ⟨w.heap.size, 0, none⟩ v') w.heap.size (k + 1) v' (ss ++ [wr.heap.size]) := fun w3 v' hrow hgr => by
        have hne : ∀ x, sh.ownBlock = some x → w.heap.size + 1 ≤ x := fun x hx => (hown2.lt x hx).1
        have hm3 : w3.heap[w.heap.size]? = some (.cells #[sh, .slice none 0 0, .slice none 0 0, .bool false] 51 (0, 0)) := by
          rw [hgr.block _ (by rw [alloc_size]; omega) (fun e => by have := hne _ e.symm; omega), alloc_get', if_neg (by omega)]
          exact hm2
        refine ⟨own_slice hrow, ?_, ?_, ?_, ?_, ?_, Nat.le_refl _⟩
        · unfold World.cell?
          rw [hm3]
          rfl
        · unfold World.frozen?
          rw [hm3]
          simp
        · simp only [World.setCell, Array.getElem?_modify, if_true, hm3]
          rfl
        · rw [List.map_append]
          refine own_more hrow (Nat.le_refl _) fun x hx => ?_
          have := (hrow.lt x hx).1
          rw [setCell_ne (by simp only; omega)]
        · have g3 : Grown w w3 := (hgr2.alloc' _).by hgr fun x hx => by have := hne x hx; omega
          refine ⟨by rw [setCell_size]; exact g3.size, fun x hx => ?_, (setCell_os _ _ _).trans g3.os⟩
          rw [setCell_ne (by simp only; omega)]
          exact g3.heap x hx
      have hA := hid after
      clear after
      go_wp2_with (at_builtin; refine wpList_append_own _ rfl _ _ 47 rfl (w.heap.size + 1) 52 i52 (.pointer none) 1 8 und47 t1 t2 t3 t4 rfl (by decide) _ _ _ rfl (hown2.alloc _) ⟨w2.heap.size, 0, none⟩ 1 1 [.pointer (some ⟨wr.heap.size, 0, none⟩)] rfl rfl hnews hone hmx hby hbs ?_; intro v' w3 hrow3 hgr3 hnil; obtain ⟨⟨o', m', p', rfl⟩, hc3, hf3, hNR⟩ := hA.out w3 v' hrow3 hgr3; have hNR' := hid hNR; clear hrow3 hgr3 hnil hNR hA hnews hone hc0 hf0)
      go_roundw
      case rel => exact ⟨k + 1, _, _, by omega, by go_num, hNR'.out⟩
      case measure => simp [intOf]; omega
    · have hkn : k = N := by omega
      subst hkn
      go_wp2
      go_ret2
      exact ⟨_, _, _, rfl, hn⟩
end
end Go.Proofs.Shardlog
