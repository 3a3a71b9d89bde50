/-
  Kc, Kd, Ke, Kf: in one text.
-/
import Derived.Test.YtimjnmkfbdijeaaLa
import Derived.Conc.LoneCalls
import Derived.Conc.LoneSelectN
import Derived.Test.YtimjnmkfbdijeaaKb
import Derived.Test.YtimjnmkfbdijeaaEt
import Derived.Test.YtimjnmkfbdijeaaKa
namespace Go.Proofs.Ytimjnmkfbdijeaa
open Go.RowKit Go.Conc
set_option linter.unusedVariables false

/-- As 'Code.wp', in the frame of a call. -/
def Wn (P : Program) (c : Code) (Q : Exit → Act → World → Prop) (a : Act) (w : World) : Prop :=
  ∀ (b : Frame) (k : List Item) (cs : List Frame), b.kind ≠ .early → ∃ e a' w', Q e a' w' ∧ Arrives P (lone (b.at a (.code c :: k)) cs w) b k cs e a' w'
/-- What is left of a region. -/
def Onw (P : Program) (ops : Array Oper) (l : List Nat) (Q : Exit → Act → World → Prop) (a : Act) (w : World) : Prop :=
  ∀ (b : Frame) (k : List Item) (cs : List Frame), b.kind ≠ .early → ∃ e a' w', Q e a' w' ∧ Arrives P (lone (b.at a (.inRegion ops l :: k)) cs w) b k cs e a' w'
section
variable {P : Program} {Q : Exit → Act → World → Prop} {a : Act} {w : World}
theorem wn_of_wp {c : Code} (h : c.wp P Q a w) : Wn P c Q a w := fun b k cs _ => h b k cs
theorem wn_seq {x y : Code} (h : Wn P x (Exit.then (Wn P y Q) Q) a w) : Wn P (.seq x y) Q a w := by
  intro b k cs hb
  obtain ⟨e, a1, w1, hq, harr⟩ := h b (.code y :: k) cs hb
  cases e with
  | normal =>
    obtain ⟨e2, a2, w2, hq2, harr2⟩ := hq b k cs hb
    exact ⟨e2, a2, w2, hq2, .of_steps (.head step_seq harr) harr2⟩
  | exit id => exact ⟨_, a1, w1, hq, .of_steps (.one step_seq) (.pass (x := .code y) rfl (fun _ _ => .inl (by simp)) harr)⟩
  | goto l => exact ⟨_, a1, w1, hq, .of_steps (.one step_seq) (.pass (x := .code y) rfl (fun _ _ => .inl (by simp)) harr)⟩
  | ret => exact ⟨_, a1, w1, hq, .of_steps (.one step_seq) (.pass (x := .code y) rfl (fun _ _ => .inl (by simp)) harr)⟩
  | panic ch => exact ⟨_, a1, w1, hq, .of_steps (.one step_seq) (.pass (x := .code y) rfl (fun _ _ => .inl (by simp)) harr)⟩
  | outgrown => exact ⟨_, a1, w1, hq, .of_steps (.one step_seq) (.pass (x := .code y) rfl (fun _ _ => .inl (by simp)) harr)⟩
/-- A plain piece, and what stands behind it. -/
theorem wn_then {x y : Code} (h : ∀ K : Act → World → Prop, (∀ a w, Wn P y Q a w → K a w) → x.wp P (Exit.then K Q) a w) : Wn P (.seq x y) Q a w := wn_seq (wn_of_wp (h _ fun _ _ h => h))
theorem wn_cond {c : Operand} {x y : Code} {t : Bool} (hc : a.eval c = .bool t) (h : Wn P (if t then x else y) Q a w) : Wn P (.cond c x y) Q a w :=
  fun b k cs hb => let ⟨e, a', w', q, r⟩ := h b k cs hb; ⟨e, a', w', q, .of_steps (.one (step_cond hc)) r⟩
theorem wn_block {id : Nat} {c : Code} (h : Wn P c (Exit.inBlock id Q) a w) : Wn P (.block id c) Q a w := by
  intro b k cs hb
  obtain ⟨e, a1, w1, hq, harr⟩ := h b (.inBlock id :: k) cs hb
  cases e with
  | normal => exact ⟨.normal, a1, w1, hq, .head step_block (Steps.trans harr (.one step_inBlock))⟩
  | exit id' =>
    by_cases hid : id' = id
    · simp only [Exit.inBlock, hid, if_true] at hq
      exact ⟨.normal, a1, w1, hq, .head step_block (harr k (by simp [exitTo, hid]))⟩
    · simp only [Exit.inBlock, hid, if_false] at hq
      refine ⟨.exit id', a1, w1, hq, fun k' hk => .head step_block (harr k' ?_)⟩
      have : (id == id') = false := by simp; exact fun h => hid h.symm
      simp [exitTo, this, hk]
  | goto l => exact ⟨_, a1, w1, hq, fun k' hk => .head step_block (harr k' (by simp [gotoIn, hk]))⟩
  | ret => exact ⟨_, a1, w1, hq, .of_steps (.one step_block) harr⟩
  | panic ch => exact ⟨_, a1, w1, hq, .of_steps (.one step_block) harr⟩
  | outgrown => exact ⟨_, a1, w1, hq, .of_steps (b := b) (k := k) (cs := cs) (e := .outgrown) (.one step_block) harr⟩
/-- A loop, by a measure that stands beside. -/
theorem wn_loop {c : Code} (I : Nat → Act → World → Prop) {m : Nat} (h0 : I m a w)
    (round : ∀ m a w, I m a w → Wn P c (Exit.then (fun a' w' => ∃ m', m' < m ∧ I m' a' w') Q) a w) : Wn P (.loop c) Q a w := by
  intro b k cs hb
  have key : ∀ n a w, I n a w → ∃ e a' w', Q e a' w' ∧ Arrives P (lone (b.at a (.code c :: .inLoop c :: k)) cs w) b k cs e a' w' := by
    intro n
    induction n using Nat.strongRecOn with
    | _ n ih =>
      intro a w hI
      obtain ⟨e, a1, w1, hq, harr⟩ := round n a w hI b (.inLoop c :: k) cs hb
      cases e with
      | normal =>
        obtain ⟨m', hlt, hI1⟩ := hq
        obtain ⟨e2, a2, w2, hq2, harr2⟩ := ih m' hlt a1 w1 hI1
        exact ⟨e2, a2, w2, hq2, .of_steps (Steps.trans harr (.one step_inLoop)) harr2⟩
      | exit id => exact ⟨_, a1, w1, hq, .pass (x := .inLoop c) rfl (fun _ _ => .inl (by simp)) harr⟩
      | goto l => exact ⟨_, a1, w1, hq, .pass (x := .inLoop c) rfl (fun _ _ => .inl (by simp)) harr⟩
      | ret => exact ⟨_, a1, w1, hq, .pass (x := .inLoop c) rfl (fun _ _ => .inl (by simp)) harr⟩
      | panic ch => exact ⟨_, a1, w1, hq, .pass (x := .inLoop c) rfl (fun _ _ => .inl (by simp)) harr⟩
      | outgrown => exact ⟨_, a1, w1, hq, .pass (x := .inLoop c) rfl (fun _ _ => .inl (by simp)) harr⟩
  obtain ⟨e, a', w', hq, harr⟩ := key m a w h0
  exact ⟨e, a', w', hq, .of_steps (.one step_loop) harr⟩
theorem wn_region {id : Nat} {l : List Oper} {L : List Nat} (hL : List.range l.toArray.size = L) (h : Onw P l.toArray L Q a w) : Wn P (.region id l.toArray false) Q a w := by
  subst hL
  exact fun b k cs hb => let ⟨e, a', w', q, r⟩ := h b k cs hb; ⟨e, a', w', q, .of_steps (.one step_region) r⟩
theorem Onw.done {ops : Array Oper} (h : Q .normal a w) : Onw P ops [] Q a w := fun _ _ _ _ => ⟨.normal, a, w, h, .one step_region_end⟩
theorem Onw.ops {ops : Array Oper} {l : List Nat} (h : wpOps P ops Q l a w) : Onw P ops l Q a w := fun b k cs _ => wp_ops l a w h b k cs
/-- An operation that comes to a value. -/
theorem Onw.value {ops : Array Oper} {i : Nat} {rest : List Nat} {o : Oper} {v : Value} {w' : World} (ho : ops[i]? = some o) (hg : Region.wanted o (yielded ops a.tmps) = true) (hr : (execOp a.eval o).run P w = .ok (.value v) w')
    (h : Onw P ops rest Q (a.put o.dst v) w') : Onw P ops (i :: rest) Q a w := by
  intro b k cs hb
  obtain ⟨e, a', w2, hq, harr⟩ := h b k cs hb
  refine ⟨e, a', w2, hq, .of_steps (.one (step_lone_go ?_)) harr⟩
  have hfin : (b.at a (.inRegion ops (i :: rest) :: k)).finish v = b.at (a.put o.dst v) (.inRegion ops rest :: k) := by rw [Frame.finish_at, ho]; rfl
  rw [stepG_op (P := P) (b := b) (k := k) (cs := cs) (w := w) (rest := rest) ho hg, ← hfin]
  simp [stepG.apply, hr]
theorem Onw.read {ops : Array Oper} {i : Nat} {rest : List Nat} {o : Oper} {v : Value} (ho : ops[i]? = some o) (hg : Region.wanted o (yielded ops a.tmps) = true) (hr : (execOp a.eval o).run P w = .ok (.value v) w)
    (h : Onw P ops rest Q (a.put o.dst v) w) : Onw P ops (i :: rest) Q a w := Onw.value ho hg hr h
/-- A send into a buffer with room. -/
theorem Onw.send {ops : Array Oper} {i : Nat} {rest : List Nat} {o : Oper} {c cap s r : Nat} {buf : Array Value} {v z : Value} {tm : Bool} (ho : ops[i]? = some o) (hg : Region.wanted o (yielded ops a.tmps) = true)
    (hr : (execOp a.eval o).run P w = .ok (.comm #[scase c v z] true .send) w) (hc : w.heap[c]? = some (.chan cap buf false s r tm)) (hroom : buf.size < cap)
    (h : Onw P ops rest Q (a.put o.dst undef) (w.setChan c cap (buf.push v) false (s + 1) r tm)) : Onw P ops (i :: rest) Q a w := by
  intro b k cs hb
  obtain ⟨e, a', w2, hq, harr⟩ := h b k cs hb
  refine ⟨e, a', w2, hq, .of_steps (.one ?_) harr⟩
  have hfin : (b.at a (.inRegion ops (i :: rest) :: k)).finish undef = b.at (a.put o.dst undef) (.inRegion ops rest :: k) := by rw [Frame.finish_at, ho]; rfl
  have := step_lone_send_room (P := P) (stepG_comm (P := P) (main := true) (b := b) (a := a) (k := k) (cs := cs) (rest := rest) ho hg hb hr) hc hroom
  rw [hfin] at this
  exact this
/-- A receive from a buffer that holds something. -/
theorem Onw.recv {ops : Array Oper} {i : Nat} {rest : List Nat} {o : Oper} {c cap s r : Nat} {buf : Array Value} {z : Value} {tm closed : Bool} (ho : ops[i]? = some o) (hg : Region.wanted o (yielded ops a.tmps) = true)
    (hr : (execOp a.eval o).run P w = .ok (.comm #[rcase c z] true (.recv true)) w) (hc : w.heap[c]? = some (.chan cap buf closed s r tm)) (hsome : 0 < buf.size)
    (h : Onw P ops rest Q (a.put o.dst (.tuple #[buf.getD 0 undef, .bool true])) (w.setChan c cap (buf.extract 1 buf.size) closed s (r + 1) tm)) : Onw P ops (i :: rest) Q a w := by
  intro b k cs hb
  obtain ⟨e, a', w2, hq, harr⟩ := h b k cs hb
  refine ⟨e, a', w2, hq, .of_steps (.one ?_) harr⟩
  have hfin : (b.at a (.inRegion ops (i :: rest) :: k)).finish (got true (buf.getD 0 undef) true) = b.at (a.put o.dst (.tuple #[buf.getD 0 undef, .bool true])) (.inRegion ops rest :: k) := by rw [Frame.finish_at, ho]; rfl
  have := step_lone_recv_buf (P := P) true (stepG_comm (P := P) (main := true) (b := b) (a := a) (k := k) (cs := cs) (rest := rest) ho hg hb hr) hc hsome
  rw [hfin] at this
  exact this
/-- A receive from a closed channel that holds nothing. -/
theorem Onw.shut {ops : Array Oper} {i : Nat} {rest : List Nat} {o : Oper} {c cap s r : Nat} {z : Value} {tm : Bool} (ho : ops[i]? = some o) (hg : Region.wanted o (yielded ops a.tmps) = true)
    (hr : (execOp a.eval o).run P w = .ok (.comm #[rcase c z] true (.recv true)) w) (hc : w.heap[c]? = some (.chan cap #[] true s r tm))
    (h : Onw P ops rest Q (a.put o.dst (.tuple #[z, .bool false])) w) : Onw P ops (i :: rest) Q a w := by
  intro b k cs hb
  obtain ⟨e, a', w2, hq, harr⟩ := h b k cs hb
  refine ⟨e, a', w2, hq, .of_steps (.one ?_) harr⟩
  have hfin : (b.at a (.inRegion ops (i :: rest) :: k)).finish (got true z false) = b.at (a.put o.dst (.tuple #[z, .bool false])) (.inRegion ops rest :: k) := by rw [Frame.finish_at, ho]; rfl
  have := step_lone_recv_shut (P := P) true (stepG_comm (P := P) (main := true) (b := b) (a := a) (k := k) (cs := cs) (rest := rest) ho hg hb hr) hc
  rw [hfin] at this
  exact this
/-- A call of a function whose code is walked so. -/
theorem calls_of_wn {f : FuncId} {fn : Func} {c : Code} {args : Array Value} {R : Ending → World → Prop} (hf : P.funcs[f]? = some fn) (hb : fn.body = some c)
    (h : Wn P c (bodyPost P fn R) { tmps := args ++ Array.replicate (fn.ntmps - args.size) undef, defers := [] } w) : Calls P f args w R := by
  intro cs
  have henter : Frame.enter P f args .normal = ({ (default : Frame) with fn := f, kind := .normal } : Frame).at { tmps := args ++ Array.replicate (fn.ntmps - args.size) undef, defers := [] } [.code c] := by
    simp [Frame.enter, Frame.at, hf, hb]
  obtain ⟨e, a', w', hq, harr⟩ := h { (default : Frame) with fn := f, kind := .normal } [] cs (by simp)
  rw [← henter] at harr
  cases e with
  | normal =>
    obtain ⟨hd, v, hr, hR⟩ := hq
    exact ⟨.returned v, w', _, hR, Steps.trans harr (.one step_end), rfl, rfl, hd, rfl, fn, hf, hr⟩
  | ret =>
    obtain ⟨hd, v, hr, hR⟩ := hq
    obtain ⟨todo, hs⟩ := harr
    exact ⟨.returned v, w', _, hR, hs, rfl, rfl, hd, rfl, fn, hf, hr⟩
  | panic chain =>
    obtain ⟨hd, hR⟩ := hq
    obtain ⟨todo, hs⟩ := harr
    exact ⟨.panicked chain, w', _, hR, hs, rfl, rfl, hd, fn, hf⟩
  | exit id => exact hq.elim
  | goto l => exact hq.elim
  | outgrown => exact ⟨.outgrown, w', { (default : Frame) with fn := f, kind := .normal }, hq, harr.resolve_left (by simp), rfl, trivial⟩
end
/-! What lies beside a channel. -/
theorem setChan_other (w : World) (c j cap : Nat) (buf : Array Value) (cl : Bool) (s r : Nat) (tm : Bool) (h : c ≠ j) : (w.setChan c cap buf cl s r tm).heap[j]? = w.heap[j]? := by
  simp [World.setChan, Array.getElem?_setIfInBounds_ne h]
end Go.Proofs.Ytimjnmkfbdijeaa
namespace Go.Proofs.Ytimjnmkfbdijeaa
open Go.RowKit
set_option maxRecDepth 100000
set_option linter.unusedVariables false

/-- The search finds k. -/
def fo13 (o : List Bool) (k : Nat) : List Bool := if bt13 o k = true then o.set k false else o
def fq13 (o : List Bool) (q : List Nat) (k : Nat) : List Nat := if bt13 o k = true then q ++ [k] else q
def mu13 (o : List Bool) (q : List Nat) : Nat := 2 * ct13 o + q.length
/-- What holds during the search: o: who was not found; q: who waits; P: whose callers are being found. -/
structure Iv13 (e : Nat → Nat → Bool) (n : Nat) (s : Nat → Bool) (P : Nat → Prop) (o : List Bool) (q : List Nat) : Prop where
  len : o.length = n
  nd : q.Nodup
  wt : ∀ j ∈ q, j < n ∧ bt13 o j = false
  tn : ∀ j, j < n → bt13 o j = false → Tn13 e n s j
  dn : ∀ j, j < n → bt13 o j = false → j ∈ q ∨ P j ∨ ∀ i, i < n → e i j = true → bt13 o i = false
section
variable {e : Nat → Nat → Bool} {n : Nat} {s : Nat → Bool} {P : Nat → Prop} {o : List Bool} {q : List Nat} {k : Nat}
theorem fo13_len : (fo13 o k).length = o.length := by
  unfold fo13
  split <;> simp
theorem fo13_bt (hk : k < o.length) (j : Nat) : bt13 (fo13 o k) j = (if j = k then false else bt13 o j) := by
  unfold fo13
  split
  · exact bt13_set j hk
  · rename_i h
    split
    · rename_i hj
      rw [hj]
      simpa using h
    · rfl
theorem ct13_less : ∀ {o : List Bool} {k : Nat}, bt13 o k = true → ct13 (o.set k false) + 1 = ct13 o
  | [], k, h => by simp [bt13] at h
  | x :: o, 0, h => by
    have h : x = true := h
    subst h
    simp [ct13]
  | x :: o, k + 1, h => by
    have h : bt13 o k = true := h
    have h1 := ct13_less h
    unfold ct13 at h1 ⊢
    rw [List.set_cons_succ, List.filter_cons, List.filter_cons]
    split
    · rw [List.length_cons, List.length_cons]; omega
    · exact h1
theorem mu13_find : mu13 (fo13 o k) (fq13 o q k) ≤ mu13 o q := by
  unfold mu13 fo13 fq13
  split
  · rename_i h
    have := ct13_less h
    rw [List.length_append, List.length_singleton]
    omega
  · omega
theorem nodup_le13 : ∀ {n : Nat} {q : List Nat}, q.Nodup → (∀ j ∈ q, j < n) → q.length ≤ n
  | 0, [], _, _ => Nat.le_refl _
  | 0, x :: q, _, h => absurd (h x (List.mem_cons_self ..)) (by omega)
  | n + 1, q, hn, h => by
    by_cases hm : n ∈ q
    · have h1 := nodup_le13 (n := n) (hn.erase n) fun j hj => by
        have h2 := List.mem_of_mem_erase hj
        have h3 := h j h2
        have : j ≠ n := fun e => by
          subst e
          exact (hn.not_mem_erase) hj
        omega
      have h2 := List.length_erase_of_mem hm
      omega
    · have := nodup_le13 (n := n) hn fun j hj => by
        have h3 := h j hj
        have : j ≠ n := fun e => hm (e ▸ hj)
        omega
      omega
theorem Iv13.room (h : Iv13 e n s P o q) (hk : k < n) (hb : bt13 o k = true) : q.length < n := by
  have hn : (k :: q).Nodup := List.nodup_cons.2 ⟨fun hm => (by rw [(h.wt k hm).2] at hb; cases hb), h.nd⟩
  have := nodup_le13 (n := n) hn fun j hj => by
    rcases List.mem_cons.1 hj with hj | hj
    · rw [hj]; exact hk
    · exact (h.wt j hj).1
  rw [List.length_cons] at this
  omega
theorem Iv13.find (h : Iv13 e n s P o q) (hk : k < n) (ht : Tn13 e n s k) : Iv13 e n s P (fo13 o k) (fq13 o q k) := by
  have hl := h.len
  have F := fo13_bt (o := o) (k := k) (by omega)
  have hq : ∀ j, j ∈ fq13 o q k ↔ j ∈ q ∨ (bt13 o k = true ∧ j = k) := by
    intro j
    unfold fq13
    split
    · rename_i hb; simp [hb]
    · rename_i hb; simp [hb]
  refine ⟨fo13_len.trans hl, ?_, fun j hj => ?_, fun j hj hb => ?_, fun j hj hb => ?_⟩
  · unfold fq13
    split
    · rename_i hb
      rw [List.nodup_append]
      exact ⟨h.nd, by simp, fun a ha b hb2 => by
        rw [List.mem_singleton] at hb2
        rintro rfl
        subst hb2
        rw [(h.wt _ ha).2] at hb
        cases hb⟩
    · exact h.nd
  · rw [F]
    rcases (hq j).1 hj with hj | ⟨hb, rfl⟩
    · refine ⟨(h.wt j hj).1, ?_⟩
      split
      · rfl
      · exact (h.wt j hj).2
    · exact ⟨hk, by rw [if_pos rfl]⟩
  · rw [F] at hb
    split at hb
    · rename_i hjk; rw [hjk]; exact ht
    · exact h.tn j hj hb
  · rw [F] at hb
    rw [hq]
    have up : (∀ i, i < n → e i j = true → bt13 o i = false) → ∀ i, i < n → e i j = true → bt13 (fo13 o k) i = false := fun H i hi he => by
      rw [F]
      split
      · rfl
      · exact H i hi he
    by_cases hjk : j = k
    · subst hjk
      cases hb2 : bt13 o j with
      | true => exact .inl (.inr ⟨rfl, rfl⟩)
      | false =>
        rcases h.dn j hj hb2 with h1 | h1 | h1
        · exact .inl (.inl h1)
        · exact .inr (.inl h1)
        · exact .inr (.inr (up h1))
    · rw [if_neg hjk] at hb
      rcases h.dn j hj hb with h1 | h1 | h1
      · exact .inl (.inl h1)
      · exact .inr (.inl h1)
      · exact .inr (.inr (up h1))
theorem Iv13.pop (h : Iv13 e n s (fun _ => False) o (k :: q)) : Iv13 e n s (fun j => j = k) o q ∧ k < n ∧ bt13 o k = false :=
  ⟨⟨h.len, (List.nodup_cons.1 h.nd).2, fun j hj => h.wt j (List.mem_cons_of_mem _ hj), h.tn, fun j hj hb => by
    rcases h.dn j hj hb with h1 | h1 | h1
    · rcases List.mem_cons.1 h1 with h1 | h1
      · exact .inr (.inl h1)
      · exact .inl h1
    · exact h1.elim
    · exact .inr (.inr h1)⟩, h.wt k (List.mem_cons_self ..)⟩
theorem Iv13.shut (h : Iv13 e n s (fun j => j = k) o q) (hc : ∀ i, i < n → e i k = true → bt13 o i = false) : Iv13 e n s (fun _ => False) o q :=
  ⟨h.len, h.nd, h.wt, h.tn, fun j hj hb => by
    rcases h.dn j hj hb with h1 | h1 | h1
    · exact .inl h1
    · subst h1; exact .inr (.inr hc)
    · exact .inr (.inr h1)⟩
theorem Iv13.fin (h : Iv13 e n s (fun _ => False) o []) (hs : ∀ j, j < n → s j = true → bt13 o j = false) (hk : k < n) : bt13 o k = true ↔ ¬ Tn13 e n s k := by
  constructor
  · refine tn13_no (P := fun k => bt13 o k = true) (fun k hk hp => ?_) (fun k i hk hi he hp => ?_) hk
    · cases hb : s k with
      | false => rfl
      | true => rw [hs k hk hb] at hp; cases hp
    · cases hb : bt13 o i with
      | true => rfl
      | false =>
        rcases h.dn i hi hb with h1 | h1 | h1
        · cases h1
        · exact h1.elim
        · rw [h1 k hk he] at hp; cases hp
  · intro ht
    cases hb : bt13 o k with
    | true => rfl
    | false => exact absurd (h.tn k hk hb) ht
theorem Iv13.start : Iv13 e n s P (List.replicate n true) [] := by
  have F : ∀ j, j < n → bt13 (List.replicate n true) j = true := fun j hj => by
    rw [bt13, List.getElem?_replicate_of_lt hj]
    rfl
  exact ⟨by simp, List.nodup_nil, fun j hj => (by cases hj), fun j hj hb => (by rw [F j hj] at hb; cases hb), fun j hj hb => (by rw [F j hj] at hb; cases hb)⟩
end
/-- At the end: who is pure. -/
theorem Iv13.pure {d : Md} {o : List Bool} (h : Iv13 (e11 d) d.s.length (so13 d) (fun _ => False) o []) (hs : ∀ j, j < d.s.length → so13 d j = true → bt13 o j = false) : o = (List.range d.s.length).map (pu13 d) := by
  apply bt13_ext (by rw [h.len]; simp)
  intro k
  by_cases hk : k < d.s.length
  · rw [show bt13 ((List.range d.s.length).map (pu13 d)) k = pu13 d k by rw [bt13, List.getElem?_map, List.getElem?_range hk]; rfl]
    have h1 := h.fin hs hk
    rw [← pu13_iff hk] at h1
    exact Bool.eq_iff_iff.2 h1
  · rw [bt13_out (by rw [h.len]; omega), bt13_out (by simp; omega)]
end Go.Proofs.Ytimjnmkfbdijeaa
namespace Go.Proofs.Ytimjnmkfbdijeaa
open Go.RowKit
set_option maxRecDepth 100000
set_option linter.unusedSimpArgs false
set_option linter.unusedVariables false

theorem st13_take {L : List Ins} {i : Nat} {x : Ins} (h : L[i]? = some x) : st13 (L.take (i + 1)) = (st13 (L.take i) || x.1 == 5) := by
  unfold st13
  rw [List.take_add_one, h, List.any_append]
  simp
theorem st13_yes {L : List Ins} {i : Nat} {x : Ins} (h : L[i]? = some x) (hx : (x.1 == 5) = true) : st13 L = true := by
  unfold st13
  rw [List.any_eq_true]
  exact ⟨x, List.mem_of_getElem? h, hx⟩
theorem isStore_v (o a b : Int) (w : World) : Calls Try.prog 43 #[.agg #[.int .u8 o, .int .i64 a, .int .i64 b]] w fun r w' => r = .returned (.bool (o == 5)) ∧ Below w.heap.size w w' := by
  go_enter Try.func43, Try.ntmps43
  go_wp2_with fail
  go_ret
  exact ⟨rfl, new1⟩
set_option maxHeartbeats 2000000 in
theorem indexI_v (A : Option Addr) (c m : Nat) (L : List Ins) (w : World) (hr : Ri w A c L) (hm : L.length = m) : Calls Try.prog 55 #[.slice A m c, .func (.func 43) #[] #[]] w fun r w' => ∃ i : Int, r = .returned (.int .i64 i) ∧ decide (0 ≤ i) = st13 L ∧ Below w.heap.size w w' := by
  have HR := Lib.hid hr
  have HM := Lib.hid hm
  have hm9 : m ≤ 9223372036854775807 := by have := hr.len; omega
  clear hr hm
  go_enter Try.func55, Try.ntmps55
  go_wp2_with fail
  go_loopw [8] (fun iv wr => ∃ i : Nat, i ≤ m ∧ iv = .int .i64 i ∧ Hid (st13 (L.take i) = false) ∧ Hid (Below w.heap.size w wr)) (fun iv _ => m - (intOf iv).toNat)
  case atStart => exact ⟨0, by omega, rfl, Lib.hid (by simp [st13]), Lib.hid (Below.refl _ _)⟩
  case round =>
    obtain ⟨i, hi, rfl, HI, HB⟩ := hrel
    rename World => wr
    by_cases h1 : i < m
    · obtain ⟨⟨o, a, z⟩, hx⟩ : ∃ x, L[i]? = some x := ⟨_, List.getElem?_eq_getElem (by rw [HM.out]; exact h1)⟩
      obtain ⟨al, hA, k1, k2, k3⟩ := (HR.out.keep HB.out).at9 hx
      subst hA
      have HX := Lib.hid hx
      have HC := Lib.hid (isStore_v o a z wr)
      obtain ⟨v, hv⟩ : ∃ v, (o == 5) = v := ⟨_, rfl⟩
      have HV := Lib.hid hv
      rw [hv] at HC
      clear hx hv
      go_wp2_with fail
      refine HC.out.mono ?_
      rintro r w2 ⟨rfl, hb⟩
      have HB2 := Lib.hid (below_on HB.out hb)
      clear hb HC k1 k2 k3
      cases v with
      | true =>
        have HS := Lib.hid (st13_yes HX.out HV.out)
        go_wp2_with fail
        go_ret
        exact ⟨_, rfl, by rw [HS.out]; simp, HB2.out⟩
      | false =>
        have HI2 : Hid (st13 (L.take (i + 1)) = false) := Lib.hid (by rw [st13_take HX.out, HI.out, HV.out]; rfl)
        go_wp2_with fail
        go_roundw
        case rel => exact ⟨i + 1, by omega, by go_num, HI2, HB2⟩
        case measure => simp [intOf]; omega
    · obtain rfl : m = i := by omega
      have HS : Hid (st13 L = false) := Lib.hid (by
        have := HI.out
        rwa [List.take_of_length_le (by rw [HM.out]; exact Nat.le_refl _)] at this)
      go_wp2_with fail
      go_ret
      exact ⟨_, rfl, by rw [HS.out]; rfl, HB.out⟩
theorem containsI_v (A : Option Addr) (c m : Nat) (L : List Ins) (w : World) (hr : Ri w A c L) (hm : L.length = m) : Calls Try.prog 42 #[.slice A m c, .func (.func 43) #[] #[]] w fun r w' => r = .returned (.bool (st13 L)) ∧ Below w.heap.size w w' := by
  have HC := Lib.hid (indexI_v A c m L w hr hm)
  clear hr hm
  go_enter Try.func42, Try.ntmps42
  go_wp2_with fail
  refine HC.out.mono ?_
  rintro r w2 ⟨i, rfl, hi, hb⟩
  have HI := Lib.hid hi
  have HB := Lib.hid hb
  clear hi hb HC
  go_wp2_with fail
  go_ret
  exact ⟨by rw [← HI.out]; rfl, HB.out⟩
theorem stores_v (A : Option Addr) (c m : Nat) (L : List Ins) (w : World) (hr : Ri w A c L) (hm : L.length = m) : Calls Try.prog 26 #[.slice A m c] w fun r w' => r = .returned (.bool (st13 L)) ∧ Below w.heap.size w w' := by
  have HC := Lib.hid (containsI_v A c m L w hr hm)
  clear hr hm
  go_enter Try.func26, Try.ntmps26
  go_wp2_with fail
  refine HC.out.mono ?_
  rintro r w2 ⟨rfl, hb⟩
  have HB := Lib.hid hb
  clear hb HC
  go_wp2_with fail
  go_ret
  exact ⟨rfl, HB.out⟩
/-- The answer of Stores. -/
def Bs13 (w w' : World) (T : Bool × Int) (r : Ending) : Prop := r = .returned (.tuple #[.bool T.1, .int .i64 T.2]) ∧ Below w.heap.size w w'
set_option maxHeartbeats 2000000 in
theorem pstores_v (y : Ma) (d : Md) (k : Int) (w : World) (hq : Hq w y d) (bs : d.s.length ≤ 1000) : Calls Try.prog 12 #[dv y d, .int .i64 k] w fun r w' => Bs13 w w' (so13T d k) r := by
  obtain ⟨G, gc, P, pc, AA, cc, Z⟩ := y
  have hzl := hq.zlen
  dsimp only at hzl
  obtain ⟨sn, hsn⟩ : ∃ sn, d.s.length = sn := ⟨_, rfl⟩
  have HSN := Lib.hid hsn
  rw [hsn] at bs
  have S0 := Lib.hid ((((Sx.start w).add (fQm ⟨G, gc, P, pc, AA, cc, Z⟩ d) hq).mkD ⟨G, gc, P, pc, AA, cc, Z⟩ d))
  have HZL := Lib.hid (hzl.trans hsn)
  obtain ⟨T, hT⟩ : ∃ T, so13T d k = T := ⟨_, rfl⟩
  have HT := Lib.hid hT
  rw [hT]
  obtain ⟨B, hB⟩ : ∃ B, w.heap.size = B := ⟨_, rfl⟩
  have HBB := Lib.hid hB
  rw [hB] at S0
  clear hq hT hzl hsn
  go_enter Try.func12, Try.ntmps12
  go_upto_region 1 with (fail)
  change Code.wp _ _ _ _ (w.alloc (dcel ⟨G, gc, P, pc, AA, cc, Z⟩ d))
  generalize w.alloc (dcel ⟨G, gc, P, pc, AA, cc, Z⟩ d) = w1 at S0 ⊢
  have S1 := S0
  clear S0 hB
  obtain ⟨-, ⟨d0, d1, d2, d3, d4⟩, -⟩ := S1.out
  dsimp only at d1 d2 d3
  rw [HSN.out] at d3
  by_cases hk0 : k < 0
  · have HE : Hid (T = (false, 2)) := Lib.hid (by rw [← HT.out, so13T, if_pos (.inl hk0)])
    go_wp2_with fail
    go_ret2
    exact ⟨by rw [HE.out]; rfl, S1.out.1⟩
  by_cases hks : (sn : Int) ≤ k
  · have HE : Hid (T = (false, 2)) := Lib.hid (by rw [← HT.out, so13T, if_pos (.inr (by rw [HSN.out]; exact hks))])
    go_wp2_with fail
    go_ret2
    exact ⟨by rw [HE.out]; rfl, S1.out.1⟩
  obtain ⟨k, rfl⟩ : ∃ k' : Nat, k = k' := ⟨k.toNat, by omega⟩
  have hks2 : k < sn := by omega
  obtain ⟨ad8, hA8, hat, hok⟩ := S1.out.2.2.1.2.2.1.at_ (i := k) (by rw [HZL.out]; exact hks2)
  have hme := S1.out.2.2.1.zat (i := k) (by rw [HZL.out]; exact hks2) (by rw [HSN.out]; exact hks2)
  dsimp only at hA8 hat hok hme
  obtain ⟨zz, hzz⟩ : ∃ zz, Z[k]'(by rw [HZL.out]; exact hks2) = zz := ⟨_, rfl⟩
  rw [hzz] at hat hok hme
  obtain ⟨⟨XA, xc, XB, xd, XD, xk, xe⟩, h, L⟩ := zz
  subst hA8
  have HTM : Hid (T = (st13 L, 0)) := Lib.hid (by
    rw [← HT.out, so13T, if_neg (by rw [HSN.out]; omega), Int.toNat_natCast, so13, co11, List.getElem?_eq_getElem (by rw [HSN.out]; exact hks2), hme]
    rfl)
  obtain ⟨hH, hRi, hxk⟩ := hok
  dsimp only at hH hRi hxk
  obtain ⟨-, -, -, -, -, -, -, g7⟩ := hat
  dsimp only at g7
  have HC := Lib.hid (stores_v XD xe xk L w1 hRi hxk)
  clear hzz hme hxk hRi hH
  go_wp2_with fail
  refine HC.out.mono ?_
  rintro r w2 ⟨rfl, hb⟩
  have HB := Lib.hid (S1.out.call hb).1
  clear hb HC
  go_wp2_with fail
  go_ret2
  exact ⟨by rw [HTM.out]; rfl, HB.out⟩
end Go.Proofs.Ytimjnmkfbdijeaa
namespace Go.Proofs.Ytimjnmkfbdijeaa
open Go.RowKit
set_option maxRecDepth 100000
set_option linter.unusedSimpArgs false
set_option linter.unusedVariables false

theorem own_at13 {w : World} {base e n c : Nat} {A : Option Addr} {xs : List Value} (h : w.ownsRow base e 1 (.slice A n c) n xs) : ∀ ad : Addr, A = some ad → base ≤ ad.block := by
  intro ad ha
  subst ha
  rcases h.2 with ⟨hv, -⟩ | ⟨g, cap, cur, hv, hg, -⟩
  · cases hv
  · injection hv with e1 e2 e3
    injection e1 with e1
    subst e1
    exact hg
theorem made13 (n : Nat) (hn : n ≤ 1000) (w : World) : (Instr.makeSlice 64 (.int .i64 (n : Int)) (.int .i64 (n : Int))).run Try.prog w = .ok (.slice (some ⟨w.heap.size, 0, none⟩) n n) (w.alloc (.cells (List.replicate n (.slice none 0 0)).toArray 53)) := by
  have hinfo := Try.infoS11
  rw [Option.map_eq_some_iff] at hinfo
  obtain ⟨i, hi, hz⟩ := hinfo
  simp only [Prod.mk.injEq] at hz
  obtain ⟨hz0, hz1, hz2⟩ := hz
  have hr := run_make (P := Try.prog) w 64 53 i (.slice none 0 0) Try.underlying64 hi hz0 .i64 .i64 n n (by omega) (Int.le_refl _) (by rw [hz2]; omega) (by omega)
  rw [hr, hz1, Int.toNat_natCast, Nat.mul_one]
  have e : madeCells #[Value.slice none 0 0] n = (List.replicate n (Value.slice none 0 0)).toArray := by
    rw [← toList_madeCells_one, Array.toArray_toList]
  rw [← e]
  rfl
/-- What callersOf answers. -/
def Cg13 (w w' : World) (d : Md) (r : Ending) : Prop :=
  (ba11 d = true ∧ r = .returned (.tuple #[.slice none 0 0, .int .i64 2]) ∧ Below w.heap.size w w') ∨
  (ba11 d = false ∧ ∃ A c Y, r = .returned (.tuple #[.slice A d.s.length c, .int .i64 0]) ∧ Go11 w' w.heap.size A c Y ∧ Y.length = d.s.length ∧ Y.map (·.2.2) = gre11 (fun t k => e11 d k t) d.s.length ∧ Below w.heap.size w w')
/-- No row of Y lies in the block of A. -/
def Np13 (Y : List Gz) (A : Option Addr) : Prop := ∀ z ∈ Y, ∀ b, (gv11 z).ownBlock = some b → ∀ ad : Addr, A = some ad → ad.block ≠ b
theorem Np13.put {Y : List Gz} {A : Option Addr} (h : Np13 Y A) {t g' : Nat} {y z : Gz} (ht : Y[t]? = some y) (hz : (gv11 z).ownBlock = some g') {w : World} (hl : (gv11 y).ownBlock = some g' ∨ g' = w.heap.size) (ha : ∀ ad : Addr, A = some ad → ad.block < w.heap.size) : Np13 (Y.set t z) A := by
  intro x hx b hb ad hA
  rcases List.mem_or_eq_of_mem_set hx with hx | hx
  · exact h x hx b hb ad hA
  · subst hx
    rw [hz] at hb
    injection hb with hb
    subst hb
    rcases hl with hl | hl
    · exact h y (List.mem_of_getElem? ht) g' hl ad hA
    · have := ha ad hA
      omega
/-- A row that lies elsewhere stays. -/
theorem rn_past13 {w w' : World} {A : Option Addr} {c : Nat} {K : List Int} (hr : Rn w A c K) {o : Obj} {row : Option Nat} (hg : (w.alloc o).grownBy w' row) (h1 : ∀ b, row = some b → ∀ ad : Addr, A = some ad → ad.block ≠ b) {g t : Nat} (h2 : ∀ ad : Addr, A = some ad → ad.block ≠ g) (v : Value) : Rn (w'.setCell ⟨g, t, none⟩ v) A c K := by
  have h0 : Rn (w.alloc o) A c K := hr.keep new1
  have h3 := (Fr11.of_grown (X := fun j => some j = row ∨ j = g) hg (fun j hj => .inl hj)).set (p := ⟨g, t, none⟩) (.inr (.inr rfl)) v
  refine h3.rn h0 fun ad ha _ => ?_
  rintro (h | h)
  · exact h1 _ h.symm ad ha rfl
  · exact h2 ad ha h
theorem lt_of_rn13 {w : World} {A : Option Addr} {c : Nat} {K : List Int} (hr : Rn w A c K) (hk : 0 < K.length) : ∀ ad : Addr, A = some ad → ad.block < w.heap.size := by
  intro ad ha
  subst ha
  rcases hr.2.2 with ⟨h, -⟩ | ⟨ad', h, hc⟩
  · cases h
  · injection h with h
    subst h
    have := cell_lt (hc 0 _ (List.getElem?_eq_getElem hk))
    rwa [add_block] at this
set_option maxHeartbeats 8000000 in
theorem callersOf_v (y : Ma) (d : Md) (w : World) (hq : Hq w y d) (bs : d.s.length ≤ 1000) (bl : ∀ z ∈ d.s, z.2.length ≤ 1000) : Calls Try.prog 27 #[dv y d] w fun r w' => Cg13 w w' d r := by
  have S0 := Lib.hid ((((Sx.start w).add (fQm y d) hq).mkD y d))
  obtain ⟨B, hB⟩ : ∃ B, w.heap.size = B := ⟨_, rfl⟩
  have HBB := Lib.hid hB
  rw [hB] at S0
  have HBS := Lib.hid bs
  have HBL := Lib.hid bl
  have hmk := made13 d.s.length bs
  clear hq bl
  go_enter Try.func27, Try.ntmps27
  go_upto_region 1 with (fail)
  change Code.wp _ _ _ _ (w.alloc (dcel y d))
  generalize w.alloc (dcel y d) = w1 at S0 ⊢
  clear hB
  obtain ⟨-, ⟨d0, d1, d2, d3, d4⟩, -⟩ := S0.out
  go_wp2_with fail
  clear d0 d1 d2 d3 d4
  obtain ⟨g, hg⟩ : ∃ g, w1.heap.size = g := ⟨_, rfl⟩
  have HG1 := Lib.hid hg
  rw [hg]
  obtain ⟨n, hn⟩ : ∃ n, d.s.length = n := ⟨_, rfl⟩
  have HN := Lib.hid hn
  rw [hn] at bs ⊢
  have HC0 : Hid (Cb11 (w1.alloc (.cells (List.replicate n (Value.slice none 0 0)).toArray 53)) w1.heap.size g n (List.replicate n (none, 0, []))) := Lib.hid ⟨by simp, by
      have := World.ownsRow_lit (base := w1.heap.size) (size := 1) (e := 53) w1 (List.replicate n (Value.slice none 0 0)).toArray n (Nat.le_refl _) (by unfold maxLen; omega) (by simp)
      rw [← hg]
      simpa [cg11, gv11] using this, fun z hz => by
      rw [List.mem_replicate] at hz
      rw [hz.2]
      exact World.ownsRow_nil _ _ _ _, fun i j y z _ hy hz b hb => by
      have := List.mem_of_getElem? hy
      rw [List.mem_replicate] at this
      rw [this.2] at hb
      cases hb⟩
  have HM0 : Hid ((List.replicate n ((none, 0, []) : Gz)).map (·.2.2) = (List.range n).map fun t => cb11 (e11 d) n 0 0 t) := Lib.hid (by
    rw [List.map_replicate]
    apply List.ext_getElem?
    intro j
    by_cases hj : j < n
    · rw [List.getElem?_replicate_of_lt hj, List.getElem?_map, List.getElem?_range hj, Option.map_some, cb11_zero]
      rfl
    · rw [List.getElem?_eq_none (by simpa using hj), List.getElem?_eq_none (by simpa using hj)])
  clear hg hmk hn
  go_loopw [16] (fun iv wr => ∃ (k : Nat) (Y : List Gz), k ≤ n ∧ iv = .int .i64 k ∧ Hid (Cb11 wr w1.heap.size g n Y) ∧ Hid (Y.map (·.2.2) = (List.range n).map fun t => cb11 (e11 d) n k 0 t) ∧ Hid (∀ j, j < k → bd11 (co11 d j) n = false) ∧ Hid (Below w1.heap.size w1 wr)) (fun iv _ => n - (intOf iv).toNat)
  case atStart => exact ⟨0, _, by omega, rfl, HC0, HM0, Lib.hid (fun j hj => by omega), Lib.hid new1⟩
  case round =>
    clear HC0 HM0
    obtain ⟨k, Y, hk, rfl, HC, HM, HBD, HB⟩ := hrel
    rename World => wr
    have SR := Lib.hid (S0.out.call HB.out)
    by_cases h1 : k < n
    · have HWH := Lib.hid (whom11_v y d (k : Int) wr SR.out.2.2.1 HBS.out HBL.out)
      rw [Hid, wh11_ca (by rw [HN.out]; exact h1), HN.out] at HWH
      have HWH := Lib.hid HWH
      obtain ⟨-, ⟨d0, d1, d2, d3, d4⟩, -⟩ := SR.out
      go_wp2_with fail
      refine HWH.out.mono ?_
      rintro r w3 ⟨A3, c3, rfl, ho, hb⟩
      cases hbd : bd11 (co11 d k) n with
      | true =>
        have hT : ca11 (co11 d k) n = ([], 2) := by rw [ca11, if_pos hbd]
        have HBA : Hid (ba11 d = true) := Lib.hid (by
          cases h : ba11 d with
          | true => rfl
          | false =>
            have := ba11_at h (k := k) (by rw [HN.out]; exact h1)
            rw [HN.out, hbd] at this
            cases this)
        have HBF := Lib.hid (SR.out.call hb).1
        rw [hT]
        clear ho hb hbd hT HWH d0 d1 d2 d3 d4
        go_wp2_with fail
        go_ret2
        exact .inl ⟨HBA.out, rfl, HBF.out⟩
      | false =>
        obtain ⟨K, hK⟩ : ∃ K, ns11 ((List.range n).filter (e11 d k)) = K := ⟨_, rfl⟩
        have hT : ca11 (co11 d k) n = (K, 0) := by
          rw [ca11, if_neg (by rw [hbd]; simp), ← hK]
          rfl
        rw [hT] at ho ⊢
        have HBD2 : Hid (∀ j, j < k + 1 → bd11 (co11 d j) n = false) := Lib.hid (fun j hj => by
          by_cases hjk : j = k
          · rw [hjk]; exact hbd
          · exact HBD.out j (by omega))
        obtain ⟨kn, hkn⟩ : ∃ kn, K.length = kn := ⟨_, rfl⟩
        dsimp only at ho ⊢
        rw [hkn] at ho ⊢
        have HKN := Lib.hid hkn
        have HKE := Lib.hid hK
        have hkn9 : kn ≤ n := by rw [← hkn, ← hK]; exact fil_len11 _ _
        have HC3 := Lib.hid (HC.out.keep hb)
        have HB3 := Lib.hid (below_on HB.out hb)
        have HR3 := Lib.hid (Rn.of_own ho).1
        have HAT := Lib.hid (own_at13 ho)
        have HNP : Hid (Np13 Y A3) := Lib.hid fun z hz b hzb ad ha e => by
          have h2 := ((HC.out.each z hz).lt b hzb).2
          have h3 := own_at13 ho ad ha
          omega
        have HGN : Hid (∀ ad : Addr, A3 = some ad → ad.block ≠ g) := Lib.hid fun ad ha e => by
          have h2 := (HC.out.row.lt g rfl).2
          have h3 := own_at13 ho ad ha
          omega
        clear ho hb hbd hT HWH d0 d1 d2 d3 d4 hK hkn SR HC HB HBD
        go_wp2_with fail
        go_loopw [30] (fun jv wq => ∃ (i : Nat) (Y : List Gz), i ≤ kn ∧ jv = .int .i64 i ∧ Hid (Cb11 wq w1.heap.size g n Y) ∧ Hid (Y.map (·.2.2) = (List.range n).map fun t => cb11 (e11 d) n k i t) ∧ Hid (Below w1.heap.size w1 wq) ∧ Hid (Rn wq A3 c3 K) ∧ Hid (Np13 Y A3)) (fun jv _ => kn - (intOf jv).toNat)
        case atStart => exact ⟨0, Y, by omega, rfl, HC3, HM, HB3, HR3, HNP⟩
        case round =>
          clear HC3 HM HB3 HR3 HNP
          obtain ⟨i, Y2, hi, rfl, HC, HM, HB, HR, HNP⟩ := hrel
          rename World => wq
          by_cases h2 : i < kn
          · obtain ⟨t, ht⟩ : ∃ t, ((List.range n).filter (e11 d k))[i]? = some t := ⟨_, List.getElem?_eq_getElem (by have := HKN.out; rw [← HKE.out, ns11, List.length_map] at this; omega)⟩
            have htn : t < n := by have := List.mem_of_getElem? ht; rw [List.mem_filter, List.mem_range] at this; exact this.1
            obtain ⟨bd, hAk, z0⟩ := HR.out.at_ (show K[i]? = some (t : Int) by rw [← HKE.out]; exact ns11_at ht)
            have HLT := Lib.hid (lt_of_rn13 HR.out (by rw [HKN.out]; omega))
            subst hAk
            obtain ⟨⟨At, ct, Lt⟩, hyt, hyl⟩ := rel_at11 HC.out.len HM.out htn
            dsimp only at hyl
            obtain ⟨m, hm⟩ : ∃ m, Lt.length = m := ⟨_, rfl⟩
            have x0 := (HC.out.row.cellAt t (by rw [Nat.mul_one]; exact htn)).trans (show (cg11 Y2)[t]? = some (gv11 (At, ct, Lt)) by rw [cg11, List.getElem?_map, hyt]; rfl)
            rw [gv11] at x0
            dsimp only at x0
            rw [hm] at x0
            have xf := HC.out.row.frozenAt t
            have HT := Lib.hid ht
            have HYT := Lib.hid hyt
            have HYL := Lib.hid hyl
            have HMM := Lib.hid hm
            have hm9 : m ≤ 2000 := by
              rw [← hm, hyl, cb11, List.length_append]
              have := fil_len11 (fun j => e11 d j t) k
              rw [List.length_map] at this ⊢
              split <;> simp <;> omega
            have HOT : Hid ((wq.alloc (.cells #[.int .i64 (k : Int)] 3)).ownsRow w1.heap.size 3 1 (.slice At m ct) m (ci9 Lt)) := Lib.hid (by
              have := (HC.out.each _ (List.mem_of_getElem? hyt)).alloc (.cells #[.int .i64 (k : Int)] 3)
              rw [gv11] at this
              dsimp only at this
              rwa [hm] at this)
            have hc1 : (wq.alloc (.cells #[.int .i64 (k : Int)] 3)).cell? ((⟨wq.heap.size, 0, none⟩ : Addr).add 0) = some (.int .i64 (k : Int)) := by simp [go_sem, Addr.add]
            have HGV : Hid (gv11 (At, ct, Lt) = .slice At m ct) := Lib.hid (by rw [gv11, HMM.out])
            have HHN := Lib.hid (show (cg11 Y2).length = n by rw [cg11, List.length_map, HC.out.len])
            clear ht hyt hyl hm
            go_wp2_with (at_builtin; refine wpList_append_n1 rfl (.tmp 39) (.tmp 41) 53 Try.underlying53 rfl w1.heap.size _ m Lt rfl HOT.out _ (k : Int) rfl hc1 (by omega) (by have := HB.out.size; simp; omega) ?_; intro g' c' w9 ho9 hg9 hl9; have hrow9 := own_grown (HC.out.row.alloc _) HOT.out (by decide) hg9; have x9 := (hrow9.cellAt t (by omega)).trans (List.getElem?_eq_getElem (by rw [HHN.out]; omega)); have xf9 := hrow9.frozenAt t; have HC9 := Lib.hid (HC.out.put HYT.out HMM.out (w' := w9) (x := (k : Int)) (g' := g') (c' := c') ho9 (by rw [HGV.out]; exact hg9) (by rw [HGV.out]; exact hl9)); have HB9 := Lib.hid (((HB.out.alloc HB.out.size (.cells #[.int .i64 (k : Int)] 3)).grown hg9 (by have := HB.out.size; rw [size1]; omega) (fun q hq => (HOT.out.lt q hq).1)).setCell (p := ⟨g, t, none⟩) (by rw [HG1.out]; exact Nat.le_refl _) (.slice (some ⟨g', 0, none⟩) (m + 1) c')); have HR9 := Lib.hid (rn_past13 HR.out hg9 (fun b hb => HNP.out _ (List.mem_of_getElem? HYT.out) b (by rw [HGV.out]; exact hb)) HGN.out (t := t) (.slice (some ⟨g', 0, none⟩) (m + 1) c')); have HNP9 := Lib.hid (HNP.out.put (z := (some ⟨g', 0, none⟩, c', Lt ++ [(k : Int)])) HYT.out rfl (w := wq.alloc (.cells #[.int .i64 (k : Int)] 3)) (by rw [HGV.out]; exact hl9) (fun ad ha => by have := HLT.out ad ha; rw [size1]; omega)); clear ho9 hg9 hl9 hrow9)
            have HM9 : Hid ((Y2.set t (some ⟨g', 0, none⟩, c', Lt ++ [(k : Int)])).map (·.2.2) = (List.range n).map fun t => cb11 (e11 d) n k (i + 1) t) := Lib.hid (rel_set11 HM.out htn (by dsimp only; rw [cb11_step HT.out, if_pos rfl, HYL.out]) fun j hj => by rw [cb11_step HT.out, if_neg hj])
            go_roundw
            case rel => exact ⟨i + 1, _, by omega, by go_num, HC9, HM9, HB9, HR9, HNP9⟩
            case measure => simp [intOf]; omega
          · obtain rfl : kn = i := by omega
            have HM2 : Hid (Y2.map (·.2.2) = (List.range n).map fun t => cb11 (e11 d) n (k + 1) 0 t) := Lib.hid (by
              rw [HM.out]
              refine List.map_congr_left fun t ht => ?_
              exact cb11_next (by have := HKN.out; rw [← HKE.out, ns11, List.length_map] at this; omega) (List.mem_range.1 ht))
            go_wp2_with fail
            go_roundw
            case rel => exact ⟨k + 1, Y2, by omega, by go_num, HC, HM2, HBD2, HB⟩
            case measure => simp [intOf]; omega
    · obtain rfl : n = k := by omega
      have HMM : Hid (Y.map (·.2.2) = gre11 (fun t k => e11 d k t) n) := Lib.hid (by
        rw [HM.out, gre11]
        refine List.map_congr_left fun t _ => ?_
        rw [cb11_zero])
      have HBA : Hid (ba11 d = false) := Lib.hid (ba11_of (by rw [HN.out]; exact HBD.out))
      have HBF := Lib.hid SR.out.1
      have hsz : w.heap.size ≤ w1.heap.size := S0.out.1.size
      go_wp2_with fail
      go_ret2
      exact .inr ⟨HBA.out, _, _, Y, by rw [HN.out]; rfl, HC.out.go.base hsz, by rw [HN.out]; exact HC.out.len, by rw [HN.out]; exact HMM.out, HBF.out⟩
end Go.Proofs.Ytimjnmkfbdijeaa
