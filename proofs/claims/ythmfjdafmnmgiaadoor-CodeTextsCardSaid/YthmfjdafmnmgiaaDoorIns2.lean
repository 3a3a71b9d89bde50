/-
  More on slices of instructions: their cells, an append of one to a slice of the call's own; the reference's Copy and Same.
-/
import Derived.Test.YthmfjdafmnmgiaaDoorIns
namespace Go.Proofs.YthmfjdafmnmgiaaDoor
open Go.RowKit
set_option linter.unusedSimpArgs false
set_option linter.unusedVariables false

theorem length_cei (L : List Ins) : (cei L).length = L.length * 3 := by
  induction L with
  | nil => rfl
  | cons x L ih => rw [cei, List.flatMap_cons, List.length_append, ← cei, ih]; simp; omega
theorem cei_append (L M : List Ins) : cei (L ++ M) = cei L ++ cei M := by simp [cei]
theorem cei_cons (x : Ins) (L : List Ins) : cei (x :: L) = .int .u8 x.1 :: .int .i64 x.2.1 :: .int .i64 x.2.2 :: cei L := by simp [cei]
theorem cei_one (L : List Ins) : ∀ u ∈ cei L, u.oneCell' = true := by
  intro u hu
  simp only [cei, List.mem_flatMap] at hu
  obtain ⟨x, _, hx⟩ := hu
  simp at hx
  rcases hx with rfl | rfl | rfl <;> rfl
theorem cei_at {L : List Ins} {i : Nat} {x : Ins} (h : L[i]? = some x) : (cei L)[i * 3]? = some (.int .u8 x.1) ∧ (cei L)[i * 3 + 1]? = some (.int .i64 x.2.1) ∧ (cei L)[i * 3 + 2]? = some (.int .i64 x.2.2) := by
  induction L generalizing i with
  | nil => simp at h
  | cons y L ih =>
    cases i with
    | zero =>
      simp at h
      subst h
      rw [cei_cons]
      exact ⟨rfl, rfl, rfl⟩
    | succ i =>
      obtain ⟨h1, h2, h3⟩ := ih (i := i) (by simpa using h)
      rw [cei_cons, show (i + 1) * 3 = i * 3 + 1 + 1 + 1 by omega, show i * 3 + 1 + 1 + 1 + 1 = (i * 3 + 1) + 1 + 1 + 1 by omega, show i * 3 + 1 + 1 + 1 + 2 = (i * 3 + 2) + 1 + 1 + 1 by omega]
      simp only [List.getElem?_cons_succ]
      exact ⟨h1, h2, h3⟩
theorem cei_inv {L : List Ins} {j : Nat} {u : Value} (h : (cei L)[j]? = some u) : ∃ i x, L[i]? = some x ∧ ((j = i * 3 ∧ u = .int .u8 x.1) ∨ (j = i * 3 + 1 ∧ u = .int .i64 x.2.1) ∨ (j = i * 3 + 2 ∧ u = .int .i64 x.2.2)) := by
  have hj := (List.getElem?_eq_some_iff.1 h).1
  rw [length_cei] at hj
  have hi : j / 3 < L.length := by omega
  have hx : L[j / 3]? = some L[j / 3] := List.getElem?_eq_getElem hi
  obtain ⟨h1, h2, h3⟩ := cei_at hx
  refine ⟨j / 3, _, hx, ?_⟩
  have h3' : j % 3 = 0 ∨ j % 3 = 1 ∨ j % 3 = 2 := by omega
  rcases h3' with e | e | e
  · have e' : j = j / 3 * 3 := by omega
    rw [← e', h] at h1
    exact .inl ⟨e', Option.some.inj h1⟩
  · have e' : j = j / 3 * 3 + 1 := by omega
    rw [← e', h] at h2
    exact .inr (.inl ⟨e', Option.some.inj h2⟩)
  · have e' : j = j / 3 * 3 + 2 := by omega
    rw [← e', h] at h3
    exact .inr (.inr ⟨e', Option.some.inj h3⟩)
theorem add_1 (ad : Addr) (k : Nat) : ad.add (k + 1) = ⟨(ad.add k).block, (ad.add k).off + 1, none⟩ := by
  unfold Addr.add
  rw [if_neg (by omega)]
  split
  · subst_vars; rfl
  · rfl
theorem add_2 (ad : Addr) (k : Nat) : ad.add (k + 2) = ⟨(ad.add k).block, (ad.add k).off + 2, none⟩ := by
  unfold Addr.add
  rw [if_neg (by omega)]
  split
  · subst_vars; rfl
  · rfl
theorem Ri.of_own {w : World} {A : Option Addr} {c base e : Nat} {n : Nat} {L : List Ins} (h : w.ownsRow base e 3 (.slice A n c) n (cei L)) (hb : ∀ x ∈ L, InOk x) : Ri w A c L ∧ n = L.length := by
  have hn : n = L.length := by have := h.1; rw [length_cei] at this; omega
  refine ⟨⟨hb, ?_⟩, hn⟩
  have hcell := fun g => h.cells (g := g)
  rcases h.2 with ⟨hv, h0⟩ | ⟨g, cap, cur, hv, _, _, hcap, hm, _⟩
  · injection hv with e1 e2 e3
    exact ⟨by omega, by omega, .inl ⟨e1, e3⟩⟩
  · injection hv with e1 e2 e3
    subst e1 e3
    refine ⟨by omega, hm, .inr ⟨_, rfl, fun i x hx => ?_⟩⟩
    obtain ⟨h1, h2, h3⟩ := cei_at hx
    rw [← add_1, ← add_2]
    exact ⟨hcell g rfl _ _ h1, hcell g rfl _ _ h2, hcell g rfl _ _ h3⟩
theorem ri_cells {w : World} {ad : Addr} {c : Nat} {L : List Ins} (h : Ri w (some ad) c L) (hc : 0 < c) : ∀ j u, (cei L)[j]? = some u → w.cell? (ad.add j) = some u := by
  intro j u hj
  obtain ⟨i, x, hx, hu⟩ := cei_inv hj
  rcases h.2.2.2 with ⟨ha, _⟩ | ⟨ad', ha, hcell⟩
  · cases ha
  · injection ha with ha
    subst ha
    obtain ⟨h1, h2, h3⟩ := hcell i x hx
    rw [← add_1] at h2
    rw [← add_2] at h3
    rcases hu with ⟨rfl, rfl⟩ | ⟨rfl, rfl⟩ | ⟨rfl, rfl⟩
    · exact h1
    · exact h2
    · exact h3
theorem ri_new (w : World) (x : Ins) (h : InOk x) : Ri (w.alloc (.cells #[.int .u8 x.1, .int .i64 x.2.1, .int .i64 x.2.2] 47)) (some ⟨w.heap.size, 0, none⟩) 1 [x] := by
  refine ⟨fun y hy => by rw [List.mem_singleton.1 hy]; exact h, Nat.le_refl _, by unfold maxLen; omega, .inr ⟨_, rfl, fun i y hi => ?_⟩⟩
  match i, hi with
  | 0, hi =>
    simp at hi
    subst hi
    refine ⟨?_, ?_, ?_⟩ <;> simp [go_sem, Addr.add]
theorem Tryd.infoI : (Tryd.prog.info? 47).map (fun i => (i.zero, i.size, i.bytes)) = some (some (.agg #[.int .u8 0, .int .i64 0, .int .i64 0]), 3, 24) := by kernel_rfl

/-- append of a slice of instructions, to a slice of the call's own. -/
theorem wpList_append_ri (w : World) {ops : Array Oper} {rest : List Oper} {o : Oper} {a : Act} {Q : Exit → Act → World → Prop} (hgd : o.guard = none) (s x : Operand)
    (ho : o.op = .call { callee := .builtin .append, args := #[s, x], argTypes := #[22, 22] })
    (base : Nat) (v : Value) (n : Nat) (K : List Ins) (hs : a.eval s = v) (hown : w.ownsRow base 47 3 v n (cei K))
    (A : Option Addr) (m c : Nat) (L : List Ins) (hx : a.eval x = .slice A m c) (hr : Ri w A c L) (hm : m = L.length) (hbytes : n + m ≤ 1000000) (hbase : base ≤ w.heap.size)
    (h : ∀ A' c' w', w'.ownsRow base 47 3 (.slice A' (n + m) c') (n + m) (cei (K ++ L)) → Below base w w' → wpList Tryd.prog ops Q rest (a.put o.dst (.slice A' (n + m) c')) w') : wpList Tryd.prog ops Q (o :: rest) a w := by
  have hinfo := Tryd.infoI
  rw [Option.map_eq_some_iff] at hinfo
  obtain ⟨i, hi, hz⟩ := hinfo
  simp only [Prod.mk.injEq] at hz
  obtain ⟨hz0, hz1, hz2⟩ := hz
  have hbel : ∀ {w'}, w.grownBy w' v.ownBlock → Below base w w' := fun hg => (Below.refl _ _).grown hg hbase fun g hg' => (hown.lt g hg').1
  rcases hr.2.2.2 with ⟨rfl, rfl⟩ | ⟨ad, rfl, hcell⟩
  · have h0 : L = [] := List.eq_nil_of_length_eq_zero (by have := hr.le; omega)
    subst h0
    obtain rfl : m = 0 := hm
    refine wpList_append_own_none hgd s x 22 ho base 47 i 3 Tryd.underlying22 hi v n (cei K) hs hown hx ?_
    obtain ⟨A', c', rfl⟩ := own_form hown
    have := h A' c' w (by simpa using hown) (hbel (World.grownBy.refl w _))
    simpa using this
  · by_cases hc : c = 0
    · subst hc
      have h0 : L = [] := List.eq_nil_of_length_eq_zero (by have := hr.le; omega)
      subst h0
      obtain rfl : m = 0 := hm
      refine wpList_append_own_at w hgd s x 22 ho base 47 i _ 3 24 Tryd.underlying22 hi hz0 hz1 hz2 rfl (by decide) v n (cei K) hs hown ad 0 0 [] hx rfl (fun j u hj => by cases hj) (fun u hu => by cases hu) (by unfold maxLen; omega) (by omega) hbase ?_
      intro v' w' hown' hg _ _
      obtain ⟨A', c', rfl⟩ := own_form hown'
      exact h A' c' w' (by simpa using hown') (hbel hg)
    · refine wpList_append_own_at w hgd s x 22 ho base 47 i _ 3 24 Tryd.underlying22 hi hz0 hz1 hz2 rfl (by decide) v n (cei K) hs hown ad m c (cei L) hx (by rw [length_cei, hm])
        (ri_cells hr (by omega)) (cei_one L) (by unfold maxLen; omega) (by omega) hbase ?_
      intro v' w' hown' hg _ _
      obtain ⟨A', c', rfl⟩ := own_form hown'
      exact h A' c' w' (by rw [cei_append]; exact hown') (hbel hg)
theorem Ri.grown {w w' : World} {A : Option Addr} {c : Nat} {L : List Ins} (h : Ri w A c L) {row : Option Nat} (hg : w.grownBy w' row) (hr : ∀ ad, A = some ad → some ad.block ≠ row) : Ri w' A c L := by
  refine ⟨h.1, h.2.1, h.2.2.1, ?_⟩
  rcases h.2.2.2 with hn | ⟨ad, ha, hc⟩
  · exact .inl hn
  · refine .inr ⟨ad, ha, fun i x hx => ?_⟩
    have hb : ∀ k, (ad.add k).block = ad.block := fun k => by unfold Addr.add; split <;> rfl
    obtain ⟨h1, h2, h3⟩ := hc i x hx
    refine ⟨hg.cell h1 (by rw [hb]; exact hr ad ha), hg.cell h2 (by simp only [hb]; exact hr ad ha), hg.cell h3 (by simp only [hb]; exact hr ad ha)⟩
/-- The same append, as one step of a region that draws its order. -/
theorem step_append_ri {w : World} {ops : Array Oper} {o : Oper} {a : Act} {K : Act → World → Prop} {Q : Exit → Act → World → Prop} {E : Prop} (hgd : o.guard = none) (s x : Operand)
    (ho : o.op = .call { callee := .builtin .append, args := #[s, x], argTypes := #[22, 22] })
    (base : Nat) (v : Value) (n : Nat) (K0 : List Ins) (hs : a.eval s = v) (hown : w.ownsRow base 47 3 v n (cei K0))
    (A : Option Addr) (m c : Nat) (L : List Ins) (hx : a.eval x = .slice A m c) (hr : Ri w A c L) (hm : m = L.length) (hbytes : n + m ≤ 1000000) (hbase : base ≤ w.heap.size)
    (h : ∀ A' c' w', w'.ownsRow base 47 3 (.slice A' (n + m) c') (n + m) (cei (K0 ++ L)) → w.grownBy w' v.ownBlock → Below base w w' → K (a.put o.dst (.slice A' (n + m) c')) w') :
    if Region.wanted o (yielded ops a.tmps) = true then Oper.wp Tryd.prog o a w K Q else E := by
  have hw : Region.wanted o (yielded ops a.tmps) = true := by simp [Region.wanted, hgd]
  rw [if_pos hw]
  have hinfo := Tryd.infoI
  rw [Option.map_eq_some_iff] at hinfo
  obtain ⟨i, hi, hz⟩ := hinfo
  simp only [Prod.mk.injEq] at hz
  obtain ⟨hz0, hz1, hz2⟩ := hz
  have hbel : ∀ {w'}, w.grownBy w' v.ownBlock → Below base w w' := fun hg => (Below.refl _ _).grown hg hbase fun g hg' => (hown.lt g hg').1
  rcases hr.2.2.2 with ⟨rfl, rfl⟩ | ⟨ad, rfl, hcell⟩
  · have h0 : L = [] := List.eq_nil_of_length_eq_zero (by have := hr.le; omega)
    subst h0
    obtain rfl : m = 0 := hm
    have hrun := run_append_owned_none (P := Tryd.prog) (w := w) base 22 o.type 47 i 3 Tryd.underlying22 hi v n (cei K0) hown
    obtain ⟨A', c', rfl⟩ := own_form hown
    unfold Oper.wp
    simp [execOp, ho, resolve, invoke, builtin, hs, hx, hrun, Result.andThen]
    have := h A' c' w (by simpa using hown) (World.grownBy.refl w _) (hbel (World.grownBy.refl w _))
    simp only [Nat.add_zero] at this
    exact this
  · have key : ∀ news : List Value, news = cei L → news.length = m * 3 → (∀ j u, news[j]? = some u → w.cell? (ad.add j) = some u) → Oper.wp Tryd.prog o a w K Q := by
      intro news hn hl hc
      obtain ⟨v', w', hr', h2, h3, h4, h5⟩ := run_append_own_at (P := Tryd.prog) w base 22 o.type 47 i _ 3 24 Tryd.underlying22 hi hz0 hz1 hz2 rfl (by decide) v n (cei K0) hown ad m c news hl hc (by rw [hn]; exact cei_one L) (by unfold maxLen; omega) (by omega) hbase
      obtain ⟨A', c', rfl⟩ := own_form h2
      unfold Oper.wp execOp
      simp only [ho, resolve, invoke, builtin, Sem.run_bind, Sem.run_pure, Result.andThen_ok, List.map_toArray, List.map_cons, List.map_nil, hs, hx, hr']
      exact h A' c' w' (by rw [cei_append, ← hn]; exact h2) h3 (hbel h3)
    by_cases hc : c = 0
    · subst hc
      have h0 : L = [] := List.eq_nil_of_length_eq_zero (by have := hr.le; omega)
      subst h0
      obtain rfl : m = 0 := hm
      exact key [] rfl rfl (fun j u hj => by cases hj)
    · exact key (cei L) rfl (by rw [length_cei, hm]) (ri_cells hr (by omega))
theorem rcopy_any (A : Option Addr) (c m : Nat) (L : List Ins) (w : World) (hr : Ri w A c L) (hm : L.length = m) (hl : m ≤ 1000000) : Calls Tryd.prog 8 #[.slice A m c] w fun e w' => ∃ A' c', e = .returned (.slice A' m c') ∧ w'.ownsRow w.heap.size 47 3 (.slice A' m c') m (cei L) ∧ Below w.heap.size w w' := by
  go_enter Tryd.func8, Tryd.ntmps8
  go_wp2_with (at_builtin; refine wpList_append_ri _ rfl _ _ rfl w.heap.size _ 0 [] rfl (World.ownsRow_nil _ _ _ _) A m c L rfl hr hm.symm (by omega) (Nat.le_refl _) ?_)
  intro A' c' w1 ho hb
  have HO := Lib.hid ho
  have HB := Lib.hid hb
  clear ho hb
  go_wp2_with fail
  go_ret
  exact ⟨A', c', rfl, HO.out, HB.out⟩

/-- '==' of two instructions. -/
theorem eq_ins (d : Nat) (k a b k' a' b' : Int) (v : Bool) (h : (k == k' && a == a' && b == b') = v) (w : World) : (Op.equalIn (d + 1 + 1) 47 (.agg #[.int .u8 k, .int .i64 a, .int .i64 b]) (.agg #[.int .u8 k', .int .i64 a', .int .i64 b'])).run Tryd.prog w = .ok v w := by
  have hS : Tryd.prog.underlying 47 = some (.struct (Tryd.prog.fieldsOf 47)) := by kernel_rfl
  have hp : Tryd.prog.stoodInHeld 47 = false := by kernel_rfl
  have u1 := Tryd.underlying5
  have u2 := Tryd.underlying3
  have h0 : ∀ u v t : Value, (part 5 #[u, v, t] 0).run Tryd.prog w = .ok u w := fun u v t => by kernel_rfl
  have h1 : ∀ u v t : Value, (part 3 #[u, v, t] 1).run Tryd.prog w = .ok v w := fun u v t => by kernel_rfl
  have h2 : ∀ u v t : Value, (part 3 #[u, v, t] 2).run Tryd.prog w = .ok t w := fun u v t => by kernel_rfl
  rw [run_equalIn_agg w (d + 1) 47 _ _ hS hp]
  simp only [Program.fieldsOf, Tryd.underlying47]
  subst h
  go_simp
  by_cases e1 : k = k' <;> by_cases e2 : a = a' <;> by_cases e3 : b = b' <;> simp [e1, e2, e3]
theorem ins_eq (x y : Ins) : (x.1 == y.1 && x.2.1 == y.2.1 && x.2.2 == y.2.2) = decide (x = y) := by
  obtain ⟨a, b, c⟩ := x
  obtain ⟨a', b', c'⟩ := y
  by_cases e1 : a = a' <;> by_cases e2 : b = b' <;> by_cases e3 : c = c' <;> simp [e1, e2, e3]
set_option maxHeartbeats 1000000 in
theorem r5same_any (A B : Option Addr) (c d n m : Nat) (L M : List Ins) (w : World) (h1 : Ri w A c L) (h2 : Ri w B d M) (hn : L.length = n) (hm : M.length = m) : Calls Tryd.prog 15 #[.slice A n c, .slice B m d] w fun e w' => e = .returned (.bool (decide (L = M))) ∧ Below w.heap.size w w' := by
  have hl1 := h1.len
  have hl2 := h2.len
  have HR1 := Lib.hid h1
  have HR2 := Lib.hid h2
  clear h1 h2
  by_cases hnm : n = m
  · subst hn
    have hml : M.length = L.length := by omega
    subst hnm
    clear hm
    go_enter Tryd.func15, Tryd.ntmps15
    go_wp2_with fail
    go_loopw [5] (fun i wr => ∃ j : Nat, j ≤ L.length ∧ i = .int .i64 j ∧ Hid (L.take j = M.take j) ∧ Hid (Below w.heap.size w wr)) (fun i _ => L.length - (intOf i).toNat)
    case atStart => exact ⟨0, by omega, rfl, rfl, Lib.hid (Below.refl _ _)⟩
    case round =>
      obtain ⟨j, hj, rfl, HE, HB⟩ := hrel
      by_cases h : j < L.length
      · have h' : j < M.length := by omega
        obtain ⟨a1, rfl, x0, x1, x2⟩ := (HR1.out.keep HB.out).at_ h
        obtain ⟨a2, rfl, y0, y1, y2⟩ := (HR2.out.keep HB.out).at_ h'
        cases hv : decide (L[j] = M[j]) with
        | true =>
          have HN : Hid (L.take (j + 1) = M.take (j + 1)) := by
            have e : L[j] = M[j] := of_decide_eq_true hv
            rw [Hid, List.take_add_one, List.take_add_one, HE.out, List.getElem?_eq_getElem h, List.getElem?_eq_getElem h', e]
          have q := eq_ins 9998 L[j].1 L[j].2.1 L[j].2.2 M[j].1 M[j].2.1 M[j].2.2 true (by rw [ins_eq]; exact hv)
          clear HE hv
          generalize L[j] = x at *
          generalize M[j] = y at *
          go_wp2_with fail
          go_quiet (fail)
          go_wp2
          go_roundw
          case rel => exact ⟨j + 1, by omega, by go_num, HN, Lib.hid (below_draws HB.out _)⟩
          case measure => simp [intOf]; omega
        | false =>
          have HN : Hid (decide (L = M) = false) := by
            have e : ¬ L[j] = M[j] := of_decide_eq_false hv
            exact decide_eq_false fun e2 => e (by subst e2; rfl)
          have q := eq_ins 9998 L[j].1 L[j].2.1 L[j].2.2 M[j].1 M[j].2.1 M[j].2.2 false (by rw [ins_eq]; exact hv)
          clear HE hv
          generalize L[j] = x at *
          generalize M[j] = y at *
          go_wp2_with fail
          go_quiet (fail)
          go_wp2
          go_ret
          exact ⟨by rw [HN.out]; rfl, below_draws HB.out _⟩
      · obtain rfl : j = L.length := by omega
        have HN : Hid (decide (L = M) = true) := by
          have := HE.out
          rw [List.take_length, List.take_of_length_le (by omega)] at this
          exact decide_eq_true this
        go_wp2
        go_ret
        exact ⟨by rw [HN.out]; rfl, HB.out⟩
  · have HN : Hid (decide (L = M) = false) := decide_eq_false fun e => hnm (by rw [← hn, ← hm, e])
    go_enter Tryd.func15, Tryd.ntmps15
    go_wp2_with fail
    go_ret
    exact ⟨by rw [HN.out]; rfl, Below.refl _ _⟩
end Go.Proofs.YthmfjdafmnmgiaaDoor
