/-
  Slices of values (three cells each) that read as a list ('Rv'), what keeps them so; their cells, an append of one to a slice of the call's own; the reference's Copy and Same.
-/
import Derived.Test.YtkifapnmojfjoaaLd
namespace Go.Proofs.Ytkifapnmojfjoaa
open Go.RowKit
set_option maxRecDepth 100000
set_option linter.unusedSimpArgs false
set_option linter.unusedVariables false

/-- An value's three numbers. -/
abbrev Vlu := Int × Int × Int
def VlOk (x : Vlu) : Prop := (0 ≤ x.1 ∧ x.1 < 256) ∧ (-9223372036854775808 ≤ x.2.1 ∧ x.2.1 ≤ 9223372036854775807) ∧ (-9223372036854775808 ≤ x.2.2 ∧ x.2.2 ≤ 9223372036854775807)
/-- The slice at A, of capacity c, reads as the values L. -/
def Rv (w : World) (A : Option Addr) (c : Nat) (L : List Vlu) : Prop :=
  (∀ x ∈ L, VlOk x) ∧ L.length ≤ c ∧ c ≤ maxLen ∧ ((A = none ∧ c = 0) ∨ ∃ ad : Addr, A = some ad ∧ ∀ i x, L[i]? = some x → w.cell? (ad.add (i * 3)) = some (.int .u8 x.1) ∧ w.cell? ⟨(ad.add (i * 3)).block, (ad.add (i * 3)).off + 1, none⟩ = some (.int .i64 x.2.1) ∧ w.cell? ⟨(ad.add (i * 3)).block, (ad.add (i * 3)).off + 2, none⟩ = some (.int .i64 x.2.2))
/-- The cells of values. -/
def cev (L : List Vlu) : List Value := L.flatMap fun x => [.int .u8 x.1, .int .i64 x.2.1, .int .i64 x.2.2]
section
variable {w w' : World} {A : Option Addr} {c : Nat} {L : List Vlu}
theorem Rv.le (h : Rv w A c L) : L.length ≤ c := h.2.1
theorem Rv.len (h : Rv w A c L) : L.length ≤ 9223372036854775807 := Nat.le_trans h.le h.2.2.1
theorem Rv.at_ (h : Rv w A c L) {i : Nat} (hi : i < L.length) : ∃ ad : Addr, A = some ad ∧ w.cell? (ad.add (i * 3)) = some (.int .u8 (L[i]).1) ∧ w.cell? ⟨(ad.add (i * 3)).block, (ad.add (i * 3)).off + 1, none⟩ = some (.int .i64 (L[i]).2.1) ∧ w.cell? ⟨(ad.add (i * 3)).block, (ad.add (i * 3)).off + 2, none⟩ = some (.int .i64 (L[i]).2.2) := by
  rcases h.2.2.2 with ⟨_, hc⟩ | ⟨ad, ha, hc⟩
  · have := h.le; omega
  · exact ⟨ad, ha, hc i _ (List.getElem?_eq_getElem hi)⟩
theorem Rv.none_ (w : World) : Rv w none 0 [] := ⟨fun x hx => (by cases hx), Nat.le_refl _, Nat.zero_le _, .inl ⟨rfl, rfl⟩⟩
theorem Rv.keep (h : Rv w A c L) (hb : Below w.heap.size w w') : Rv w' A c L := by
  refine ⟨h.1, h.2.1, h.2.2.1, ?_⟩
  rcases h.2.2.2 with hn | ⟨ad, ha, hc⟩
  · exact .inl hn
  · refine .inr ⟨ad, ha, fun i x hx => ?_⟩
    obtain ⟨h1, h2, h3⟩ := hc i x hx
    exact ⟨(hb.cell (cell_lt h1)).trans h1, (hb.cell (cell_lt h2)).trans h2, (hb.cell (cell_lt h3)).trans h3⟩
theorem Rv.drewN (h : Rv w A c L) (q : Nat) : Rv (w.drewN q) A c L := h
end
abbrev fW (A : Option Addr) (c : Nat) (L : List Vlu) : Fct := ⟨fun w => Rv w A c L, fun _ _ h hb => h.keep hb⟩

theorem length_cev (L : List Vlu) : (cev L).length = L.length * 3 := by
  induction L with
  | nil => rfl
  | cons x L ih => rw [cev, List.flatMap_cons, List.length_append, ← cev, ih]; simp; omega
theorem cev_append (L M : List Vlu) : cev (L ++ M) = cev L ++ cev M := by simp [cev]
theorem cev_cons (x : Vlu) (L : List Vlu) : cev (x :: L) = .int .u8 x.1 :: .int .i64 x.2.1 :: .int .i64 x.2.2 :: cev L := by simp [cev]
theorem cev_one (L : List Vlu) : ∀ u ∈ cev L, u.oneCell' = true := by
  intro u hu
  simp only [cev, List.mem_flatMap] at hu
  obtain ⟨x, _, hx⟩ := hu
  simp at hx
  rcases hx with rfl | rfl | rfl <;> rfl
theorem cev_at {L : List Vlu} {i : Nat} {x : Vlu} (h : L[i]? = some x) : (cev L)[i * 3]? = some (.int .u8 x.1) ∧ (cev L)[i * 3 + 1]? = some (.int .i64 x.2.1) ∧ (cev L)[i * 3 + 2]? = some (.int .i64 x.2.2) := by
  induction L generalizing i with
  | nil => simp at h
  | cons y L ih =>
    cases i with
    | zero =>
      simp at h
      subst h
      rw [cev_cons]
      exact ⟨rfl, rfl, rfl⟩
    | succ i =>
      obtain ⟨h1, h2, h3⟩ := ih (i := i) (by simpa using h)
      rw [cev_cons, show (i + 1) * 3 = i * 3 + 1 + 1 + 1 by omega, show i * 3 + 1 + 1 + 1 + 1 = (i * 3 + 1) + 1 + 1 + 1 by omega, show i * 3 + 1 + 1 + 1 + 2 = (i * 3 + 2) + 1 + 1 + 1 by omega]
      simp only [List.getElem?_cons_succ]
      exact ⟨h1, h2, h3⟩
theorem cev_inv {L : List Vlu} {j : Nat} {u : Value} (h : (cev L)[j]? = some u) : ∃ i x, L[i]? = some x ∧ ((j = i * 3 ∧ u = .int .u8 x.1) ∨ (j = i * 3 + 1 ∧ u = .int .i64 x.2.1) ∨ (j = i * 3 + 2 ∧ u = .int .i64 x.2.2)) := by
  have hj := (List.getElem?_eq_some_iff.1 h).1
  rw [length_cev] at hj
  have hi : j / 3 < L.length := by omega
  have hx : L[j / 3]? = some L[j / 3] := List.getElem?_eq_getElem hi
  obtain ⟨h1, h2, h3⟩ := cev_at hx
  refine ⟨j / 3, _, hx, ?_⟩
  have h3' : j % 3 = 0 ∨ j % 3 = 1 ∨ j % 3 = 2 := by omega
  rcases h3' with e | e | e
  · have e' : j = j / 3 * 3 := by omega
    rw [← e', h] at h1
    exact .inl ⟨e', Option.some.inj h1⟩
  · have e' : j = j / 3 * 3 + 1 := by omega
    rw [← e', h] at h2
    exact .inr (.inl ⟨e', Option.some.inj h2⟩)
  · have e' : j = j / 3 * 3 + 2 := by omega
    rw [← e', h] at h3
    exact .inr (.inr ⟨e', Option.some.inj h3⟩)
theorem vadd_1 (ad : Addr) (k : Nat) : ad.add (k + 1) = ⟨(ad.add k).block, (ad.add k).off + 1, none⟩ := by
  unfold Addr.add
  rw [if_neg (by omega)]
  split
  · subst_vars; rfl
  · rfl
theorem vadd_2 (ad : Addr) (k : Nat) : ad.add (k + 2) = ⟨(ad.add k).block, (ad.add k).off + 2, none⟩ := by
  unfold Addr.add
  rw [if_neg (by omega)]
  split
  · subst_vars; rfl
  · rfl
theorem Rv.of_own {w : World} {A : Option Addr} {c base e : Nat} {n : Nat} {L : List Vlu} (h : w.ownsRow base e 3 (.slice A n c) n (cev L)) (hb : ∀ x ∈ L, VlOk x) : Rv w A c L ∧ n = L.length := by
  have hn : n = L.length := by have := h.1; rw [length_cev] at this; omega
  refine ⟨⟨hb, ?_⟩, hn⟩
  have hcell := fun g => h.cells (g := g)
  rcases h.2 with ⟨hv, h0⟩ | ⟨g, cap, cur, hv, _, _, hcap, hm, _⟩
  · injection hv with e1 e2 e3
    exact ⟨by omega, by omega, .inl ⟨e1, e3⟩⟩
  · injection hv with e1 e2 e3
    subst e1 e3
    refine ⟨by omega, hm, .inr ⟨_, rfl, fun i x hx => ?_⟩⟩
    obtain ⟨h1, h2, h3⟩ := cev_at hx
    rw [← vadd_1, ← vadd_2]
    exact ⟨hcell g rfl _ _ h1, hcell g rfl _ _ h2, hcell g rfl _ _ h3⟩
theorem rv_cells {w : World} {ad : Addr} {c : Nat} {L : List Vlu} (h : Rv w (some ad) c L) (hc : 0 < c) : ∀ j u, (cev L)[j]? = some u → w.cell? (ad.add j) = some u := by
  intro j u hj
  obtain ⟨i, x, hx, hu⟩ := cev_inv hj
  rcases h.2.2.2 with ⟨ha, _⟩ | ⟨ad', ha, hcell⟩
  · cases ha
  · injection ha with ha
    subst ha
    obtain ⟨h1, h2, h3⟩ := hcell i x hx
    rw [← vadd_1] at h2
    rw [← vadd_2] at h3
    rcases hu with ⟨rfl, rfl⟩ | ⟨rfl, rfl⟩ | ⟨rfl, rfl⟩
    · exact h1
    · exact h2
    · exact h3
theorem rv_new (w : World) (x : Vlu) (h : VlOk x) : Rv (w.alloc (.cells #[.int .u8 x.1, .int .i64 x.2.1, .int .i64 x.2.2] 33)) (some ⟨w.heap.size, 0, none⟩) 1 [x] := by
  refine ⟨fun y hy => by rw [List.mem_singleton.1 hy]; exact h, Nat.le_refl _, by unfold maxLen; omega, .inr ⟨_, rfl, fun i y hi => ?_⟩⟩
  match i, hi with
  | 0, hi =>
    simp at hi
    subst hi
    refine ⟨?_, ?_, ?_⟩ <;> simp [go_sem, Addr.add]
theorem Try.infoV : (Try.prog.info? 33).map (fun i => (i.zero, i.size, i.bytes)) = some (some (.agg #[.int .u8 0, .int .i64 0, .int .i64 0]), 3, 24) := by kernel_rfl

/-- append of a slice of values, to a slice of the call's own. -/
theorem wpList_append_rv (w : World) {ops : Array Oper} {rest : List Oper} {o : Oper} {a : Act} {Q : Exit → Act → World → Prop} (hgd : o.guard = none) (s x : Operand)
    (ho : o.op = .call { callee := .builtin .append, args := #[s, x], argTypes := #[23, 23] })
    (base : Nat) (v : Value) (n : Nat) (K : List Vlu) (hs : a.eval s = v) (hown : w.ownsRow base 33 3 v n (cev K))
    (A : Option Addr) (m c : Nat) (L : List Vlu) (hx : a.eval x = .slice A m c) (hr : Rv w A c L) (hm : m = L.length) (hbytes : n + m ≤ 1000000) (hbase : base ≤ w.heap.size)
    (h : ∀ A' c' w', w'.ownsRow base 33 3 (.slice A' (n + m) c') (n + m) (cev (K ++ L)) → Below base w w' → wpList Try.prog ops Q rest (a.put o.dst (.slice A' (n + m) c')) w') : wpList Try.prog ops Q (o :: rest) a w := by
  have hinfo := Try.infoV
  rw [Option.map_eq_some_iff] at hinfo
  obtain ⟨i, hi, hz⟩ := hinfo
  simp only [Prod.mk.injEq] at hz
  obtain ⟨hz0, hz1, hz2⟩ := hz
  have hbel : ∀ {w'}, w.grownBy w' v.ownBlock → Below base w w' := fun hg => (Below.refl _ _).grown hg hbase fun g hg' => (hown.lt g hg').1
  rcases hr.2.2.2 with ⟨rfl, rfl⟩ | ⟨ad, rfl, hcell⟩
  · have h0 : L = [] := List.eq_nil_of_length_eq_zero (by have := hr.le; omega)
    subst h0
    obtain rfl : m = 0 := hm
    refine wpList_append_own_none hgd s x 23 ho base 33 i 3 Try.underlying23 hi v n (cev K) hs hown hx ?_
    obtain ⟨A', c', rfl⟩ := own_form hown
    have := h A' c' w (by simpa using hown) (hbel (World.grownBy.refl w _))
    simpa using this
  · by_cases hc : c = 0
    · subst hc
      have h0 : L = [] := List.eq_nil_of_length_eq_zero (by have := hr.le; omega)
      subst h0
      obtain rfl : m = 0 := hm
      refine wpList_append_own_at w hgd s x 23 ho base 33 i _ 3 24 Try.underlying23 hi hz0 hz1 hz2 rfl (by decide) v n (cev K) hs hown ad 0 0 [] hx rfl (fun j u hj => by cases hj) (fun u hu => by cases hu) (by unfold maxLen; omega) (by omega) hbase ?_
      intro v' w' hown' hg _ _
      obtain ⟨A', c', rfl⟩ := own_form hown'
      exact h A' c' w' (by simpa using hown') (hbel hg)
    · refine wpList_append_own_at w hgd s x 23 ho base 33 i _ 3 24 Try.underlying23 hi hz0 hz1 hz2 rfl (by decide) v n (cev K) hs hown ad m c (cev L) hx (by rw [length_cev, hm])
        (rv_cells hr (by omega)) (cev_one L) (by unfold maxLen; omega) (by omega) hbase ?_
      intro v' w' hown' hg _ _
      obtain ⟨A', c', rfl⟩ := own_form hown'
      exact h A' c' w' (by rw [cev_append]; exact hown') (hbel hg)
theorem Rv.grown {w w' : World} {A : Option Addr} {c : Nat} {L : List Vlu} (h : Rv w A c L) {row : Option Nat} (hg : w.grownBy w' row) (hr : ∀ ad, A = some ad → some ad.block ≠ row) : Rv w' A c L := by
  refine ⟨h.1, h.2.1, h.2.2.1, ?_⟩
  rcases h.2.2.2 with hn | ⟨ad, ha, hc⟩
  · exact .inl hn
  · refine .inr ⟨ad, ha, fun i x hx => ?_⟩
    have hb : ∀ k, (ad.add k).block = ad.block := fun k => by unfold Addr.add; split <;> rfl
    obtain ⟨h1, h2, h3⟩ := hc i x hx
    refine ⟨hg.cell h1 (by rw [hb]; exact hr ad ha), hg.cell h2 (by simp only [hb]; exact hr ad ha), hg.cell h3 (by simp only [hb]; exact hr ad ha)⟩
/-- The same append, as one step of a region that draws its order. -/
theorem step_append_rvg {w : World} {ops : Array Oper} {o : Oper} {a : Act} {K : Act → World → Prop} {Q : Exit → Act → World → Prop} {E : Prop} (hw : Region.wanted o (yielded ops a.tmps) = true) (s x : Operand)
    (ho : o.op = .call { callee := .builtin .append, args := #[s, x], argTypes := #[23, 23] })
    (base : Nat) (v : Value) (n : Nat) (K0 : List Vlu) (hs : a.eval s = v) (hown : w.ownsRow base 33 3 v n (cev K0))
    (A : Option Addr) (m c : Nat) (L : List Vlu) (hx : a.eval x = .slice A m c) (hr : Rv w A c L) (hm : m = L.length) (hbytes : n + m ≤ 1000000) (hbase : base ≤ w.heap.size)
    (h : ∀ A' c' w', w'.ownsRow base 33 3 (.slice A' (n + m) c') (n + m) (cev (K0 ++ L)) → w.grownBy w' v.ownBlock → Below base w w' → K (a.put o.dst (.slice A' (n + m) c')) w') :
    if Region.wanted o (yielded ops a.tmps) = true then Oper.wp Try.prog o a w K Q else E := by
  rw [if_pos hw]
  have hinfo := Try.infoV
  rw [Option.map_eq_some_iff] at hinfo
  obtain ⟨i, hi, hz⟩ := hinfo
  simp only [Prod.mk.injEq] at hz
  obtain ⟨hz0, hz1, hz2⟩ := hz
  have hbel : ∀ {w'}, w.grownBy w' v.ownBlock → Below base w w' := fun hg => (Below.refl _ _).grown hg hbase fun g hg' => (hown.lt g hg').1
  rcases hr.2.2.2 with ⟨rfl, rfl⟩ | ⟨ad, rfl, hcell⟩
  · have h0 : L = [] := List.eq_nil_of_length_eq_zero (by have := hr.le; omega)
    subst h0
    obtain rfl : m = 0 := hm
    have hrun := run_append_owned_none (P := Try.prog) (w := w) base 23 o.type 33 i 3 Try.underlying23 hi v n (cev K0) hown
    obtain ⟨A', c', rfl⟩ := own_form hown
    unfold Oper.wp
    simp [execOp, ho, resolve, invoke, builtin, hs, hx, hrun, Result.andThen]
    have := h A' c' w (by simpa using hown) (World.grownBy.refl w _) (hbel (World.grownBy.refl w _))
    simp only [Nat.add_zero] at this
    exact this
  · have key : ∀ news : List Value, news = cev L → news.length = m * 3 → (∀ j u, news[j]? = some u → w.cell? (ad.add j) = some u) → Oper.wp Try.prog o a w K Q := by
      intro news hn hl hc
      obtain ⟨v', w', hr', h2, h3, h4, h5⟩ := run_append_own_at (P := Try.prog) w base 23 o.type 33 i _ 3 24 Try.underlying23 hi hz0 hz1 hz2 rfl (by decide) v n (cev K0) hown ad m c news hl hc (by rw [hn]; exact cev_one L) (by unfold maxLen; omega) (by omega) hbase
      obtain ⟨A', c', rfl⟩ := own_form h2
      unfold Oper.wp execOp
      simp only [ho, resolve, invoke, builtin, Sem.run_bind, Sem.run_pure, Result.andThen_ok, List.map_toArray, List.map_cons, List.map_nil, hs, hx, hr']
      exact h A' c' w' (by rw [cev_append, ← hn]; exact h2) h3 (hbel h3)
    by_cases hc : c = 0
    · subst hc
      have h0 : L = [] := List.eq_nil_of_length_eq_zero (by have := hr.le; omega)
      subst h0
      obtain rfl : m = 0 := hm
      exact key [] rfl rfl (fun j u hj => by cases hj)
    · exact key (cev L) rfl (by rw [length_cev, hm]) (rv_cells hr (by omega))
theorem step_append_rv {w : World} {ops : Array Oper} {o : Oper} {a : Act} {K : Act → World → Prop} {Q : Exit → Act → World → Prop} {E : Prop} (hgd : o.guard = none) (s x : Operand)
    (ho : o.op = .call { callee := .builtin .append, args := #[s, x], argTypes := #[23, 23] })
    (base : Nat) (v : Value) (n : Nat) (K0 : List Vlu) (hs : a.eval s = v) (hown : w.ownsRow base 33 3 v n (cev K0))
    (A : Option Addr) (m c : Nat) (L : List Vlu) (hx : a.eval x = .slice A m c) (hr : Rv w A c L) (hm : m = L.length) (hbytes : n + m ≤ 1000000) (hbase : base ≤ w.heap.size)
    (h : ∀ A' c' w', w'.ownsRow base 33 3 (.slice A' (n + m) c') (n + m) (cev (K0 ++ L)) → w.grownBy w' v.ownBlock → Below base w w' → K (a.put o.dst (.slice A' (n + m) c')) w') :
    if Region.wanted o (yielded ops a.tmps) = true then Oper.wp Try.prog o a w K Q else E :=
  step_append_rvg (by simp [Region.wanted, hgd]) s x ho base v n K0 hs hown A m c L hx hr hm hbytes hbase h
theorem vlu_eq (x y : Vlu) : (x.1 == y.1 && x.2.1 == y.2.1 && x.2.2 == y.2.2) = decide (x = y) := by
  obtain ⟨a, b, c⟩ := x
  obtain ⟨a', b', c'⟩ := y
  by_cases e1 : a = a' <;> by_cases e2 : b = b' <;> by_cases e3 : c = c' <;> simp [e1, e2, e3]
end Go.Proofs.Ytkifapnmojfjoaa
