/-
  Ins, Ins2, Crb, Crr, Crt, Crn, Crl, Crp, Ck: in one text.
-/
import Derived.Test.YtimjnmkfbdijeaaLf
import Derived.Test.YtimjnmkfbdijeaaOparses
namespace Go.Proofs.Ytimjnmkfbdijeaa
open Go.RowKit
set_option linter.unusedSimpArgs false
set_option linter.unusedVariables false

/-- An instruction's three numbers. -/
abbrev Ins := Int × Int × Int
def InOk (x : Ins) : Prop := (0 ≤ x.1 ∧ x.1 < 256) ∧ (-9223372036854775808 ≤ x.2.1 ∧ x.2.1 ≤ 9223372036854775807) ∧ (-9223372036854775808 ≤ x.2.2 ∧ x.2.2 ≤ 9223372036854775807)
/-- The slice at A, of capacity c, reads as the instructions L. -/
def Ri (w : World) (A : Option Addr) (c : Nat) (L : List Ins) : Prop :=
  (∀ x ∈ L, InOk x) ∧ L.length ≤ c ∧ c ≤ maxLen ∧ ((A = none ∧ c = 0) ∨ ∃ ad : Addr, A = some ad ∧ ∀ i x, L[i]? = some x → w.cell? (ad.add (i * 3)) = some (.int .u8 x.1) ∧ w.cell? ⟨(ad.add (i * 3)).block, (ad.add (i * 3)).off + 1, none⟩ = some (.int .i64 x.2.1) ∧ w.cell? ⟨(ad.add (i * 3)).block, (ad.add (i * 3)).off + 2, none⟩ = some (.int .i64 x.2.2))
/-- The cells of instructions. -/
def cei (L : List Ins) : List Value := L.flatMap fun x => [.int .u8 x.1, .int .i64 x.2.1, .int .i64 x.2.2]
section
variable {w w' : World} {A : Option Addr} {c : Nat} {L : List Ins}
theorem Ri.le (h : Ri w A c L) : L.length ≤ c := h.2.1
theorem Ri.len (h : Ri w A c L) : L.length ≤ 9223372036854775807 := Nat.le_trans h.le h.2.2.1
theorem Ri.at_ (h : Ri w A c L) {i : Nat} (hi : i < L.length) : ∃ ad : Addr, A = some ad ∧ w.cell? (ad.add (i * 3)) = some (.int .u8 (L[i]).1) ∧ w.cell? ⟨(ad.add (i * 3)).block, (ad.add (i * 3)).off + 1, none⟩ = some (.int .i64 (L[i]).2.1) ∧ w.cell? ⟨(ad.add (i * 3)).block, (ad.add (i * 3)).off + 2, none⟩ = some (.int .i64 (L[i]).2.2) := by
  rcases h.2.2.2 with ⟨_, hc⟩ | ⟨ad, ha, hc⟩
  · have := h.le; omega
  · exact ⟨ad, ha, hc i _ (List.getElem?_eq_getElem hi)⟩
theorem Ri.none_ (w : World) : Ri w none 0 [] := ⟨fun x hx => (by cases hx), Nat.le_refl _, Nat.zero_le _, .inl ⟨rfl, rfl⟩⟩
theorem Ri.keep (h : Ri w A c L) (hb : Below w.heap.size w w') : Ri w' A c L := by
  refine ⟨h.1, h.2.1, h.2.2.1, ?_⟩
  rcases h.2.2.2 with hn | ⟨ad, ha, hc⟩
  · exact .inl hn
  · refine .inr ⟨ad, ha, fun i x hx => ?_⟩
    obtain ⟨h1, h2, h3⟩ := hc i x hx
    exact ⟨(hb.cell (cell_lt h1)).trans h1, (hb.cell (cell_lt h2)).trans h2, (hb.cell (cell_lt h3)).trans h3⟩
theorem Ri.drewN (h : Ri w A c L) (q : Nat) : Ri (w.drewN q) A c L := h
end
abbrev fT (A : Option Addr) (c : Nat) (L : List Ins) : Fct := ⟨fun w => Ri w A c L, fun _ _ h hb => h.keep hb⟩

/-- Whether instructions are code. -/
def inM (x : Ins) : Bool := opM x.1 x.2.1 x.2.2
def codM (L : List Ins) : Bool := decide (1 ≤ L.length) && decide (L.length ≤ 200) && L.all inM
/-- Whether something may stand behind an operation. -/
def wdB (n : Int) : Bool := decide (0 < opHi n)
end Go.Proofs.Ytimjnmkfbdijeaa
namespace Go.Proofs.Ytimjnmkfbdijeaa
open Go.RowKit
set_option linter.unusedSimpArgs false
set_option linter.unusedVariables false

theorem length_cei (L : List Ins) : (cei L).length = L.length * 3 := by
  induction L with
  | nil => rfl
  | cons x L ih => rw [cei, List.flatMap_cons, List.length_append, ← cei, ih]; simp; omega
theorem cei_append (L M : List Ins) : cei (L ++ M) = cei L ++ cei M := by simp [cei]
theorem cei_cons (x : Ins) (L : List Ins) : cei (x :: L) = .int .u8 x.1 :: .int .i64 x.2.1 :: .int .i64 x.2.2 :: cei L := by simp [cei]
theorem cei_one (L : List Ins) : ∀ u ∈ cei L, u.oneCell' = true := by
  intro u hu
  simp only [cei, List.mem_flatMap] at hu
  obtain ⟨x, _, hx⟩ := hu
  simp at hx
  rcases hx with rfl | rfl | rfl <;> rfl
theorem cei_at {L : List Ins} {i : Nat} {x : Ins} (h : L[i]? = some x) : (cei L)[i * 3]? = some (.int .u8 x.1) ∧ (cei L)[i * 3 + 1]? = some (.int .i64 x.2.1) ∧ (cei L)[i * 3 + 2]? = some (.int .i64 x.2.2) := by
  induction L generalizing i with
  | nil => simp at h
  | cons y L ih =>
    cases i with
    | zero =>
      simp at h
      subst h
      rw [cei_cons]
      exact ⟨rfl, rfl, rfl⟩
    | succ i =>
      obtain ⟨h1, h2, h3⟩ := ih (i := i) (by simpa using h)
      rw [cei_cons, show (i + 1) * 3 = i * 3 + 1 + 1 + 1 by omega, show i * 3 + 1 + 1 + 1 + 1 = (i * 3 + 1) + 1 + 1 + 1 by omega, show i * 3 + 1 + 1 + 1 + 2 = (i * 3 + 2) + 1 + 1 + 1 by omega]
      simp only [List.getElem?_cons_succ]
      exact ⟨h1, h2, h3⟩
theorem cei_inv {L : List Ins} {j : Nat} {u : Value} (h : (cei L)[j]? = some u) : ∃ i x, L[i]? = some x ∧ ((j = i * 3 ∧ u = .int .u8 x.1) ∨ (j = i * 3 + 1 ∧ u = .int .i64 x.2.1) ∨ (j = i * 3 + 2 ∧ u = .int .i64 x.2.2)) := by
  have hj := (List.getElem?_eq_some_iff.1 h).1
  rw [length_cei] at hj
  have hi : j / 3 < L.length := by omega
  have hx : L[j / 3]? = some L[j / 3] := List.getElem?_eq_getElem hi
  obtain ⟨h1, h2, h3⟩ := cei_at hx
  refine ⟨j / 3, _, hx, ?_⟩
  have h3' : j % 3 = 0 ∨ j % 3 = 1 ∨ j % 3 = 2 := by omega
  rcases h3' with e | e | e
  · have e' : j = j / 3 * 3 := by omega
    rw [← e', h] at h1
    exact .inl ⟨e', Option.some.inj h1⟩
  · have e' : j = j / 3 * 3 + 1 := by omega
    rw [← e', h] at h2
    exact .inr (.inl ⟨e', Option.some.inj h2⟩)
  · have e' : j = j / 3 * 3 + 2 := by omega
    rw [← e', h] at h3
    exact .inr (.inr ⟨e', Option.some.inj h3⟩)
theorem add_1 (ad : Addr) (k : Nat) : ad.add (k + 1) = ⟨(ad.add k).block, (ad.add k).off + 1, none⟩ := by
  unfold Addr.add
  rw [if_neg (by omega)]
  split
  · subst_vars; rfl
  · rfl
theorem add_2 (ad : Addr) (k : Nat) : ad.add (k + 2) = ⟨(ad.add k).block, (ad.add k).off + 2, none⟩ := by
  unfold Addr.add
  rw [if_neg (by omega)]
  split
  · subst_vars; rfl
  · rfl
theorem Ri.of_own {w : World} {A : Option Addr} {c base e : Nat} {n : Nat} {L : List Ins} (h : w.ownsRow base e 3 (.slice A n c) n (cei L)) (hb : ∀ x ∈ L, InOk x) : Ri w A c L ∧ n = L.length := by
  have hn : n = L.length := by have := h.1; rw [length_cei] at this; omega
  refine ⟨⟨hb, ?_⟩, hn⟩
  have hcell := fun g => h.cells (g := g)
  rcases h.2 with ⟨hv, h0⟩ | ⟨g, cap, cur, hv, _, _, hcap, hm, _⟩
  · injection hv with e1 e2 e3
    exact ⟨by omega, by omega, .inl ⟨e1, e3⟩⟩
  · injection hv with e1 e2 e3
    subst e1 e3
    refine ⟨by omega, hm, .inr ⟨_, rfl, fun i x hx => ?_⟩⟩
    obtain ⟨h1, h2, h3⟩ := cei_at hx
    rw [← add_1, ← add_2]
    exact ⟨hcell g rfl _ _ h1, hcell g rfl _ _ h2, hcell g rfl _ _ h3⟩
theorem ri_cells {w : World} {ad : Addr} {c : Nat} {L : List Ins} (h : Ri w (some ad) c L) (hc : 0 < c) : ∀ j u, (cei L)[j]? = some u → w.cell? (ad.add j) = some u := by
  intro j u hj
  obtain ⟨i, x, hx, hu⟩ := cei_inv hj
  rcases h.2.2.2 with ⟨ha, _⟩ | ⟨ad', ha, hcell⟩
  · cases ha
  · injection ha with ha
    subst ha
    obtain ⟨h1, h2, h3⟩ := hcell i x hx
    rw [← add_1] at h2
    rw [← add_2] at h3
    rcases hu with ⟨rfl, rfl⟩ | ⟨rfl, rfl⟩ | ⟨rfl, rfl⟩
    · exact h1
    · exact h2
    · exact h3
theorem ri_new (w : World) (x : Ins) (h : InOk x) : Ri (w.alloc (.cells #[.int .u8 x.1, .int .i64 x.2.1, .int .i64 x.2.2] 57)) (some ⟨w.heap.size, 0, none⟩) 1 [x] := by
  refine ⟨fun y hy => by rw [List.mem_singleton.1 hy]; exact h, Nat.le_refl _, by unfold maxLen; omega, .inr ⟨_, rfl, fun i y hi => ?_⟩⟩
  match i, hi with
  | 0, hi =>
    simp at hi
    subst hi
    refine ⟨?_, ?_, ?_⟩ <;> simp [go_sem, Addr.add]
theorem Try.infoI : (Try.prog.info? 57).map (fun i => (i.zero, i.size, i.bytes)) = some (some (.agg #[.int .u8 0, .int .i64 0, .int .i64 0]), 3, 24) := by kernel_rfl

/-- append of a slice of instructions, to a slice of the call's own. -/
theorem wpList_append_ri (w : World) {ops : Array Oper} {rest : List Oper} {o : Oper} {a : Act} {Q : Exit → Act → World → Prop} (hgd : o.guard = none) (s x : Operand)
    (ho : o.op = .call { callee := .builtin .append, args := #[s, x], argTypes := #[50, 50] })
    (base : Nat) (v : Value) (n : Nat) (K : List Ins) (hs : a.eval s = v) (hown : w.ownsRow base 57 3 v n (cei K))
    (A : Option Addr) (m c : Nat) (L : List Ins) (hx : a.eval x = .slice A m c) (hr : Ri w A c L) (hm : m = L.length) (hbytes : n + m ≤ 1000000) (hbase : base ≤ w.heap.size)
    (h : ∀ A' c' w', w'.ownsRow base 57 3 (.slice A' (n + m) c') (n + m) (cei (K ++ L)) → Below base w w' → wpList Try.prog ops Q rest (a.put o.dst (.slice A' (n + m) c')) w') : wpList Try.prog ops Q (o :: rest) a w := by
  have hinfo := Try.infoI
  rw [Option.map_eq_some_iff] at hinfo
  obtain ⟨i, hi, hz⟩ := hinfo
  simp only [Prod.mk.injEq] at hz
  obtain ⟨hz0, hz1, hz2⟩ := hz
  have hbel : ∀ {w'}, w.grownBy w' v.ownBlock → Below base w w' := fun hg => (Below.refl _ _).grown hg hbase fun g hg' => (hown.lt g hg').1
  rcases hr.2.2.2 with ⟨rfl, rfl⟩ | ⟨ad, rfl, hcell⟩
  · have h0 : L = [] := List.eq_nil_of_length_eq_zero (by have := hr.le; omega)
    subst h0
    obtain rfl : m = 0 := hm
    refine wpList_append_own_none hgd s x 50 ho base 57 i 3 Try.underlying50 hi v n (cei K) hs hown hx ?_
    obtain ⟨A', c', rfl⟩ := own_form hown
    have := h A' c' w (by simpa using hown) (hbel (World.grownBy.refl w _))
    simpa using this
  · by_cases hc : c = 0
    · subst hc
      have h0 : L = [] := List.eq_nil_of_length_eq_zero (by have := hr.le; omega)
      subst h0
      obtain rfl : m = 0 := hm
      refine wpList_append_own_at w hgd s x 50 ho base 57 i _ 3 24 Try.underlying50 hi hz0 hz1 hz2 rfl (by decide) v n (cei K) hs hown ad 0 0 [] hx rfl (fun j u hj => by cases hj) (fun u hu => by cases hu) (by unfold maxLen; omega) (by omega) hbase ?_
      intro v' w' hown' hg _ _
      obtain ⟨A', c', rfl⟩ := own_form hown'
      exact h A' c' w' (by simpa using hown') (hbel hg)
    · refine wpList_append_own_at w hgd s x 50 ho base 57 i _ 3 24 Try.underlying50 hi hz0 hz1 hz2 rfl (by decide) v n (cei K) hs hown ad m c (cei L) hx (by rw [length_cei, hm])
        (ri_cells hr (by omega)) (cei_one L) (by unfold maxLen; omega) (by omega) hbase ?_
      intro v' w' hown' hg _ _
      obtain ⟨A', c', rfl⟩ := own_form hown'
      exact h A' c' w' (by rw [cei_append]; exact hown') (hbel hg)
theorem Ri.grown {w w' : World} {A : Option Addr} {c : Nat} {L : List Ins} (h : Ri w A c L) {row : Option Nat} (hg : w.grownBy w' row) (hr : ∀ ad, A = some ad → some ad.block ≠ row) : Ri w' A c L := by
  refine ⟨h.1, h.2.1, h.2.2.1, ?_⟩
  rcases h.2.2.2 with hn | ⟨ad, ha, hc⟩
  · exact .inl hn
  · refine .inr ⟨ad, ha, fun i x hx => ?_⟩
    have hb : ∀ k, (ad.add k).block = ad.block := fun k => by unfold Addr.add; split <;> rfl
    obtain ⟨h1, h2, h3⟩ := hc i x hx
    refine ⟨hg.cell h1 (by rw [hb]; exact hr ad ha), hg.cell h2 (by simp only [hb]; exact hr ad ha), hg.cell h3 (by simp only [hb]; exact hr ad ha)⟩
/-- The same append, as one step of a region that draws its order. -/
theorem step_append_ri {w : World} {ops : Array Oper} {o : Oper} {a : Act} {K : Act → World → Prop} {Q : Exit → Act → World → Prop} {E : Prop} (hgd : o.guard = none) (s x : Operand)
    (ho : o.op = .call { callee := .builtin .append, args := #[s, x], argTypes := #[50, 50] })
    (base : Nat) (v : Value) (n : Nat) (K0 : List Ins) (hs : a.eval s = v) (hown : w.ownsRow base 57 3 v n (cei K0))
    (A : Option Addr) (m c : Nat) (L : List Ins) (hx : a.eval x = .slice A m c) (hr : Ri w A c L) (hm : m = L.length) (hbytes : n + m ≤ 1000000) (hbase : base ≤ w.heap.size)
    (h : ∀ A' c' w', w'.ownsRow base 57 3 (.slice A' (n + m) c') (n + m) (cei (K0 ++ L)) → w.grownBy w' v.ownBlock → Below base w w' → K (a.put o.dst (.slice A' (n + m) c')) w') :
    if Region.wanted o (yielded ops a.tmps) = true then Oper.wp Try.prog o a w K Q else E := by
  have hw : Region.wanted o (yielded ops a.tmps) = true := by simp [Region.wanted, hgd]
  rw [if_pos hw]
  have hinfo := Try.infoI
  rw [Option.map_eq_some_iff] at hinfo
  obtain ⟨i, hi, hz⟩ := hinfo
  simp only [Prod.mk.injEq] at hz
  obtain ⟨hz0, hz1, hz2⟩ := hz
  have hbel : ∀ {w'}, w.grownBy w' v.ownBlock → Below base w w' := fun hg => (Below.refl _ _).grown hg hbase fun g hg' => (hown.lt g hg').1
  rcases hr.2.2.2 with ⟨rfl, rfl⟩ | ⟨ad, rfl, hcell⟩
  · have h0 : L = [] := List.eq_nil_of_length_eq_zero (by have := hr.le; omega)
    subst h0
    obtain rfl : m = 0 := hm
    have hrun := run_append_owned_none (P := Try.prog) (w := w) base 50 o.type 57 i 3 Try.underlying50 hi v n (cei K0) hown
    obtain ⟨A', c', rfl⟩ := own_form hown
    unfold Oper.wp
    simp [execOp, ho, resolve, invoke, builtin, hs, hx, hrun, Result.andThen]
    have := h A' c' w (by simpa using hown) (World.grownBy.refl w _) (hbel (World.grownBy.refl w _))
    simp only [Nat.add_zero] at this
    exact this
  · have key : ∀ news : List Value, news = cei L → news.length = m * 3 → (∀ j u, news[j]? = some u → w.cell? (ad.add j) = some u) → Oper.wp Try.prog o a w K Q := by
      intro news hn hl hc
      obtain ⟨v', w', hr', h2, h3, h4, h5⟩ := run_append_own_at (P := Try.prog) w base 50 o.type 57 i _ 3 24 Try.underlying50 hi hz0 hz1 hz2 rfl (by decide) v n (cei K0) hown ad m c news hl hc (by rw [hn]; exact cei_one L) (by unfold maxLen; omega) (by omega) hbase
      obtain ⟨A', c', rfl⟩ := own_form h2
      unfold Oper.wp execOp
      simp only [ho, resolve, invoke, builtin, Sem.run_bind, Sem.run_pure, Result.andThen_ok, List.map_toArray, List.map_cons, List.map_nil, hs, hx, hr']
      exact h A' c' w' (by rw [cei_append, ← hn]; exact h2) h3 (hbel h3)
    by_cases hc : c = 0
    · subst hc
      have h0 : L = [] := List.eq_nil_of_length_eq_zero (by have := hr.le; omega)
      subst h0
      obtain rfl : m = 0 := hm
      exact key [] rfl rfl (fun j u hj => by cases hj)
    · exact key (cei L) rfl (by rw [length_cei, hm]) (ri_cells hr (by omega))
theorem rcopy_any (A : Option Addr) (c m : Nat) (L : List Ins) (w : World) (hr : Ri w A c L) (hm : L.length = m) (hl : m ≤ 1000000) : Calls Try.prog 24 #[.slice A m c] w fun e w' => ∃ A' c', e = .returned (.slice A' m c') ∧ w'.ownsRow w.heap.size 57 3 (.slice A' m c') m (cei L) ∧ Below w.heap.size w w' := by
  go_enter Try.func24, Try.ntmps24
  go_wp2_with (at_builtin; refine wpList_append_ri _ rfl _ _ rfl w.heap.size _ 0 [] rfl (World.ownsRow_nil _ _ _ _) A m c L rfl hr hm.symm (by omega) (Nat.le_refl _) ?_)
  intro A' c' w1 ho hb
  have HO := Lib.hid ho
  have HB := Lib.hid hb
  clear ho hb
  go_wp2_with fail
  go_ret
  exact ⟨A', c', rfl, HO.out, HB.out⟩

/-- '==' of two instructions. -/
theorem eq_ins (d : Nat) (k a b k' a' b' : Int) (v : Bool) (h : (k == k' && a == a' && b == b') = v) (w : World) : (Op.equalIn (d + 1 + 1) 57 (.agg #[.int .u8 k, .int .i64 a, .int .i64 b]) (.agg #[.int .u8 k', .int .i64 a', .int .i64 b'])).run Try.prog w = .ok v w := by
  have hS : Try.prog.underlying 57 = some (.struct (Try.prog.fieldsOf 57)) := by kernel_rfl
  have hp : Try.prog.stoodInHeld 57 = false := by kernel_rfl
  have u1 := Try.underlying5
  have u2 := Try.underlying3
  have h0 : ∀ u v t : Value, (part 5 #[u, v, t] 0).run Try.prog w = .ok u w := fun u v t => by kernel_rfl
  have h1 : ∀ u v t : Value, (part 3 #[u, v, t] 1).run Try.prog w = .ok v w := fun u v t => by kernel_rfl
  have h2 : ∀ u v t : Value, (part 3 #[u, v, t] 2).run Try.prog w = .ok t w := fun u v t => by kernel_rfl
  rw [run_equalIn_agg w (d + 1) 57 _ _ hS hp]
  simp only [Program.fieldsOf, Try.underlying57]
  subst h
  go_simp
  by_cases e1 : k = k' <;> by_cases e2 : a = a' <;> by_cases e3 : b = b' <;> simp [e1, e2, e3]
theorem ins_eq (x y : Ins) : (x.1 == y.1 && x.2.1 == y.2.1 && x.2.2 == y.2.2) = decide (x = y) := by
  obtain ⟨a, b, c⟩ := x
  obtain ⟨a', b', c'⟩ := y
  by_cases e1 : a = a' <;> by_cases e2 : b = b' <;> by_cases e3 : c = c' <;> simp [e1, e2, e3]
set_option maxHeartbeats 1000000 in
theorem r5same_any (A B : Option Addr) (c d n m : Nat) (L M : List Ins) (w : World) (h1 : Ri w A c L) (h2 : Ri w B d M) (hn : L.length = n) (hm : M.length = m) : Calls Try.prog 35 #[.slice A n c, .slice B m d] w fun e w' => e = .returned (.bool (decide (L = M))) ∧ Below w.heap.size w w' := by
  have hl1 := h1.len
  have hl2 := h2.len
  have HR1 := Lib.hid h1
  have HR2 := Lib.hid h2
  clear h1 h2
  by_cases hnm : n = m
  · subst hn
    have hml : M.length = L.length := by omega
    subst hnm
    clear hm
    go_enter Try.func35, Try.ntmps35
    go_wp2_with fail
    go_loopw [5] (fun i wr => ∃ j : Nat, j ≤ L.length ∧ i = .int .i64 j ∧ Hid (L.take j = M.take j) ∧ Hid (Below w.heap.size w wr)) (fun i _ => L.length - (intOf i).toNat)
    case atStart => exact ⟨0, by omega, rfl, rfl, Lib.hid (Below.refl _ _)⟩
    case round =>
      obtain ⟨j, hj, rfl, HE, HB⟩ := hrel
      by_cases h : j < L.length
      · have h' : j < M.length := by omega
        obtain ⟨a1, rfl, x0, x1, x2⟩ := (HR1.out.keep HB.out).at_ h
        obtain ⟨a2, rfl, y0, y1, y2⟩ := (HR2.out.keep HB.out).at_ h'
        cases hv : decide (L[j] = M[j]) with
        | true =>
          have HN : Hid (L.take (j + 1) = M.take (j + 1)) := by
            have e : L[j] = M[j] := of_decide_eq_true hv
            rw [Hid, List.take_add_one, List.take_add_one, HE.out, List.getElem?_eq_getElem h, List.getElem?_eq_getElem h', e]
          have q := eq_ins 9998 L[j].1 L[j].2.1 L[j].2.2 M[j].1 M[j].2.1 M[j].2.2 true (by rw [ins_eq]; exact hv)
          clear HE hv
          generalize L[j] = x at *
          generalize M[j] = y at *
          go_wp2_with fail
          go_quiet (fail)
          go_wp2
          go_roundw
          case rel => exact ⟨j + 1, by omega, by go_num, HN, Lib.hid (below_draws HB.out _)⟩
          case measure => simp [intOf]; omega
        | false =>
          have HN : Hid (decide (L = M) = false) := by
            have e : ¬ L[j] = M[j] := of_decide_eq_false hv
            exact decide_eq_false fun e2 => e (by subst e2; rfl)
          have q := eq_ins 9998 L[j].1 L[j].2.1 L[j].2.2 M[j].1 M[j].2.1 M[j].2.2 false (by rw [ins_eq]; exact hv)
          clear HE hv
          generalize L[j] = x at *
          generalize M[j] = y at *
          go_wp2_with fail
          go_quiet (fail)
          go_wp2
          go_ret
          exact ⟨by rw [HN.out]; rfl, below_draws HB.out _⟩
      · obtain rfl : j = L.length := by omega
        have HN : Hid (decide (L = M) = true) := by
          have := HE.out
          rw [List.take_length, List.take_of_length_le (by omega)] at this
          exact decide_eq_true this
        go_wp2
        go_ret
        exact ⟨by rw [HN.out]; rfl, HB.out⟩
  · have HN : Hid (decide (L = M) = false) := decide_eq_false fun e => hnm (by rw [← hn, ← hm, e])
    go_enter Try.func35, Try.ntmps35
    go_wp2_with fail
    go_ret
    exact ⟨by rw [HN.out]; rfl, Below.refl _ _⟩
end Go.Proofs.Ytimjnmkfbdijeaa
namespace Go.Proofs.Ytimjnmkfbdijeaa
open Go.RowKit
set_option linter.unusedSimpArgs false
set_option linter.unusedVariables false

/-- An instruction's bytes; code's. -/
def opr (x : Ins) : List Int := x.1 :: (if wdB x.1 then [x.2.1 % 256, x.2.1 / 256] else [])
def codB (L : List Ins) : List Int := (L.length : Int) :: L.flatMap opr
theorem Ri.c1 {w : World} {ad : Addr} {c i : Nat} {L : List Ins} (h : Ri w (some ad) c L) (hi : i < L.length) : w.cell? ⟨(ad.add (i * 3)).block, (ad.add (i * 3)).off + 1, none⟩ = some (.int .i64 (L[i]).2.1) := by
  obtain ⟨ad', e, _, h1, _⟩ := h.at_ hi
  injection e with e
  subst e
  exact h1
theorem wr_lo {x : Int} (h : 0 ≤ x) : IntKind.u8.wrap (x.tmod 256) = x % 256 := by
  rw [Int.tmod_eq_emod_of_nonneg h]
  simp [IntKind.wrap, IntKind.signed, IntKind.bits, go_sem]
theorem wr_hi {x : Int} (h : 0 ≤ x) (h2 : x ≤ 1024) : IntKind.u8.wrap (IntKind.i64.wrap (x.tdiv 256)) = x / 256 := by
  rw [Int.tdiv_eq_ediv_of_nonneg h]
  simp [IntKind.wrap, IntKind.signed, IntKind.bits, go_sem]
  omega
theorem Sx.ri {w w' : World} {A : Option Addr} {c : Nat} {L : List Ins} (h : Ri w A c L) (hb : Below w.heap.size w w') : Sx w w' [fT A c L] := ⟨hb, h.keep hb, trivial⟩
theorem opM_bd {x : Ins} (h : inM x = true) : 0 ≤ x.2.1 ∧ x.2.1 ≤ 1024 ∧ x.1 < 33 := by
  have h' : opM x.1 x.2.1 x.2.2 = true := h
  simp only [opM, Bool.and_eq_true, decide_eq_true_eq] at h'
  obtain ⟨⟨h1, h2⟩, _⟩ := h'
  have a1 : 0 ≤ opLo x.1 := by unfold opLo; split <;> omega
  have a2 : opHi x.1 ≤ 1024 ∧ (¬ x.1 < 33 → opHi x.1 = -1) := by unfold opHi; repeat' split
                                                                 all_goals omega
  by_cases h3 : x.1 < 33
  · omega
  · have := a2.2 h3; omega
end Go.Proofs.Ytimjnmkfbdijeaa
namespace Go.Proofs.Ytimjnmkfbdijeaa
open Go.RowKit
set_option linter.unusedSimpArgs false
set_option linter.unusedVariables false

/-- One instruction at p: an error, or it and the place behind it. -/
def rd1 (l : List Int) (p : Nat) : Int × Ins × Nat :=
  if l.length ≤ p then (10, (0, 0, 0), 0) else
  let n := l[p]?.getD 0
  if ¬ n < 33 then (40, (0, 0, 0), 0) else
  if wdB n = true then
    if l.length < p + 3 then (10, (0, 0, 0), 0) else
    let a := l[p + 1]?.getD 0 + 256 * l[p + 2]?.getD 0
    if opM n a 0 = true then (0, (n, a, 0), p + 3) else (40, (0, 0, 0), 0)
  else if opM n 0 0 = true then (0, (n, 0, 0), p + 1) else (40, (0, 0, 0), 0)
/-- Instructions ahead of what was read behind them. -/
def apC (K : List Ins) (r : Int × List Ins × Nat) : Int × List Ins × Nat := if r.1 = 0 then (0, K ++ r.2.1, r.2.2) else (r.1, [], 0)
/-- k instructions at p. -/
def rdS (l : List Int) : Nat → Nat → Int × List Ins × Nat
  | 0, p => (0, [], p)
  | k + 1, p => if (rd1 l p).1 = 0 then apC [(rd1 l p).2.1] (rdS l k (rd1 l p).2.2) else ((rd1 l p).1, [], 0)
/-- Code at a place: the instructions, the place behind them, the error. -/
def rdC (l : List Int) (p : Int) : Int × List Ins × Nat :=
  if p < 0 ∨ l.length < p then (2, [], 0) else
  if p = l.length then (10, [], 0) else
  let m := l[p.toNat]?.getD 0
  if m < 1 ∨ 200 < m then (40, [], 0) else rdS l m.toNat (p.toNat + 1)
theorem apC_apC (K M : List Ins) (r : Int × List Ins × Nat) : apC K (apC M r) = apC (K ++ M) r := by
  unfold apC
  by_cases h : r.1 = 0
  · simp [h]
  · simp [h]
theorem apC_nil {r : Int × List Ins × Nat} (h : r.1 ≠ 0 → r.2.1 = [] ∧ r.2.2 = 0) : apC [] r = r := by
  obtain ⟨e, L, q⟩ := r
  unfold apC
  by_cases h0 : e = 0
  · subst h0; rfl
  · obtain ⟨h1, h2⟩ := h h0
    simp at h1 h2
    subst h1 h2
    simp [h0]
theorem rdS_err (l : List Int) (k p : Nat) : (rdS l k p).1 ≠ 0 → (rdS l k p).2.1 = [] ∧ (rdS l k p).2.2 = 0 := by
  cases k with
  | zero => intro h; exact absurd rfl h
  | succ k =>
    intro h
    rw [rdS] at h ⊢
    split at h
    · rename_i h1
      rw [if_pos h1]
      unfold apC at h ⊢
      split at h
      · exact absurd rfl h
      · rename_i h2
        rw [if_neg h2]
        exact ⟨rfl, rfl⟩
    · rename_i h1
      rw [if_neg h1]
      exact ⟨rfl, rfl⟩
theorem rdS_yes {l : List Int} {k p : Nat} {x : Ins} {q : Nat} (h : rd1 l p = (0, x, q)) : rdS l (k + 1) p = apC [x] (rdS l k q) := by rw [rdS, h, if_pos rfl]
theorem rdS_no {l : List Int} {k p : Nat} {e : Int} (h : (rd1 l p).1 = e) (he : e ≠ 0) : rdS l (k + 1) p = (e, [], 0) := by rw [rdS, if_neg (by rw [h]; exact he), h]
theorem rd1_short {l : List Int} {p : Nat} (h : l.length ≤ p) : rd1 l p = (10, (0, 0, 0), 0) := by rw [rd1, if_pos h]
theorem rd1_op {l : List Int} {p : Nat} (h : p < l.length) (h1 : ¬ l[p]?.getD 0 < 33) : rd1 l p = (40, (0, 0, 0), 0) := by rw [rd1, if_neg (by omega)]; simp only; rw [if_pos h1]
theorem rd1_few {l : List Int} {p : Nat} (h : p < l.length) (h1 : l[p]?.getD 0 < 33) (hw : wdB (l[p]?.getD 0) = true) (h2 : l.length < p + 3) : rd1 l p = (10, (0, 0, 0), 0) := by
  rw [rd1, if_neg (by omega)]; simp only; rw [if_neg (by omega), if_pos hw, if_pos h2]
theorem rd1_wide {l : List Int} {p : Nat} {v : Bool} (h1 : l[p]?.getD 0 < 33) (hw : wdB (l[p]?.getD 0) = true) (h2 : p + 3 ≤ l.length) (hv : opM (l[p]?.getD 0) (l[p + 1]?.getD 0 + 256 * l[p + 2]?.getD 0) 0 = v) :
    rd1 l p = if v = true then (0, (l[p]?.getD 0, l[p + 1]?.getD 0 + 256 * l[p + 2]?.getD 0, 0), p + 3) else (40, (0, 0, 0), 0) := by
  rw [rd1, if_neg (by omega)]; simp only; rw [if_neg (by omega), if_pos hw, if_neg (by omega), hv]
theorem rd1_slim {l : List Int} {p : Nat} {v : Bool} (h : p < l.length) (h1 : l[p]?.getD 0 < 33) (hw : wdB (l[p]?.getD 0) = false) (hv : opM (l[p]?.getD 0) 0 0 = v) :
    rd1 l p = if v = true then (0, (l[p]?.getD 0, 0, 0), p + 1) else (40, (0, 0, 0), 0) := by
  rw [rd1, if_neg (by omega)]; simp only; rw [if_neg (by omega), if_neg (by rw [hw]; decide), hv]
theorem rdC_neg {l : List Int} {p : Int} (h : p < 0 ∨ l.length < p) : rdC l p = (2, [], 0) := by rw [rdC, if_pos h]
theorem rdC_end {l : List Int} {p : Int} (h : p = l.length) : rdC l p = (10, [], 0) := by rw [rdC, if_neg (by omega), if_pos h]
theorem rdC_many {l : List Int} {p : Nat} (h : p < l.length) (h1 : l[p]?.getD 0 < 1 ∨ 200 < l[p]?.getD 0) : rdC l p = (40, [], 0) := by
  rw [rdC, if_neg (by omega), if_neg (by omega)]
  simp only [Int.toNat_natCast]
  rw [if_pos h1]
theorem rdC_yes {l : List Int} {p m : Nat} (h : p < l.length) (hm : l[p]?.getD 0 = m) (h1 : 1 ≤ m ∧ m ≤ 200) : rdC l p = rdS l m (p + 1) := by
  rw [rdC, if_neg (by omega), if_neg (by omega)]
  simp only [Int.toNat_natCast]
  rw [if_neg (by omega), hm, Int.toNat_natCast]
end Go.Proofs.Ytimjnmkfbdijeaa
namespace Go.Proofs.Ytimjnmkfbdijeaa
open Go.RowKit
set_option maxRecDepth 100000
set_option linter.unusedSimpArgs false
set_option linter.unusedVariables false

/-- A name's numbers. -/
def nmI (n : Int) : List Int := (opS n).data.toList.map fun u => (u.toNat : Int)
theorem nmI_str (n : Int) : strOfNums (nmI n) = opS n := by
  apply ByteArray.ext
  apply Array.ext'
  simp [strOfNums, nmI]
  have key : ∀ l : List UInt8, l.map ((fun n : Int => UInt8.ofNat n.toNat) ∘ fun u : UInt8 => (u.toNat : Int)) = l := by
    intro l
    induction l with
    | nil => rfl
    | cons u l ih => rw [List.map_cons, ih]; simp
  exact key _
theorem nmI_byt (n : Int) : Byt (nmI n) := by
  intro x hx
  obtain ⟨u, _, rfl⟩ := List.mem_map.1 hx
  have := u.toNat_lt
  omega
/-- A number's digits. -/
def dgT (n : Nat) : List Int := if n < 10 then [48 + (n : Int)] else dgT (n / 10) ++ [48 + (n : Int) % 10]
theorem dgT_lt {n : Nat} (h : n < 10) : dgT n = [48 + (n : Int)] := by rw [dgT, if_pos h]
theorem dgT_ge {n : Nat} (h : ¬ n < 10) : dgT n = dgT (n / 10) ++ [48 + (n : Int) % 10] := by rw [dgT, if_neg h]
theorem str_append (L M : List Int) : strOfNums L ++ strOfNums M = strOfNums (L ++ M) := by
  apply ByteArray.ext
  simp [strOfNums]
theorem str_size (L : List Int) : (strOfNums L).size = L.length := by simp [strOfNums, ByteArray.size]
theorem len_dg1 {n : Nat} (h : n < 10) : (dgT n).length = 1 := by rw [dgT_lt h]; rfl
theorem len_dgs {n : Nat} (h : ¬ n < 10) : (dgT n).length = (dgT (n / 10)).length + 1 := by rw [dgT_ge h, List.length_append]; rfl
theorem len_dgT (n : Nat) (hn : n ≤ 9999) : 1 ≤ (dgT n).length ∧ (dgT n).length ≤ 4 := by
  by_cases h1 : n < 10
  · have := len_dg1 h1; omega
  · have e1 := len_dgs h1
    by_cases h2 : n / 10 < 10
    · have := len_dg1 h2; omega
    · have e2 := len_dgs h2
      by_cases h3 : n / 10 / 10 < 10
      · have := len_dg1 h3; omega
      · have e3 := len_dgs h3
        have := len_dg1 (show n / 10 / 10 / 10 < 10 by omega)
        omega
/-- An instruction's line; code's text. -/
def lnT (x : Ins) : List Int := nmI x.1 ++ (if wdB x.1 then 32 :: dgT x.2.1.toNat else []) ++ [10]
def codT (L : List Ins) : List Int := L.flatMap lnT
theorem size_10 : (⟨#[10]⟩ : ByteArray).size = 1 := rfl
theorem size_32 : (⟨#[32]⟩ : ByteArray).size = 1 := rfl
theorem str_nil : strOfNums [] = ByteArray.empty := rfl
theorem opS_size (n : Int) : (opS n).size ≤ 5 := by
  rw [opS]
  split
  · rename_i h
    have key : ∀ i : Nat, i < 33 → (opNm.getD i []).length ≤ 5 := by decide
    have := key n.toNat (by omega)
    simpa [ByteArray.size] using this
  · decide
theorem codT_succ {L : List Ins} {j : Nat} (h : j < L.length) : codT (L.take (j + 1)) = codT (L.take j) ++ lnT L[j] := by
  rw [codT, List.take_add_one, List.getElem?_eq_getElem h, Option.toList_some, List.flatMap_append, ← codT, List.flatMap_cons, List.flatMap_nil, List.append_nil]
theorem size_app (s t : ByteArray) : (s ++ t).size = s.size + t.size := by simp
end Go.Proofs.Ytimjnmkfbdijeaa
namespace Go.Proofs.Ytimjnmkfbdijeaa
open Go.RowKit
set_option maxRecDepth 100000
set_option linter.unusedSimpArgs false
set_option linter.unusedVariables false

/-- Texts of bytes are the same just if the bytes are. -/
theorem str_eqb {L M : List Int} (h1 : Byt L) (h2 : Byt M) : ((strOfNums L).toList == (strOfNums M).toList) = decide (L = M) := by
  rw [Lib.strOfNums_toList, Lib.strOfNums_toList]
  have key : ∀ {L M : List Int}, Byt L → Byt M → L.map (fun n => UInt8.ofNat n.toNat) = M.map (fun n => UInt8.ofNat n.toNat) → L = M := by
    intro L
    induction L with
    | nil => intro M _ _ h; cases M with
      | nil => rfl
      | cons y M => simp at h
    | cons x L ih =>
      intro M h1 h2 h
      cases M with
      | nil => simp at h
      | cons y M =>
        simp only [List.map_cons, List.cons.injEq] at h
        have hx := h1 x (by simp)
        have hy := h2 y (by simp)
        have e : x.toNat = y.toNat := by
          have := congrArg UInt8.toNat h.1
          simp only [UInt8.toNat_ofNat'] at this
          omega
        rw [ih (fun z hz => h1 z (by simp [hz])) (fun z hz => h2 z (by simp [hz])) h.2, show x = y by omega]
  by_cases h : L = M
  · subst h; simp
  · rw [decide_eq_false h]
    simp only [beq_eq_false_iff_ne]
    exact fun e => h (key h1 h2 e)
theorem str_num {L : List Int} (hb : Byt L) {s : ByteArray} (hs : strOfNums L = s) (j : Nat) (h : j < s.size) (h' : j < L.length) : ((s[j]'h).toNat : Int) = L[j] := by
  subst hs
  have hx := hb L[j] (List.getElem_mem h')
  have e : (strOfNums L)[j]'h = UInt8.ofNat (L[j]).toNat := by
    have h1 : (strOfNums L)[j]'h = (strOfNums L).data[j]'h := rfl
    rw [h1]
    simp [strOfNums]
  rw [e, UInt8.toNat_ofNat']
  omega
theorem dgT_byt (n : Nat) : Byt (dgT n) := by
  induction n using Nat.strongRecOn with
  | ind n ih =>
    by_cases h : n < 10
    · rw [dgT_lt h]
      intro x hx
      rw [List.mem_singleton.1 hx]
      omega
    · rw [dgT_ge h]
      refine byt_append (ih _ (by omega)) fun x hx => ?_
      rw [List.mem_singleton.1 hx]
      omega
/-- What digits come to; whether each is one. -/
def vlT (S : List Int) : Int := S.foldl (fun n c => 10 * n + (c - 48)) 0
def dgA (S : List Int) : Bool := S.all fun c => decide (48 ≤ c) && decide (c ≤ 57)
/-- A number, out of its digits; none's is -1. -/
def numT (S : List Int) : Int := if S.length < 1 ∨ 4 < S.length then -1 else if dgA S = false then -1 else if dgT (vlT S).toNat = S then vlT S else -1
theorem vlT_snoc (S : List Int) (c : Int) : vlT (S ++ [c]) = 10 * vlT S + (c - 48) := by simp [vlT]
theorem vlT_bd : ∀ S : List Int, dgA S = true → S.length ≤ 4 → 0 ≤ vlT S ∧ vlT S ≤ 9999 ∧ (S.length ≤ 3 → vlT S ≤ 999) := by
  intro S h hl
  simp only [dgA, List.all_eq_true, Bool.and_eq_true, decide_eq_true_eq] at h
  match S, hl with
  | [], _ => decide
  | [a], _ => have h1 := h a (by simp); simp [vlT]; omega
  | [a, b], _ => have h1 := h a (by simp); have h2 := h b (by simp); simp [vlT]; omega
  | [a, b, c], _ => have h1 := h a (by simp); have h2 := h b (by simp); have h3 := h c (by simp); simp [vlT]; omega
  | [a, b, c, d], _ => have h1 := h a (by simp); have h2 := h b (by simp); have h3 := h c (by simp); have h4 := h d (by simp); simp [vlT]; omega
theorem dgA_take {S : List Int} {j : Nat} (h : dgA (S.take j) = true) (hj : j < S.length) (h1 : 48 ≤ S[j]) (h2 : S[j] ≤ 57) : dgA (S.take (j + 1)) = true := by
  rw [dgA, List.take_add_one, List.getElem?_eq_getElem hj, Option.toList_some, List.all_append, ← dgA, h]
  simp [h1, h2]
theorem dgA_no {S : List Int} {j : Nat} (hj : j < S.length) (h : S[j] < 48 ∨ 57 < S[j]) : dgA S = false := by
  refine List.all_eq_false.2 ⟨S[j], List.getElem_mem hj, ?_⟩
  simp
  omega
end Go.Proofs.Ytimjnmkfbdijeaa
namespace Go.Proofs.Ytimjnmkfbdijeaa
open Go.RowKit
set_option maxRecDepth 100000
set_option linter.unusedSimpArgs false
set_option linter.unusedVariables false

/-- The opcode of a name, and whether there is one. -/
def opP (T : List Int) : Int × Bool := match (List.range 33).find? (fun j => nmI (j : Nat) == T) with
  | some j => (j, true)
  | none => (0, false)
/-- How far a line's first word goes. -/
def spK (S : List Int) : Nat := (S.takeWhile fun c => c != 32).length
/-- A line's instruction, and whether it is one. -/
def lnP (S : List Int) : Ins × Bool :=
  if (opP (S.take (spK S))).2 = false then (((opP (S.take (spK S))).1, 0, 0), false) else
  if wdB (opP (S.take (spK S))).1 = false then (((opP (S.take (spK S))).1, 0, 0), decide (spK S = S.length)) else
  if spK S = S.length then (((opP (S.take (spK S))).1, 0, 0), false) else
  (((opP (S.take (spK S))).1, numT (S.drop (spK S + 1)), 0), opM (opP (S.take (spK S))).1 (numT (S.drop (spK S + 1))) 0)
theorem spK_le (S : List Int) : spK S ≤ S.length := by
  unfold spK
  exact (List.takeWhile_prefix _).length_le
theorem spK_lt {S : List Int} {j : Nat} (h : j < spK S) (h2 : j < S.length) : (S[j] != 32) = true := by
  induction S generalizing j with
  | nil => simp at h2
  | cons c S ih =>
    unfold spK at h ih
    rw [List.takeWhile_cons] at h
    split at h
    · rename_i hc
      cases j with
      | zero => exact hc
      | succ j => exact ih (by simpa using h) (by simpa using h2)
    · simp at h
theorem spK_at {S : List Int} (h2 : spK S < S.length) : (S[spK S] != 32) = false := by
  induction S with
  | nil => simp at h2
  | cons c S ih =>
    cases hc : (c != 32) with
    | true =>
      have e : spK (c :: S) = spK S + 1 := by unfold spK; rw [List.takeWhile_cons, if_pos hc]; rfl
      simp only [e, List.getElem_cons_succ]
      exact ih (by rw [e] at h2; simpa using h2)
    | false =>
      have e : spK (c :: S) = 0 := by unfold spK; rw [List.takeWhile_cons, if_neg (by rw [hc]; decide)]; rfl
      simp only [e, List.getElem_cons_zero]
      exact hc
theorem opS_flag (j : Nat) {T : List Int} (hT : Byt T) : ((opS j).toList == (strOfNums T).toList) = decide (nmI j = T) := by
  rw [← nmI_str, str_eqb (nmI_byt _) hT]
theorem str_part (S : List Int) (a b : Nat) : (strOfNums S).extract a b = strOfNums ((S.drop a).take (b - a)) := by
  apply ByteArray.ext
  apply Array.ext'
  simp [strOfNums, List.extract_eq_take_drop, List.map_take, List.map_drop]
theorem below_set3 {w w1 : World} {b B : Nat} (h : Below b w w1) (hB : b ≤ B) (x y z : Value) : Below b w (((w1.setCell ⟨B, 0, none⟩ x).setCell ⟨B, 1, none⟩ y).setCell ⟨B, 2, none⟩ z) := ((h.setCell hB _).setCell hB _).setCell hB _
theorem In.other {w : World} {B : Nat} {k a b : Int} (h : In w B k a b) {p : Addr} (hp : p.block ≠ B) (v : Value) : In (w.setCell p v) B k a b := by
  obtain ⟨h1, h2, h3, h4, h5, h6, h7⟩ := h
  have ne : ∀ i, p ≠ (⟨B, i, none⟩ : Addr) := fun i e => hp (by rw [e])
  refine ⟨by simpa using h1, ?_, ?_, ?_, ?_, ?_, ?_⟩
  · rw [World.cell?_setCell_other _ _ _ _ (ne 0)]; exact h2
  · rw [World.cell?_setCell_other _ _ _ _ (ne 1)]; exact h3
  · rw [World.cell?_setCell_other _ _ _ _ (ne 2)]; exact h4
  · simpa using h5
  · simpa using h6
  · simpa using h7
/-- Some instruction lies at block B. -/
abbrev fE (B : Nat) : Fct := ⟨fun w => ∃ x y z, In w B x y z, fun _ _ h hb => by obtain ⟨x, y, z, h⟩ := h; exact ⟨x, y, z, h.keep hb⟩⟩
theorem In.set012 {w : World} {B : Nat} {k a b : Int} (h : In w B k a b) (k' a' b' : Int) : In (((w.setCell ⟨B, 0, none⟩ (.int .u8 k')).setCell ⟨B, 1, none⟩ (.int .i64 a')).setCell ⟨B, 2, none⟩ (.int .i64 b')) B k' a' b' := by
  obtain ⟨h1, h2, h3, h4, h5, h6, h7⟩ := h
  refine ⟨by simpa using h1, ?_, ?_, ?_, ?_, ?_, ?_⟩ <;> simp [go_sem, h2, h3, h4, h5, h6, h7]
theorem Sx.put {w w' : World} {o a : Int} (h : Sx w w' [fI (w.heap.size + 1) o a 0, fE w.heap.size]) (k' a' b' : Int) :
    Sx w (((w'.setCell ⟨w.heap.size, 0, none⟩ (.int .u8 k')).setCell ⟨w.heap.size, 1, none⟩ (.int .i64 a')).setCell ⟨w.heap.size, 2, none⟩ (.int .i64 b')) [fI (w.heap.size + 1) o a 0, fE w.heap.size] := by
  obtain ⟨h1, h2, ⟨x, y, z, h3⟩, _⟩ := h
  exact ⟨below_set3 h1 (Nat.le_refl _) _ _ _, ((h2.other (by simp) _).other (by simp) _).other (by simp) _, ⟨k', a', b', h3.set012 _ _ _⟩, trivial⟩
end Go.Proofs.Ytimjnmkfbdijeaa
namespace Go.Proofs.Ytimjnmkfbdijeaa
open Go.RowKit
set_option maxRecDepth 100000
set_option linter.unusedSimpArgs false
set_option linter.unusedVariables false

/-- The rest of a text, behind a line's beginning and the instructions of the lines ahead. -/
def psL : List Int → List Int → List Ins → Int × List Ins
  | [], cur, K => if cur = [] ∧ K ≠ [] then (0, K) else (40, [])
  | c :: rest, cur, K => if (c != 10) = true then psL rest (cur ++ [c]) K else if (lnP cur).2 = true ∧ K.length < 200 then psL rest [] (K ++ [(lnP cur).1]) else (40, [])
def psC (S : List Int) : Int × List Ins := psL S [] []
theorem psL_end (cur : List Int) (K : List Ins) : psL [] cur K = if cur = [] ∧ K ≠ [] then (0, K) else (40, []) := by rw [psL]
theorem psL_in {S : List Int} {j : Nat} (h : j < S.length) (hc : (S[j] != 10) = true) (cur : List Int) (K : List Ins) : psL (S.drop j) cur K = psL (S.drop (j + 1)) (cur ++ [S[j]]) K := by
  rw [List.drop_eq_getElem_cons h, psL, if_pos hc]
theorem psL_line {S : List Int} {j : Nat} (h : j < S.length) (hc : (S[j] != 10) = false) (cur : List Int) (K : List Ins) : psL (S.drop j) cur K = if (lnP cur).2 = true ∧ K.length < 200 then psL (S.drop (j + 1)) [] (K ++ [(lnP cur).1]) else (40, []) := by
  rw [List.drop_eq_getElem_cons h, psL, if_neg (by rw [hc]; decide)]
theorem opP_bd (T : List Int) : 0 ≤ (opP T).1 ∧ (opP T).1 < 33 := by
  unfold opP
  split
  · rename_i j hj
    have := (List.find?_range_eq_some.1 hj).2.1
    simp at this
    exact ⟨by simp only; omega, by simp only; omega⟩
  · exact ⟨by decide, by decide⟩
theorem numT_bd (S : List Int) : -1 ≤ numT S ∧ numT S ≤ 9999 := by
  unfold numT
  split
  · decide
  · split
    · decide
    · rename_i h1 h2
      split
      · have := vlT_bd S (by simpa using h2) (by omega)
        omega
      · decide
theorem lnP_ok (S : List Int) : InOk (lnP S).1 := by
  have h1 := opP_bd (S.take (spK S))
  have h2 := numT_bd (S.drop (spK S + 1))
  unfold lnP
  split
  · unfold InOk; simp only; omega
  · split
    · unfold InOk; simp only; omega
    · split
      · unfold InOk; simp only; omega
      · unfold InOk; simp only; omega
theorem cur_more {S : List Int} {q j : Nat} (hq : q ≤ j) (h : j < S.length) : (S.drop q).take (j - q) ++ [S[j]] = (S.drop q).take (j + 1 - q) := by
  rw [show j + 1 - q = (j - q) + 1 by omega, List.take_add_one, List.getElem?_drop, show q + (j - q) = j by omega, List.getElem?_eq_getElem h]
  rfl

end Go.Proofs.Ytimjnmkfbdijeaa
namespace Go.Proofs.Ytimjnmkfbdijeaa
open Go.RowKit
set_option maxRecDepth 100000
set_option linter.unusedSimpArgs false
set_option linter.unusedVariables false

/-- The error of what isn't code; the bytes; the text. -/
def cdE (L : List Ins) : Int := if codM L = true then 0 else 40
def byL (L : List Ins) : List Int := if codM L = true then codB L else []
def txL (L : List Ins) : List Int := if codM L = true then codT L else []
/-- A text's numbers. -/
def nums (s : ByteArray) : List Int := s.data.toList.map fun u => (u.toNat : Int)
theorem nums_str (s : ByteArray) : strOfNums (nums s) = s := by
  apply ByteArray.ext
  apply Array.ext'
  simp [strOfNums, nums]
  have key : ∀ l : List UInt8, l.map ((fun n : Int => UInt8.ofNat n.toNat) ∘ fun u : UInt8 => (u.toNat : Int)) = l := by
    intro l
    induction l with
    | nil => rfl
    | cons u l ih => rw [List.map_cons, ih]; simp
  exact key _
theorem nums_byt (s : ByteArray) : Byt (nums s) := by
  intro x hx
  obtain ⟨u, _, rfl⟩ := List.mem_map.1 hx
  have := u.toNat_lt
  omega
theorem nums_len (s : ByteArray) : (nums s).length = s.size := by
  rw [nums, List.length_map]
  exact Array.length_toList
/-- No fact at all. -/
def fNo : Fct := ⟨fun _ => True, fun _ _ _ _ => trivial⟩

theorem psL_ok : ∀ {S cur : List Int} {K : List Ins}, (∀ x ∈ K, InOk x) → ∀ x ∈ (psL S cur K).2, InOk x
  | [], cur, K, h => by
    rw [psL]
    split
    · exact h
    · exact fun x hx => (by cases hx)
  | c :: S, cur, K, h => by
    rw [psL]
    split
    · exact psL_ok h
    · split
      · refine psL_ok fun x hx => ?_
        rcases List.mem_append.1 hx with hx | hx
        · exact h x hx
        · rw [List.mem_singleton.1 hx]; exact lnP_ok _
      · exact fun x hx => (by cases hx)
theorem psC_ok (S : List Int) : ∀ x ∈ (psC S).2, InOk x := psL_ok fun x hx => (by cases hx)
end Go.Proofs.Ytimjnmkfbdijeaa
