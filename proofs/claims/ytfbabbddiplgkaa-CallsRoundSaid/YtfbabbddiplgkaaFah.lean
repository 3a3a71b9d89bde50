/-
  Layer 11: numbers of sixteen bits in rows, for law CallsRound.
-/
import Derived.Test.YtfbabbddiplgkaaFag
import Derived.Test.YtfbabbddiplgkaaLed
import Derived.Laws.BitsAllLaws
namespace Go.Proofs.Ytfbabbddiplgkaa
open Go.RowKit
set_option maxRecDepth 100000
set_option linter.unusedSimpArgs false
set_option linter.unusedVariables false

def cu11 (L : List Int) : List Value := L.map (Value.int .u16)
theorem Try.infoU16 : (Try.prog.info? 46).map (fun i => (i.zero, i.size, i.bytes)) = some (some (.int .u16 0), 1, 2) := by kernel_rfl
theorem cu11_one (L : List Int) : ∀ u ∈ cu11 L, u.oneCell' = true := by
  intro u hu
  simp only [cu11, List.mem_map] at hu
  obtain ⟨x, -, rfl⟩ := hu
  rfl
theorem Ru11.of_own {w : World} {A : Option Addr} {c base e n : Nat} {L : List Int} (h : w.ownsRow base e 1 (.slice A n c) n (cu11 L)) (hb : ∀ x ∈ L, 0 ≤ x ∧ x < 65536) : Ru11 w A c L ∧ n = L.length := by
  have hn : n = L.length := by have := h.1; simp [cu11] at this; omega
  refine ⟨?_, hn⟩
  have hcell := fun g => h.cells (g := g)
  rcases h.2 with ⟨hv, h0⟩ | ⟨g, cap, cur, hv, _, _, hcap, hm, _⟩
  · injection hv with e1 e2 e3
    exact ⟨hb, by omega, by omega, .inl ⟨e1, e3⟩⟩
  · injection hv with e1 e2 e3
    subst e1 e3
    exact ⟨hb, by omega, hm, .inr ⟨_, rfl, fun i x hx => hcell g rfl _ _ (by simp [cu11, hx])⟩⟩
theorem wpList_append_u16 (w : World) {ops : Array Oper} {rest : List Oper} {o : Oper} {a : Act} {Q : Exit → Act → World → Prop} (hgd : o.guard = none) (s x : Operand)
    (ho : o.op = .call { callee := .builtin .append, args := #[s, x], argTypes := #[44, 44] })
    (base : Nat) (v : Value) (n : Nat) (K0 : List Int) (hs : a.eval s = v) (hown : w.ownsRow base 46 1 v n (cu11 K0))
    (ad : Addr) (y : Int) (hx : a.eval x = .slice (some ad) 1 1) (hc : w.cell? (ad.add 0) = some (.int .u16 y)) (hb : n + 1 ≤ 1000000) (hbase : base ≤ w.heap.size)
    (h : ∀ g' c' w', w'.ownsRow base 46 1 (.slice (some ⟨g', 0, none⟩) (n + 1) c') (n + 1) (cu11 (K0 ++ [y])) → Below base w w' → wpList Try.prog ops Q rest (a.put o.dst (.slice (some ⟨g', 0, none⟩) (n + 1) c')) w') :
    wpList Try.prog ops Q (o :: rest) a w := by
  have hinfo := Try.infoU16
  rw [Option.map_eq_some_iff] at hinfo
  obtain ⟨i, hi, hz⟩ := hinfo
  simp only [Prod.mk.injEq] at hz
  obtain ⟨hz0, hz1, hz2⟩ := hz
  obtain ⟨v', w', hr', h2, h3, h4, h5⟩ := run_append_own_at (P := Try.prog) w base 44 o.type 46 i _ 1 2 Try.underlying44 hi hz0 hz1 hz2 rfl (by decide) v n (cu11 K0) hown ad 1 1 (cu11 [y]) (by simp [cu11]) (fun j u hj => by
    match j, hj with
    | 0, hj =>
      simp [cu11] at hj
      subst hj
      exact hc) (cu11_one [y]) (by unfold maxLen; omega) (by omega) hbase
  obtain ⟨g', c', rfl⟩ := own_some11 h2 (by omega)
  refine wpList_plain hgd fun K hK => ?_
  unfold Oper.wp
  simp [execOp, ho, resolve, invoke, builtin, hs, hx, hr', Result.andThen]
  refine hK _ _ ?_
  exact h g' c' w' (by rw [cu11, List.map_append]; exact h2) ((Below.refl _ _).grown h3 hbase fun g hg' => (hown.lt g hg').1)
theorem ru_of_row {w : World} {a : Option Addr} {len cap : Nat} {zs : List Int}
    (h : (a = none ∧ len = 0 ∧ cap = 0 ∧ zs = []) ∨ ∃ x : Addr, a = some x ∧ len ≤ cap ∧ cap ≤ maxLen ∧ zs.length = cap ∧ (∀ i, i < zs.length → w.cell? (x.add i) = some (.int .u16 (zs.getD i 0))) ∧ ∀ n ∈ zs, (Lit.int .u16 n).wf = true) :
    ∃ l : List Int, l.length = len ∧ Ru11 w a cap l := by
  rcases h with ⟨rfl, rfl, rfl, rfl⟩ | ⟨x, rfl, h1, h2, h3, h4, h5⟩
  · exact ⟨[], rfl, fun x hx => (by cases hx), Nat.le_refl _, Nat.zero_le _, .inl ⟨rfl, rfl⟩⟩
  · refine ⟨zs.take len, by simp; omega, fun n hn => ?_, by simp; omega, h2, .inr ⟨x, rfl, fun i y hy => ?_⟩⟩
    · have := h5 n (List.mem_of_mem_take hn)
      simp [Lit.wf, IntKind.min, IntKind.max, IntKind.bits, IntKind.signed] at this
      omega
    · rw [List.getElem?_take] at hy
      split at hy
      · have hlt := (List.getElem?_eq_some_iff.1 hy).1
        rw [h4 i hlt, List.getD_eq_getElem?_getD, hy]
        rfl
      · cases hy
/-- A remainder by so many. -/
theorem umod11 (x : Int) {m : Nat} (h : 1 ≤ m) : ∃ q : Nat, q < m ∧ (IntKind.u64.wrap x).tmod (m : Int) = (q : Int) := by
  have h0 : 0 ≤ IntKind.u64.wrap x := by rw [IntKind.wrap_u64]; omega
  rw [Int.tmod_eq_emod_of_nonneg h0]
  have h1 := Int.emod_nonneg (IntKind.u64.wrap x) (show (m : Int) ≠ 0 by omega)
  have h2 := Int.emod_lt_of_pos (IntKind.u64.wrap x) (show (0 : Int) < m by omega)
  exact ⟨((IntKind.u64.wrap x) % (m : Int)).toNat, by omega, by omega⟩
theorem xv11_none {b : Nat → Bool} (h : ∀ n, b n = false) (i : Nat) : xv11 b i = 0 := by
  induction i with
  | zero => rfl
  | succ i ih => rw [xv11, if_neg (by rw [h]; decide), ih]
theorem xv11_no {b : Nat → Bool} {i : Nat} (h : b i = false) : xv11 b (i + 1) = xv11 b i := by rw [xv11, if_neg (by rw [h]; decide)]
theorem xv11_yes {b : Nat → Bool} {i : Nat} (h : b i = true) : xv11 b (i + 1) = xv11 b i ||| 2 ^ i := by rw [xv11, if_pos h]
theorem or2_11 {x i : Nat} (hx : x < 65536) (hi : i < 16) : bits BinOp.or IntKind.u16 (x : Int) (2 ^ i) = ((x ||| 2 ^ i : Nat) : Int) := by
  have h2 : (2 : Nat) ^ i < 2 ^ 16 := Nat.pow_lt_pow_right (by omega) hi
  have h := u16_or_nat x (2 ^ i) hx h2
  rw [← h]
  simp
theorem wrap2_11 {i : Nat} (hi : i < 16) : IntKind.u16.wrap (2 ^ i) = 2 ^ i := by
  have h2 : (2 : Nat) ^ i < 2 ^ 16 := Nat.pow_lt_pow_right (by omega) hi
  have h3 : ((2 : Int) ^ i) = ((2 ^ i : Nat) : Int) := by simp
  rw [IntKind.wrap_u16, h3]
  generalize (2 : Nat) ^ i = z at h2
  omega
theorem rl11_ok {R : List Int} {tu : Bool} {N i : Nat} (hN : N ≤ 16) : ∀ x ∈ rl11 R tu N i, 0 ≤ x ∧ x < 65536 := by
  intro x hx
  obtain ⟨k, -, rfl⟩ := List.mem_map.1 hx
  have := xv11_16 (rb11 R tu k) hN
  omega
theorem rm11_ok {R : List Int} {tu : Bool} {N a b : Nat} (hN : N ≤ 16) (ha : a < 16) : ∀ x ∈ rm11 R tu N a b, 0 ≤ x ∧ x < 65536 := by
  intro x hx
  rcases List.mem_or_eq_of_mem_set hx with hx | rfl
  · exact rl11_ok hN x hx
  · have := or16_11 (xv11_16 (rb11 R tu b) hN) ha
    omega
end Go.Proofs.Ytfbabbddiplgkaa
