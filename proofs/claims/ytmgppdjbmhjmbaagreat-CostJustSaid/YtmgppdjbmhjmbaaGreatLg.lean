/-
  Ins, Ins2, Crb, Crr, Crt, Crn, Crl, Crp, Ck: in one text.
-/
import Derived.Test.YtmgppdjbmhjmbaaGreatLf
namespace Go.Proofs.YtmgppdjbmhjmbaaGreat
open Go.RowKit
set_option linter.unusedSimpArgs false
set_option linter.unusedVariables false

/-- An instruction's three numbers. -/
abbrev Ins := Int × Int × Int
def InOk (x : Ins) : Prop := (0 ≤ x.1 ∧ x.1 < 256) ∧ (-9223372036854775808 ≤ x.2.1 ∧ x.2.1 ≤ 9223372036854775807) ∧ (-9223372036854775808 ≤ x.2.2 ∧ x.2.2 ≤ 9223372036854775807)
/-- The slice at A, of capacity c, reads as the instructions L. -/
def Ri (w : World) (A : Option Addr) (c : Nat) (L : List Ins) : Prop :=
  (∀ x ∈ L, InOk x) ∧ L.length ≤ c ∧ c ≤ maxLen ∧ ((A = none ∧ c = 0) ∨ ∃ ad : Addr, A = some ad ∧ ∀ i x, L[i]? = some x → w.cell? (ad.add (i * 3)) = some (.int .u8 x.1) ∧ w.cell? ⟨(ad.add (i * 3)).block, (ad.add (i * 3)).off + 1, none⟩ = some (.int .i64 x.2.1) ∧ w.cell? ⟨(ad.add (i * 3)).block, (ad.add (i * 3)).off + 2, none⟩ = some (.int .i64 x.2.2))
/-- The cells of instructions. -/
def cei (L : List Ins) : List Value := L.flatMap fun x => [.int .u8 x.1, .int .i64 x.2.1, .int .i64 x.2.2]
section
variable {w w' : World} {A : Option Addr} {c : Nat} {L : List Ins}
theorem Ri.le (h : Ri w A c L) : L.length ≤ c := h.2.1
theorem Ri.len (h : Ri w A c L) : L.length ≤ 9223372036854775807 := Nat.le_trans h.le h.2.2.1
theorem Ri.at_ (h : Ri w A c L) {i : Nat} (hi : i < L.length) : ∃ ad : Addr, A = some ad ∧ w.cell? (ad.add (i * 3)) = some (.int .u8 (L[i]).1) ∧ w.cell? ⟨(ad.add (i * 3)).block, (ad.add (i * 3)).off + 1, none⟩ = some (.int .i64 (L[i]).2.1) ∧ w.cell? ⟨(ad.add (i * 3)).block, (ad.add (i * 3)).off + 2, none⟩ = some (.int .i64 (L[i]).2.2) := by
  rcases h.2.2.2 with ⟨_, hc⟩ | ⟨ad, ha, hc⟩
  · have := h.le; omega
  · exact ⟨ad, ha, hc i _ (List.getElem?_eq_getElem hi)⟩
theorem Ri.none_ (w : World) : Ri w none 0 [] := ⟨fun x hx => (by cases hx), Nat.le_refl _, Nat.zero_le _, .inl ⟨rfl, rfl⟩⟩
theorem Ri.keep (h : Ri w A c L) (hb : Below w.heap.size w w') : Ri w' A c L := by
  refine ⟨h.1, h.2.1, h.2.2.1, ?_⟩
  rcases h.2.2.2 with hn | ⟨ad, ha, hc⟩
  · exact .inl hn
  · refine .inr ⟨ad, ha, fun i x hx => ?_⟩
    obtain ⟨h1, h2, h3⟩ := hc i x hx
    exact ⟨(hb.cell (cell_lt h1)).trans h1, (hb.cell (cell_lt h2)).trans h2, (hb.cell (cell_lt h3)).trans h3⟩
theorem Ri.drewN (h : Ri w A c L) (q : Nat) : Ri (w.drewN q) A c L := h
end
abbrev fT (A : Option Addr) (c : Nat) (L : List Ins) : Fct := ⟨fun w => Ri w A c L, fun _ _ h hb => h.keep hb⟩

/-- Whether instructions are code. -/
def inM (x : Ins) : Bool := opM x.1 x.2.1 x.2.2
def codM (L : List Ins) : Bool := decide (1 ≤ L.length) && decide (L.length ≤ 200) && L.all inM
/-- Whether something may stand behind an operation. -/
def wdB (n : Int) : Bool := decide (0 < opHi n)
end Go.Proofs.YtmgppdjbmhjmbaaGreat
namespace Go.Proofs.YtmgppdjbmhjmbaaGreat
open Go.RowKit
set_option linter.unusedSimpArgs false
set_option linter.unusedVariables false

theorem length_cei (L : List Ins) : (cei L).length = L.length * 3 := by
  induction L with
  | nil => rfl
  | cons x L ih => rw [cei, List.flatMap_cons, List.length_append, ← cei, ih]; simp; omega
theorem cei_append (L M : List Ins) : cei (L ++ M) = cei L ++ cei M := by simp [cei]
theorem cei_cons (x : Ins) (L : List Ins) : cei (x :: L) = .int .u8 x.1 :: .int .i64 x.2.1 :: .int .i64 x.2.2 :: cei L := by simp [cei]
theorem cei_one (L : List Ins) : ∀ u ∈ cei L, u.oneCell' = true := by
  intro u hu
  simp only [cei, List.mem_flatMap] at hu
  obtain ⟨x, _, hx⟩ := hu
  simp at hx
  rcases hx with rfl | rfl | rfl <;> rfl
theorem cei_at {L : List Ins} {i : Nat} {x : Ins} (h : L[i]? = some x) : (cei L)[i * 3]? = some (.int .u8 x.1) ∧ (cei L)[i * 3 + 1]? = some (.int .i64 x.2.1) ∧ (cei L)[i * 3 + 2]? = some (.int .i64 x.2.2) := by
  induction L generalizing i with
  | nil => simp at h
  | cons y L ih =>
    cases i with
    | zero =>
      simp at h
      subst h
      rw [cei_cons]
      exact ⟨rfl, rfl, rfl⟩
    | succ i =>
      obtain ⟨h1, h2, h3⟩ := ih (i := i) (by simpa using h)
      rw [cei_cons, show (i + 1) * 3 = i * 3 + 1 + 1 + 1 by omega, show i * 3 + 1 + 1 + 1 + 1 = (i * 3 + 1) + 1 + 1 + 1 by omega, show i * 3 + 1 + 1 + 1 + 2 = (i * 3 + 2) + 1 + 1 + 1 by omega]
      simp only [List.getElem?_cons_succ]
      exact ⟨h1, h2, h3⟩
theorem cei_inv {L : List Ins} {j : Nat} {u : Value} (h : (cei L)[j]? = some u) : ∃ i x, L[i]? = some x ∧ ((j = i * 3 ∧ u = .int .u8 x.1) ∨ (j = i * 3 + 1 ∧ u = .int .i64 x.2.1) ∨ (j = i * 3 + 2 ∧ u = .int .i64 x.2.2)) := by
  have hj := (List.getElem?_eq_some_iff.1 h).1
  rw [length_cei] at hj
  have hi : j / 3 < L.length := by omega
  have hx : L[j / 3]? = some L[j / 3] := List.getElem?_eq_getElem hi
  obtain ⟨h1, h2, h3⟩ := cei_at hx
  refine ⟨j / 3, _, hx, ?_⟩
  have h3' : j % 3 = 0 ∨ j % 3 = 1 ∨ j % 3 = 2 := by omega
  rcases h3' with e | e | e
  · have e' : j = j / 3 * 3 := by omega
    rw [← e', h] at h1
    exact .inl ⟨e', Option.some.inj h1⟩
  · have e' : j = j / 3 * 3 + 1 := by omega
    rw [← e', h] at h2
    exact .inr (.inl ⟨e', Option.some.inj h2⟩)
  · have e' : j = j / 3 * 3 + 2 := by omega
    rw [← e', h] at h3
    exact .inr (.inr ⟨e', Option.some.inj h3⟩)
theorem add_1 (ad : Addr) (k : Nat) : ad.add (k + 1) = ⟨(ad.add k).block, (ad.add k).off + 1, none⟩ := by
  unfold Addr.add
  rw [if_neg (by omega)]
  split
  · subst_vars; rfl
  · rfl
theorem add_2 (ad : Addr) (k : Nat) : ad.add (k + 2) = ⟨(ad.add k).block, (ad.add k).off + 2, none⟩ := by
  unfold Addr.add
  rw [if_neg (by omega)]
  split
  · subst_vars; rfl
  · rfl
theorem Ri.of_own {w : World} {A : Option Addr} {c base e : Nat} {n : Nat} {L : List Ins} (h : w.ownsRow base e 3 (.slice A n c) n (cei L)) (hb : ∀ x ∈ L, InOk x) : Ri w A c L ∧ n = L.length := by
  have hn : n = L.length := by have := h.1; rw [length_cei] at this; omega
  refine ⟨⟨hb, ?_⟩, hn⟩
  have hcell := fun g => h.cells (g := g)
  rcases h.2 with ⟨hv, h0⟩ | ⟨g, cap, cur, hv, _, _, hcap, hm, _⟩
  · injection hv with e1 e2 e3
    exact ⟨by omega, by omega, .inl ⟨e1, e3⟩⟩
  · injection hv with e1 e2 e3
    subst e1 e3
    refine ⟨by omega, hm, .inr ⟨_, rfl, fun i x hx => ?_⟩⟩
    obtain ⟨h1, h2, h3⟩ := cei_at hx
    rw [← add_1, ← add_2]
    exact ⟨hcell g rfl _ _ h1, hcell g rfl _ _ h2, hcell g rfl _ _ h3⟩
theorem ri_cells {w : World} {ad : Addr} {c : Nat} {L : List Ins} (h : Ri w (some ad) c L) (hc : 0 < c) : ∀ j u, (cei L)[j]? = some u → w.cell? (ad.add j) = some u := by
  intro j u hj
  obtain ⟨i, x, hx, hu⟩ := cei_inv hj
  rcases h.2.2.2 with ⟨ha, _⟩ | ⟨ad', ha, hcell⟩
  · cases ha
  · injection ha with ha
    subst ha
    obtain ⟨h1, h2, h3⟩ := hcell i x hx
    rw [← add_1] at h2
    rw [← add_2] at h3
    rcases hu with ⟨rfl, rfl⟩ | ⟨rfl, rfl⟩ | ⟨rfl, rfl⟩
    · exact h1
    · exact h2
    · exact h3
theorem ri_new (w : World) (x : Ins) (h : InOk x) : Ri (w.alloc (.cells #[.int .u8 x.1, .int .i64 x.2.1, .int .i64 x.2.2] 67)) (some ⟨w.heap.size, 0, none⟩) 1 [x] := by
  refine ⟨fun y hy => by rw [List.mem_singleton.1 hy]; exact h, Nat.le_refl _, by unfold maxLen; omega, .inr ⟨_, rfl, fun i y hi => ?_⟩⟩
  match i, hi with
  | 0, hi =>
    simp at hi
    subst hi
    refine ⟨?_, ?_, ?_⟩ <;> simp [go_sem, Addr.add]
theorem Tryz.infoI : (Tryz.prog.info? 67).map (fun i => (i.zero, i.size, i.bytes)) = some (some (.agg #[.int .u8 0, .int .i64 0, .int .i64 0]), 3, 24) := by kernel_rfl

theorem Ri.grown {w w' : World} {A : Option Addr} {c : Nat} {L : List Ins} (h : Ri w A c L) {row : Option Nat} (hg : w.grownBy w' row) (hr : ∀ ad, A = some ad → some ad.block ≠ row) : Ri w' A c L := by
  refine ⟨h.1, h.2.1, h.2.2.1, ?_⟩
  rcases h.2.2.2 with hn | ⟨ad, ha, hc⟩
  · exact .inl hn
  · refine .inr ⟨ad, ha, fun i x hx => ?_⟩
    have hb : ∀ k, (ad.add k).block = ad.block := fun k => by unfold Addr.add; split <;> rfl
    obtain ⟨h1, h2, h3⟩ := hc i x hx
    refine ⟨hg.cell h1 (by rw [hb]; exact hr ad ha), hg.cell h2 (by simp only [hb]; exact hr ad ha), hg.cell h3 (by simp only [hb]; exact hr ad ha)⟩
/-- The same append, as one step of a region that draws its order. -/
theorem step_append_ri {w : World} {ops : Array Oper} {o : Oper} {a : Act} {K : Act → World → Prop} {Q : Exit → Act → World → Prop} {E : Prop} (hgd : o.guard = none) (s x : Operand)
    (ho : o.op = .call { callee := .builtin .append, args := #[s, x], argTypes := #[37, 37] })
    (base : Nat) (v : Value) (n : Nat) (K0 : List Ins) (hs : a.eval s = v) (hown : w.ownsRow base 67 3 v n (cei K0))
    (A : Option Addr) (m c : Nat) (L : List Ins) (hx : a.eval x = .slice A m c) (hr : Ri w A c L) (hm : m = L.length) (hbytes : n + m ≤ 1000000) (hbase : base ≤ w.heap.size)
    (h : ∀ A' c' w', w'.ownsRow base 67 3 (.slice A' (n + m) c') (n + m) (cei (K0 ++ L)) → w.grownBy w' v.ownBlock → Below base w w' → K (a.put o.dst (.slice A' (n + m) c')) w') :
    if Region.wanted o (yielded ops a.tmps) = true then Oper.wp Tryz.prog o a w K Q else E := by
  have hw : Region.wanted o (yielded ops a.tmps) = true := by simp [Region.wanted, hgd]
  rw [if_pos hw]
  have hinfo := Tryz.infoI
  rw [Option.map_eq_some_iff] at hinfo
  obtain ⟨i, hi, hz⟩ := hinfo
  simp only [Prod.mk.injEq] at hz
  obtain ⟨hz0, hz1, hz2⟩ := hz
  have hbel : ∀ {w'}, w.grownBy w' v.ownBlock → Below base w w' := fun hg => (Below.refl _ _).grown hg hbase fun g hg' => (hown.lt g hg').1
  rcases hr.2.2.2 with ⟨rfl, rfl⟩ | ⟨ad, rfl, hcell⟩
  · have h0 : L = [] := List.eq_nil_of_length_eq_zero (by have := hr.le; omega)
    subst h0
    obtain rfl : m = 0 := hm
    have hrun := run_append_owned_none (P := Tryz.prog) (w := w) base 37 o.type 67 i 3 Tryz.underlying37 hi v n (cei K0) hown
    obtain ⟨A', c', rfl⟩ := own_form hown
    unfold Oper.wp
    simp [execOp, ho, resolve, invoke, builtin, hs, hx, hrun, Result.andThen]
    have := h A' c' w (by simpa using hown) (World.grownBy.refl w _) (hbel (World.grownBy.refl w _))
    simp only [Nat.add_zero] at this
    exact this
  · have key : ∀ news : List Value, news = cei L → news.length = m * 3 → (∀ j u, news[j]? = some u → w.cell? (ad.add j) = some u) → Oper.wp Tryz.prog o a w K Q := by
      intro news hn hl hc
      obtain ⟨v', w', hr', h2, h3, h4, h5⟩ := run_append_own_at (P := Tryz.prog) w base 37 o.type 67 i _ 3 24 Tryz.underlying37 hi hz0 hz1 hz2 rfl (by decide) v n (cei K0) hown ad m c news hl hc (by rw [hn]; exact cei_one L) (by unfold maxLen; omega) (by omega) hbase
      obtain ⟨A', c', rfl⟩ := own_form h2
      unfold Oper.wp execOp
      simp only [ho, resolve, invoke, builtin, Sem.run_bind, Sem.run_pure, Result.andThen_ok, List.map_toArray, List.map_cons, List.map_nil, hs, hx, hr']
      exact h A' c' w' (by rw [cei_append, ← hn]; exact h2) h3 (hbel h3)
    by_cases hc : c = 0
    · subst hc
      have h0 : L = [] := List.eq_nil_of_length_eq_zero (by have := hr.le; omega)
      subst h0
      obtain rfl : m = 0 := hm
      exact key [] rfl rfl (fun j u hj => by cases hj)
    · exact key (cei L) rfl (by rw [length_cei, hm]) (ri_cells hr (by omega))
end Go.Proofs.YtmgppdjbmhjmbaaGreat
namespace Go.Proofs.YtmgppdjbmhjmbaaGreat
open Go.RowKit
set_option linter.unusedSimpArgs false
set_option linter.unusedVariables false

/-- An instruction's bytes; code's. -/
def opr (x : Ins) : List Int := x.1 :: (if wdB x.1 then [x.2.1 % 256, x.2.1 / 256] else [])
def codB (L : List Ins) : List Int := (L.length : Int) :: L.flatMap opr
theorem Ri.c1 {w : World} {ad : Addr} {c i : Nat} {L : List Ins} (h : Ri w (some ad) c L) (hi : i < L.length) : w.cell? ⟨(ad.add (i * 3)).block, (ad.add (i * 3)).off + 1, none⟩ = some (.int .i64 (L[i]).2.1) := by
  obtain ⟨ad', e, _, h1, _⟩ := h.at_ hi
  injection e with e
  subst e
  exact h1
theorem opM_bd {x : Ins} (h : inM x = true) : 0 ≤ x.2.1 ∧ x.2.1 ≤ 1024 ∧ x.1 < 33 := by
  have h' : opM x.1 x.2.1 x.2.2 = true := h
  simp only [opM, Bool.and_eq_true, decide_eq_true_eq] at h'
  obtain ⟨⟨h1, h2⟩, _⟩ := h'
  have a1 : 0 ≤ opLo x.1 := by unfold opLo; split <;> omega
  have a2 : opHi x.1 ≤ 1024 ∧ (¬ x.1 < 33 → opHi x.1 = -1) := by unfold opHi; repeat' split
                                                                 all_goals omega
  by_cases h3 : x.1 < 33
  · omega
  · have := a2.2 h3; omega
end Go.Proofs.YtmgppdjbmhjmbaaGreat
namespace Go.Proofs.YtmgppdjbmhjmbaaGreat
open Go.RowKit
set_option linter.unusedSimpArgs false
set_option linter.unusedVariables false

end Go.Proofs.YtmgppdjbmhjmbaaGreat
namespace Go.Proofs.YtmgppdjbmhjmbaaGreat
open Go.RowKit
set_option maxRecDepth 100000
set_option linter.unusedSimpArgs false
set_option linter.unusedVariables false

end Go.Proofs.YtmgppdjbmhjmbaaGreat
namespace Go.Proofs.YtmgppdjbmhjmbaaGreat
open Go.RowKit
set_option maxRecDepth 100000
set_option linter.unusedSimpArgs false
set_option linter.unusedVariables false

end Go.Proofs.YtmgppdjbmhjmbaaGreat
namespace Go.Proofs.YtmgppdjbmhjmbaaGreat
open Go.RowKit
set_option maxRecDepth 100000
set_option linter.unusedSimpArgs false
set_option linter.unusedVariables false

theorem below_set3 {w w1 : World} {b B : Nat} (h : Below b w w1) (hB : b ≤ B) (x y z : Value) : Below b w (((w1.setCell ⟨B, 0, none⟩ x).setCell ⟨B, 1, none⟩ y).setCell ⟨B, 2, none⟩ z) := ((h.setCell hB _).setCell hB _).setCell hB _
theorem In.other {w : World} {B : Nat} {k a b : Int} (h : In w B k a b) {p : Addr} (hp : p.block ≠ B) (v : Value) : In (w.setCell p v) B k a b := by
  obtain ⟨h1, h2, h3, h4, h5, h6, h7⟩ := h
  have ne : ∀ i, p ≠ (⟨B, i, none⟩ : Addr) := fun i e => hp (by rw [e])
  refine ⟨by simpa using h1, ?_, ?_, ?_, ?_, ?_, ?_⟩
  · rw [World.cell?_setCell_other _ _ _ _ (ne 0)]; exact h2
  · rw [World.cell?_setCell_other _ _ _ _ (ne 1)]; exact h3
  · rw [World.cell?_setCell_other _ _ _ _ (ne 2)]; exact h4
  · simpa using h5
  · simpa using h6
  · simpa using h7
/-- Some instruction lies at block B. -/
abbrev fE (B : Nat) : Fct := ⟨fun w => ∃ x y z, In w B x y z, fun _ _ h hb => by obtain ⟨x, y, z, h⟩ := h; exact ⟨x, y, z, h.keep hb⟩⟩
theorem In.set012 {w : World} {B : Nat} {k a b : Int} (h : In w B k a b) (k' a' b' : Int) : In (((w.setCell ⟨B, 0, none⟩ (.int .u8 k')).setCell ⟨B, 1, none⟩ (.int .i64 a')).setCell ⟨B, 2, none⟩ (.int .i64 b')) B k' a' b' := by
  obtain ⟨h1, h2, h3, h4, h5, h6, h7⟩ := h
  refine ⟨by simpa using h1, ?_, ?_, ?_, ?_, ?_, ?_⟩ <;> simp [go_sem, h2, h3, h4, h5, h6, h7]
theorem Sx.put {w w' : World} {o a : Int} (h : Sx w w' [fI (w.heap.size + 1) o a 0, fE w.heap.size]) (k' a' b' : Int) :
    Sx w (((w'.setCell ⟨w.heap.size, 0, none⟩ (.int .u8 k')).setCell ⟨w.heap.size, 1, none⟩ (.int .i64 a')).setCell ⟨w.heap.size, 2, none⟩ (.int .i64 b')) [fI (w.heap.size + 1) o a 0, fE w.heap.size] := by
  obtain ⟨h1, h2, ⟨x, y, z, h3⟩, _⟩ := h
  exact ⟨below_set3 h1 (Nat.le_refl _) _ _ _, ((h2.other (by simp) _).other (by simp) _).other (by simp) _, ⟨k', a', b', h3.set012 _ _ _⟩, trivial⟩
end Go.Proofs.YtmgppdjbmhjmbaaGreat
namespace Go.Proofs.YtmgppdjbmhjmbaaGreat
open Go.RowKit
set_option maxRecDepth 100000
set_option linter.unusedSimpArgs false
set_option linter.unusedVariables false

end Go.Proofs.YtmgppdjbmhjmbaaGreat
namespace Go.Proofs.YtmgppdjbmhjmbaaGreat
open Go.RowKit
set_option maxRecDepth 100000
set_option linter.unusedSimpArgs false
set_option linter.unusedVariables false

/-- A text's numbers. -/
def nums (s : ByteArray) : List Int := s.data.toList.map fun u => (u.toNat : Int)
end Go.Proofs.YtmgppdjbmhjmbaaGreat
