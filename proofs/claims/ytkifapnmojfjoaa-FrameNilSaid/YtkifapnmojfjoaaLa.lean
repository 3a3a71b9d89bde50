/-
  Num, Mem, Kit, Split, Put, Cut, Join, Settle, Get, Gets: in one text.
-/
import Derived.WalkKit
import Derived.Lib.Hide
import Derived.Handy
import Derived.Laws.AppendOwnNone
import Derived.Maps.AppendAt
import Derived.Test.YtkifapnmojfjoaaChecked
import Derived.Deep.QuietTactic
import Derived.BigQuiet
import Derived.Deep.DeepCutAuto
import Derived.Deep.RegionHeld3
import Derived.WalkSpells
namespace Go.Proofs.Ytkifapnmojfjoaa
open Go.RowKit

/-- The w low bytes of n, least first. -/
def digs (n : Int) : Nat → List Int
  | 0 => []
  | w + 1 => n % 256 :: digs (n / 256) w
/-- n shifted right by k bytes. -/
def sh (n : Int) : Nat → Int
  | 0 => n
  | k + 1 => sh n k / 256
/-- What bytes denote, least first. -/
def num : List Int → Int
  | [] => 0
  | b :: l => b + 256 * num l
/-- Each is a byte. -/
def Byt (l : List Int) : Prop := ∀ x ∈ l, 0 ≤ x ∧ x < 256
/-- 256^k, by a name that a walk doesn't open. -/
def p256 (k : Nat) : Int := 256 ^ k

theorem p256_zero : p256 0 = 1 := rfl
theorem p256_succ (k : Nat) : p256 (k + 1) = 256 * p256 k := by unfold p256; rw [Int.pow_succ, Int.mul_comm]
theorem p256_pos (k : Nat) : 0 < p256 k := by
  induction k with
  | zero => decide
  | succ k ih => rw [p256_succ]; omega

theorem length_digs (n : Int) (w : Nat) : (digs n w).length = w := by
  induction w generalizing n with
  | zero => rfl
  | succ w ih => simp [digs, ih]
theorem byt_digs (n : Int) (w : Nat) : Byt (digs n w) := by
  induction w generalizing n with
  | zero => intro x hx; cases hx
  | succ w ih =>
    intro x hx
    simp only [digs, List.mem_cons] at hx
    rcases hx with rfl | hx
    · omega
    · exact ih _ x hx
theorem sh_div (n : Int) (k : Nat) : sh (n / 256) k = sh n (k + 1) := by
  induction k with
  | zero => rfl
  | succ k ih => simp only [sh] at ih ⊢; rw [ih]
theorem digs_snoc (n : Int) (k : Nat) : digs n (k + 1) = digs n k ++ [sh n k % 256] := by
  induction k generalizing n with
  | zero => rfl
  | succ k ih =>
    rw [digs, ih (n / 256), sh_div]
    rfl
theorem sh_nonneg (n : Int) (h : 0 ≤ n) (k : Nat) : 0 ≤ sh n k := by
  induction k with
  | zero => exact h
  | succ k ih => simp only [sh]; omega
theorem sh_le (n : Int) (h : 0 ≤ n) (k : Nat) : sh n k ≤ n := by
  induction k with
  | zero => simp [sh]
  | succ k ih => have := sh_nonneg n h k; simp only [sh]; omega
theorem sh_bd (n a b : Int) (ha : a ≤ 0) (hb : -1 ≤ b) (h1 : a ≤ n) (h2 : n ≤ b) (k : Nat) : a ≤ sh n k ∧ sh n k ≤ b := by
  induction k with
  | zero => exact ⟨h1, h2⟩
  | succ k ih => simp only [sh]; omega
theorem num_digs (n : Int) (w : Nat) : num (digs n w) = n % p256 w := by
  induction w generalizing n with
  | zero => simp [digs, num, p256, Int.emod_one]
  | succ w ih =>
    have hp := p256_pos w
    rw [digs, num, ih, p256_succ]
    have h1 : n % (256 * p256 w) = n - 256 * p256 w * (n / (256 * p256 w)) := Int.emod_def _ _
    have h2 : n / (256 * p256 w) = n / 256 / p256 w := (Int.ediv_ediv_of_nonneg (by omega)).symm
    have h3 : n / 256 % p256 w = n / 256 - p256 w * (n / 256 / p256 w) := Int.emod_def _ _
    rw [h1, h2, h3, Int.mul_sub, Int.mul_assoc]
    generalize p256 w * (n / 256 / p256 w) = t
    omega
theorem num_nonneg {l : List Int} (h : Byt l) : 0 ≤ num l := by
  induction l with
  | nil => simp [num]
  | cons b l ih =>
    have hb := h b (by simp)
    have := ih fun x hx => h x (by simp [hx])
    simp only [num]; omega
theorem num_lt {l : List Int} (h : Byt l) : num l < p256 l.length := by
  induction l with
  | nil => decide
  | cons b l ih =>
    have hb := h b (by simp)
    have := ih fun x hx => h x (by simp [hx])
    simp only [num, List.length_cons, p256_succ]; omega
theorem digs_num {l : List Int} (h : Byt l) : digs (num l) l.length = l := by
  induction l with
  | nil => rfl
  | cons b l ih =>
    have hb := h b (by simp)
    have := ih fun x hx => h x (by simp [hx])
    simp only [num, List.length_cons, digs]
    have e1 : (b + 256 * num l) % 256 = b := by omega
    have e2 : (b + 256 * num l) / 256 = num l := by omega
    rw [e1, e2, this]
theorem digs_mod (n : Int) (w : Nat) : digs (n % p256 w) w = digs n w := by
  have h := digs_num (byt_digs n w)
  rw [num_digs, length_digs] at h
  exact h
theorem p256_8 : p256 8 = 18446744073709551616 := by decide
theorem p256_2 : p256 2 = 65536 := by decide
theorem p256_le {a b : Nat} (h : a ≤ b) : p256 a ≤ p256 b := by
  induction h with
  | refl => exact Int.le_refl _
  | step _ ih => rw [p256_succ]; have := p256_pos a; omega
theorem digs_congr {m n : Int} {w : Nat} (h : m % p256 w = n % p256 w) : digs m w = digs n w := by
  rw [← digs_mod m, ← digs_mod n, h]
theorem byt_drop {l : List Int} (h : Byt l) (k : Nat) : Byt (l.drop k) := fun x hx => h x (List.mem_of_mem_drop hx)
theorem byt_take {l : List Int} (h : Byt l) (k : Nat) : Byt (l.take k) := fun x hx => h x (List.mem_of_mem_take hx)
theorem byt_append {l m : List Int} (h : Byt l) (k : Byt m) : Byt (l ++ m) := by
  intro x hx
  rcases List.mem_append.1 hx with hx | hx
  · exact h x hx
  · exact k x hx
theorem drop_pre {l : List Int} {k : Nat} (h1 : 1 ≤ k) (h : k ≤ l.length) : l.drop (k - 1) = l[k - 1]?.getD 0 :: l.drop k := by
  obtain ⟨j, rfl⟩ : ∃ j, k = j + 1 := ⟨k - 1, by omega⟩
  rw [Nat.add_sub_cancel, List.drop_eq_getElem_cons (by omega), List.getElem?_eq_getElem (by omega)]
  rfl
theorem num_pre {l : List Int} {k : Nat} (h1 : 1 ≤ k) (h : k ≤ l.length) : num (l.drop (k - 1)) = l[k - 1]?.getD 0 + 256 * num (l.drop k) := by
  rw [drop_pre h1 h, num]
theorem p256_7 : p256 7 = 72057594037927936 := by decide
theorem sh_eq (n : Int) (k : Nat) : sh n k = n / p256 k := by
  induction k with
  | zero => simp [sh, p256]
  | succ k ih =>
    have hp := p256_pos k
    rw [sh, ih, p256_succ, Int.mul_comm, ← Int.ediv_ediv_of_nonneg (by omega)]
theorem sh_mono {n m : Int} (h : n ≤ m) (k : Nat) : sh n k ≤ sh m k := by
  induction k with
  | zero => exact h
  | succ k ih => simp only [sh]; omega
theorem sh_top {n : Int} {k : Nat} (h0 : 0 ≤ n) (h : n < p256 k) : sh n k = 0 := by
  rw [sh_eq, Int.ediv_eq_zero_of_lt h0 h]
theorem digs_at (n : Int) (W : Nat) {i : Nat} (h : i < W) : (digs n W)[i]?.getD 0 = sh n i % 256 := by
  induction W generalizing n i with
  | zero => omega
  | succ W ih =>
    cases i with
    | zero => rfl
    | succ i =>
      rw [digs, List.getElem?_cons_succ, ih (n / 256) (by omega), sh_div]
theorem num_split (l : List Int) (j : Nat) : num l = num (l.take j) + p256 j * num (l.drop j) := by
  induction j generalizing l with
  | zero => simp [num, p256]
  | succ j ih =>
    cases l with
    | nil => simp [num]
    | cons b l =>
      simp only [List.take_succ_cons, List.drop_succ_cons, num]
      rw [ih l, p256_succ, Int.mul_add, Int.mul_assoc, Int.add_assoc]
theorem num_drop_le {l : List Int} (h : Byt l) (j : Nat) : num (l.drop j) ≤ num l := by
  have h1 := num_nonneg (byt_take h j)
  have h2 := num_nonneg (byt_drop h j)
  have h3 := p256_pos j
  have h4 : num (l.drop j) ≤ p256 j * num (l.drop j) := by
    have := Int.mul_le_mul_of_nonneg_right (show 1 ≤ p256 j by omega) h2
    rwa [Int.one_mul] at this
  rw [num_split l j]
  omega
theorem part_at (l : List Int) (a k i : Nat) (hi : i < k) : ((l.drop a).take k)[i]?.getD 0 = l[a + i]?.getD 0 := by
  rw [List.getElem?_take, if_pos hi, List.getElem?_drop]
theorem num_top {l : List Int} (h : Byt l) (h8 : l.length = 8) : 9223372036854775807 < num l ↔ (127 : Int) < l[7]?.getD 0 := by
  have h1 := num_nonneg (byt_take h 7)
  have h2 := num_lt (byt_take h 7)
  have h3 : (l.take 7).length = 7 := by simp; omega
  rw [h3, p256_7] at h2
  have h4 : num (l.drop 7) = (l[7]?.getD 0 : Int) := by
    have h5 : l.drop 8 = [] := List.drop_eq_nil_of_le (by omega)
    rw [show l.drop 7 = (l[7]?.getD 0 : Int) :: l.drop 8 from drop_pre (k := 8) (by omega) (by omega), h5]
    simp [num]
  have h5 := num_split l 7
  rw [h4, p256_7] at h5
  generalize num (l.take 7) = t at *
  generalize (l[7]?.getD 0 : Int) = x at *
  omega
theorem num_low {l : List Int} (h : Byt l) (h7 : l.length ≤ 7) : num l ≤ 9223372036854775807 := by
  have h1 := num_lt h
  have h2 := p256_le h7
  rw [p256_7] at h2
  omega
end Go.Proofs.Ytkifapnmojfjoaa
namespace Go.Proofs.Ytkifapnmojfjoaa
open Go.RowKit

/-- The slice at A, of capacity c, reads as the bytes l. -/
def Rd (w : World) (A : Option Addr) (c : Nat) (l : List Int) : Prop :=
  Byt l ∧ l.length ≤ c ∧ c ≤ maxLen ∧ ((A = none ∧ c = 0) ∨ ∃ ad : Addr, A = some ad ∧ ∀ i x, l[i]? = some x → w.cell? (ad.add i) = some (.int .u8 x))

/-- The cells of bytes. -/
def cel (l : List Int) : List Value := l.map (Value.int .u8)
theorem length_cel (l : List Int) : (cel l).length = l.length := by simp [cel]
theorem cel_append (l m : List Int) : cel (l ++ m) = cel l ++ cel m := by simp [cel]
theorem cel_one (l : List Int) : ∀ u ∈ cel l, u.oneCell' = true := ints_oneCell _ _

section
variable {w w' : World} {A : Option Addr} {c : Nat} {l : List Int}
theorem Rd.byt (h : Rd w A c l) : Byt l := h.1
theorem Rd.le (h : Rd w A c l) : l.length ≤ c := h.2.1
theorem Rd.cap (h : Rd w A c l) : c ≤ 9223372036854775807 := h.2.2.1
theorem Rd.len (h : Rd w A c l) : l.length ≤ 9223372036854775807 := Nat.le_trans h.le h.cap
theorem Rd.at_ (h : Rd w A c l) {i : Nat} (hi : i < l.length) : ∃ ad : Addr, A = some ad ∧ w.cell? (ad.add i) = some (.int .u8 (l[i]?.getD 0)) := by
  rcases h.2.2.2 with ⟨_, hc⟩ | ⟨ad, ha, hc⟩
  · have := h.le; omega
  · exact ⟨ad, ha, hc i _ (by rw [List.getElem?_eq_getElem hi]; rfl)⟩
theorem Rd.byte (h : Rd w A c l) (i : Nat) : 0 ≤ l[i]?.getD 0 ∧ l[i]?.getD 0 < 256 := by
  by_cases hi : i < l.length
  · rw [List.getElem?_eq_getElem hi]; exact h.1 _ (List.getElem_mem hi)
  · rw [List.getElem?_eq_none (by omega)]; exact ⟨by decide, by decide⟩
theorem Rd.none_ (w : World) : Rd w none 0 [] := ⟨fun x hx => (by cases hx), Nat.le_refl _, Nat.zero_le _, .inl ⟨rfl, rfl⟩⟩
theorem cell_lt {p : Addr} {v : Value} (h : w.cell? p = some v) : p.block < w.heap.size := by
  rcases Nat.lt_or_ge p.block w.heap.size with hlt | hge
  · exact hlt
  · simp [World.cell?, Array.getElem?_eq_none hge] at h
theorem Rd.keep (h : Rd w A c l) (hb : Below w.heap.size w w') : Rd w' A c l := by
  refine ⟨h.1, h.2.1, h.2.2.1, ?_⟩
  rcases h.2.2.2 with hn | ⟨ad, ha, hc⟩
  · exact .inl hn
  · exact .inr ⟨ad, ha, fun i x hx => (hb.cell (cell_lt (hc i x hx))).trans (hc i x hx)⟩
theorem Rd.grown (h : Rd w A c l) {row : Option Nat} (hg : w.grownBy w' row) (hr : ∀ ad, A = some ad → 0 < l.length → some ad.block ≠ row) : Rd w' A c l := by
  refine ⟨h.1, h.2.1, h.2.2.1, ?_⟩
  rcases h.2.2.2 with hn | ⟨ad, ha, hc⟩
  · exact .inl hn
  · refine .inr ⟨ad, ha, fun i x hx => hg.cell (hc i x hx) ?_⟩
    have hb : (ad.add i).block = ad.block := by unfold Addr.add; split <;> rfl
    rw [hb]
    exact hr ad ha (by have := (List.getElem?_eq_some_iff.1 hx).1; omega)
theorem Rd.drew (h : Rd w A c l) : Rd w.drew A c l := h
theorem Rd.alloc (h : Rd w A c l) (o : Obj) : Rd (w.alloc o) A c l := h.keep ((Below.refl _ _).alloc (Nat.le_refl _) _)
theorem add_add (a : Addr) (i j : Nat) : (a.add i).add j = a.add (i + j) := by
  unfold Addr.add
  by_cases hi : i = 0 <;> by_cases hj : j = 0 <;> simp [hi, hj, Nat.add_assoc]
/-- A part of it, cut out by 'b[lo:hi]'. -/
theorem Rd.sub (h : Rd w A c l) (lo hi : Nat) (h1 : lo ≤ hi) (h2 : hi ≤ l.length) : Rd w (if c = lo then A else A.map (·.add lo)) (c - lo) ((l.drop lo).take (hi - lo)) := by
  have hc := h.le
  refine ⟨byt_take (byt_drop h.1 _) _, by simp; omega, Nat.le_trans (Nat.sub_le _ _) h.2.2.1, ?_⟩
  rcases h.2.2.2 with ⟨rfl, rfl⟩ | ⟨ad, rfl, hx⟩
  · exact .inl ⟨by simp, by simp⟩
  · by_cases e : c = lo
    · rw [if_pos e]
      refine .inr ⟨ad, rfl, fun i x hi' => ?_⟩
      have := (List.getElem?_eq_some_iff.1 hi').1
      simp at this
      omega
    · rw [if_neg e]
      refine .inr ⟨ad.add lo, rfl, fun i x hi' => ?_⟩
      rw [add_add]
      rw [List.getElem?_take] at hi'
      split at hi'
      · exact hx _ x (by rw [← hi', List.getElem?_drop])
      · cases hi'
theorem Rd.of_own {base e : Nat} {n : Nat} (h : w.ownsRow base e 1 (.slice A n c) n (cel l)) (hb : Byt l) : Rd w A c l ∧ n = l.length := by
  have hn : n = l.length := by have := h.1; rw [length_cel] at this; omega
  refine ⟨⟨hb, ?_⟩, hn⟩
  have hcell := fun g => h.cells (g := g)
  rcases h.2 with ⟨hv, h0⟩ | ⟨g, cap, cur, hv, _, _, hcap, hm, _⟩
  · injection hv with e1 e2 e3
    exact ⟨by omega, by omega, .inl ⟨e1, e3⟩⟩
  · injection hv with e1 e2 e3
    subst e1 e3
    refine ⟨by omega, hm, .inr ⟨_, rfl, fun i x hx => hcell g rfl i _ (by simp [cel, hx])⟩⟩
end

/-- What the call owns is a slice. -/
theorem own_form {w : World} {base e size n : Nat} {v : Value} {xs : List Value} (h : w.ownsRow base e size v n xs) : ∃ A c, v = .slice A n c := by
  rcases h.2 with ⟨hv, h0⟩ | ⟨g, cap, cur, hv, _⟩
  · exact ⟨none, 0, by rw [hv, h0]⟩
  · exact ⟨_, _, hv⟩
theorem own_base {w : World} {base base' e size n : Nat} {v : Value} {xs : List Value} (h : w.ownsRow base e size v n xs) (hb : base' ≤ base) : w.ownsRow base' e size v n xs := by
  refine ⟨h.1, ?_⟩
  rcases h.2 with hv | ⟨g, cap, cur, hv, hg, r⟩
  · exact .inl hv
  · exact .inr ⟨g, cap, cur, hv, by omega, r⟩
theorem own_below {w w' : World} {B base e size n : Nat} {v : Value} {xs : List Value} (h : w.ownsRow base e size v n xs) (hb : Below w.heap.size w w') (hB : B ≤ base) : w'.ownsRow B e size v n xs := by
  refine ⟨h.1, ?_⟩
  rcases h.2 with hv | ⟨g, cap, cur, hv, hg, hh, r⟩
  · exact .inl hv
  · exact .inr ⟨g, cap, cur, hv, by omega, (hb.block g (Array.getElem?_eq_some_iff.1 hh).1).trans hh, r⟩

/-- append of a slice that reads as l, to a slice of the call's own. -/
theorem wpList_append_rd {P : Program} (w : World) {ops : Array Oper} {rest : List Oper} {o : Oper} {a : Act} {Q : Exit → Act → World → Prop} (hgd : o.guard = none) (s x : Operand) (t : TypeId)
    (ho : o.op = .call { callee := .builtin .append, args := #[s, x], argTypes := #[t, t] })
    (base : Nat) (e : TypeId) (i : TypeInfo) (ht : P.underlying t = some (.slice e)) (hi : P.info? e = some i) (hz : i.zero = some (.int .u8 0)) (hsize : i.size = 1) (hby : i.bytes = 1)
    (v : Value) (n : Nat) (k : List Int) (hs : a.eval s = v) (hown : w.ownsRow base e 1 v n (cel k))
    (A : Option Addr) (m c : Nat) (l : List Int) (hx : a.eval x = .slice A m c) (hr : Rd w A c l) (hm : m = l.length) (hbytes : n + m ≤ 140737488355328) (hbase : base ≤ w.heap.size)
    (h : ∀ A' c' w', w'.ownsRow base e 1 (.slice A' (n + m) c') (n + m) (cel (k ++ l)) → w.grownBy w' v.ownBlock → Below base w w' →
      ((Value.slice A' (n + m) c').ownBlock = v.ownBlock ∨ (Value.slice A' (n + m) c').ownBlock = some w.heap.size) → wpList P ops Q rest (a.put o.dst (.slice A' (n + m) c')) w') : wpList P ops Q (o :: rest) a w := by
  have hbel : ∀ {w'}, w.grownBy w' v.ownBlock → Below base w w' := fun hg => (Below.refl _ _).grown hg hbase fun g hg' => (hown.lt g hg').1
  rcases hr.2.2.2 with ⟨rfl, rfl⟩ | ⟨ad, rfl, hcell⟩
  · have h0 : l = [] := List.eq_nil_of_length_eq_zero (by have := hr.le; omega)
    subst h0
    obtain rfl : m = 0 := hm
    refine wpList_append_own_none hgd s x t ho base e i 1 ht hi v n (cel k) hs hown hx ?_
    obtain ⟨A', c', rfl⟩ := own_form hown
    have := h A' c' w (by simpa using hown) (World.grownBy.refl w _) (hbel (World.grownBy.refl w _)) (.inl rfl)
    simpa using this
  · refine wpList_append_own_at w hgd s x t ho base e i (.int .u8 0) 1 1 ht hi hz hsize hby rfl (by decide) v n (cel k) hs hown ad m c (cel l) hx (by rw [length_cel]; omega)
      (fun j u hj => by
        simp only [cel, List.getElem?_map, Option.map_eq_some_iff] at hj
        obtain ⟨y, hy, rfl⟩ := hj
        exact hcell j y hy) (cel_one l) (by unfold maxLen; omega) (by omega) hbase ?_
    intro v' w' hown' hg _ hb
    obtain ⟨A', c', rfl⟩ := own_form hown'
    exact h A' c' w' (by rw [cel_append]; exact hown') hg (hbel hg) hb
/-- The same, as one step of a region that draws its order. -/
theorem step_append_rd {P : Program} {w : World} {ops : Array Oper} {o : Oper} {a : Act} {K : Act → World → Prop} {Q : Exit → Act → World → Prop} {E : Prop} (hgd : o.guard = none) (s x : Operand) (t : TypeId)
    (ho : o.op = .call { callee := .builtin .append, args := #[s, x], argTypes := #[t, t] })
    (base : Nat) (e : TypeId) (i : TypeInfo) (ht : P.underlying t = some (.slice e)) (hi : P.info? e = some i) (hz : i.zero = some (.int .u8 0)) (hsize : i.size = 1) (hby : i.bytes = 1)
    (v : Value) (n : Nat) (k : List Int) (hs : a.eval s = v) (hown : w.ownsRow base e 1 v n (cel k))
    (A : Option Addr) (m c : Nat) (l : List Int) (hx : a.eval x = .slice A m c) (hr : Rd w A c l) (hm : m = l.length) (hbytes : n + m ≤ 140737488355328) (hbase : base ≤ w.heap.size)
    (h : ∀ A' c' w', w'.ownsRow base e 1 (.slice A' (n + m) c') (n + m) (cel (k ++ l)) → Below base w w' → K (a.put o.dst (.slice A' (n + m) c')) w') :
    if Region.wanted o (yielded ops a.tmps) = true then Oper.wp P o a w K Q else E := by
  have hw : Region.wanted o (yielded ops a.tmps) = true := by simp [Region.wanted, hgd]
  rw [if_pos hw]
  have hbel : ∀ {w'}, w.grownBy w' v.ownBlock → Below base w w' := fun hg => (Below.refl _ _).grown hg hbase fun g hg' => (hown.lt g hg').1
  rcases hr.2.2.2 with ⟨rfl, rfl⟩ | ⟨ad, rfl, hcell⟩
  · have h0 : l = [] := List.eq_nil_of_length_eq_zero (by have := hr.le; omega)
    subst h0
    obtain rfl : m = 0 := hm
    have hrun := run_append_owned_none (P := P) (w := w) base t o.type e i 1 ht hi v n (cel k) hown
    obtain ⟨A', c', rfl⟩ := own_form hown
    unfold Oper.wp
    simp [execOp, ho, resolve, invoke, builtin, hs, hx, hrun, Result.andThen]
    have := h A' c' w (by simpa using hown) (hbel (World.grownBy.refl w _))
    simp only [Nat.add_zero] at this
    exact this
  · obtain ⟨v', w', hr, h2, h3, h4, h5⟩ := run_append_own_at (P := P) w base t o.type e i (.int .u8 0) 1 1 ht hi hz hsize hby rfl (by decide) v n (cel k) hown ad m c (cel l) (by rw [length_cel]; omega)
      (fun j u hj => by
        simp only [cel, List.getElem?_map, Option.map_eq_some_iff] at hj
        obtain ⟨y, hy, rfl⟩ := hj
        exact hcell j y hy) (cel_one l) (by unfold maxLen; omega) (by omega) hbase
    obtain ⟨A', c', rfl⟩ := own_form h2
    unfold Oper.wp execOp
    simp only [ho, resolve, invoke, builtin, Sem.run_bind, Sem.run_pure, Result.andThen_ok, List.map_toArray, List.map_cons, List.map_nil, hs, hx, hr]
    exact h A' c' w' (by rw [cel_append]; exact h2) (hbel h3)
end Go.Proofs.Ytkifapnmojfjoaa
namespace Go.Proofs.Ytkifapnmojfjoaa
open Go.RowKit

theorem Try.info5 : (Try.prog.info? 5).map (fun i => (i.zero, i.size, i.bytes)) = some (some (.int .u8 0), 1, 1) := by kernel_rfl
/-- 'string(b)', b a slice that reads as l. -/
theorem rd_string {P : Program} {w : World} {A : Option Addr} {c : Nat} {l : List Int} (h : Rd w A c l) (src dst e : TypeId) (hs : P.underlying src = some (.slice e)) (he : P.underlying e = some (.int .u8)) (hd : P.underlying dst = some .string) :
    (convert src dst (.slice A l.length c)).run P w = .ok (.string (strOfNums l)) w := by
  rcases h.2.2.2 with ⟨rfl, rfl⟩ | ⟨ad, rfl, hcell⟩
  · obtain rfl : l = [] := List.eq_nil_of_length_eq_zero (by have := h.le; omega)
    exact run_convert_bytes_nil w src e hs he 0 0 dst hd
  · have hl : (loadCells ad l.length).run P w = .ok (l.map (Value.int .u8)).toArray w := by
      have := run_loadCells_list (P := P) w ad (l.map (Value.int .u8)) (fun j v hj => by
        simp only [List.getElem?_map, Option.map_eq_some_iff] at hj
        obtain ⟨y, hy, rfl⟩ := hj
        exact hcell j y hy)
      simpa using this
    rw [run_convert_bytes_string w src dst e _ l.length c hs he hd, run_bytesToString w _ l.length c l hl, foldl_push_bytes]
    simp [strOfNums, ByteArray.empty, ByteArray.emptyWithCapacity]
    rfl
theorem rd_lit (w : World) (l : List Int) (hb : Byt l) (hl : l.length ≤ maxLen) : Rd (w.alloc (.cells (cel l).toArray 5)) (some ⟨w.heap.size, 0, none⟩) l.length l := by
  have h := World.ownsRow_lit (base := w.heap.size) (e := 5) (size := 1) w (cel l).toArray l.length (Nat.le_refl _) hl (by simp [length_cel])
  exact (Rd.of_own (by simpa using h) hb).1
theorem byt_of {l : List Int} (h : (l.all fun x => decide (0 ≤ x) && decide (x < 256)) = true) : Byt l := by
  intro x hx
  have := List.all_eq_true.1 h x hx
  simpa using this
/-- An answer's bytes, from what is owned. -/
theorem own_rd {w : World} {A : Option Addr} {base n c e : Nat} {l : List Int} (h : w.ownsRow base e 1 (.slice A n c) n (cel l)) (hb : Byt l) : Rd w A c l := (Rd.of_own h hb).1
theorem Rd.drewN {w : World} {A : Option Addr} {c : Nat} {l : List Int} (h : Rd w A c l) (q : Nat) : Rd (w.drewN q) A c l := h
theorem below_draws {B : Nat} {a w : World} (h : Below B a w) (q : Nat) : Below B a (w.drewN q) := ⟨h.os, h.tape, h.output, h.size, h.block⟩
/-- Numbers that came in as a slice of bytes read as a list. -/
theorem rd_of_row {w : World} {a : Option Addr} {len cap : Nat} {zs : List Int}
    (h : (a = none ∧ len = 0 ∧ cap = 0 ∧ zs = []) ∨ ∃ x : Addr, a = some x ∧ len ≤ cap ∧ cap ≤ maxLen ∧ zs.length = cap ∧ (∀ i, i < zs.length → w.cell? (x.add i) = some (.int .u8 (zs.getD i 0))) ∧ ∀ n ∈ zs, (Lit.int .u8 n).wf = true) :
    ∃ l : List Int, l.length = len ∧ Rd w a cap l := by
  rcases h with ⟨rfl, rfl, rfl, rfl⟩ | ⟨x, rfl, h1, h2, h3, h4, h5⟩
  · exact ⟨[], rfl, Rd.none_ w⟩
  · refine ⟨zs.take len, by simp; omega, fun n hn => ?_, by simp; omega, h2, .inr ⟨x, rfl, fun i y hy => ?_⟩⟩
    · have := bounds_u8 (h5 n (List.mem_of_mem_take hn)); omega
    · rw [List.getElem?_take] at hy
      split at hy
      · have hlt := (List.getElem?_eq_some_iff.1 hy).1
        rw [h4 i hlt, List.getD_eq_getElem?_getD, hy]
        rfl
      · cases hy
theorem Rd.pre {w : World} {A : Option Addr} {c : Nat} {l : List Int} (h : Rd w A c l) (n : Nat) : Rd w A c (l.take n) := by
  refine ⟨byt_take h.1 _, by have := h.2.1; simp; omega, h.2.2.1, ?_⟩
  rcases h.2.2.2 with hn | ⟨ad, ha, hc⟩
  · exact .inl hn
  · refine .inr ⟨ad, ha, fun i x hx => ?_⟩
    rw [List.getElem?_take] at hx
    split at hx
    · exact hc i x hx
    · cases hx
set_option maxRecDepth 100000 in
/-- A part cut out, as the walk meets it: its value, and that it reads as the part. -/
theorem slice_run (A : Option Addr) (c : Nat) (l : List Int) (a h : Nat) (h1 : a ≤ h) (h2 : h ≤ l.length) (hlc : l.length ≤ c) :
    ∃ A' c', (∀ wx : World, (Instr.slice 22 (.slice A l.length c) (some (.int .i64 (a : Int))) (some (.int .i64 (h : Int))) none).run Try.prog wx = .ok (.slice A' (h - a) c') wx) ∧
      ∀ w : World, Rd w A c l → Rd w A' c' ((l.drop a).take (h - a)) := by
  refine ⟨if c = a then A else A.map (·.add a), c - a, fun wx => ?_, fun w hr => hr.sub a h h1 h2⟩
  have := run_slice_lh (P := Try.prog) wx 22 A l.length c Try.underlying22 .i64 .i64 (a : Int) (h : Int) (by omega) (by omega) (by omega)
  simp at this
  have hsz : (sizeOf (Try.prog.elem 22)).run Try.prog wx = .ok 1 wx := by kernel_rfl
  rw [this, hsz]
  simp [Result.andThen, sliced]
theorem own_some {w : World} {base e n c : Nat} {A : Option Addr} {xs : List Value} (h : w.ownsRow base e 1 (.slice A n c) n xs) (hn : 0 < n) : ∃ g, A = some ⟨g, 0, none⟩ ∧ base ≤ g := by
  rcases h.2 with ⟨_, h0⟩ | ⟨g, cap, cur, hv, hg, _⟩
  · omega
  · injection hv with e1 e2 e3
    exact ⟨g, e1, hg⟩
theorem cel_set (l : List Int) (j : Nat) (x : Int) : (cel l).set j (.int .u8 x) = cel (l.set j x) := by simp [cel, List.map_set]
theorem byt_set {l : List Int} (h : Byt l) (j : Nat) {x : Int} (hx : 0 ≤ x ∧ x < 256) : Byt (l.set j x) := by
  intro y hy
  rcases List.mem_or_eq_of_mem_set hy with h1 | rfl
  · exact h y h1
  · exact hx
theorem add_succ (ad : Addr) (m : Nat) : ad.add (m + 1) = ⟨ad.block, ad.off + (m + 1), none⟩ := by unfold Addr.add; rw [if_neg (by omega)]
theorem rd_one (w : World) (x : Int) (h : 0 ≤ x ∧ x < 256) : Rd (w.alloc (.cells #[.int .u8 x] 5)) (some ⟨w.heap.size, 0, none⟩) 1 [x] :=
  rd_lit w [x] (fun y hy => by simp at hy; subst hy; exact h) (by unfold maxLen; simp)
theorem wpAnyH_swap {P : Program} {md : Region.Mode} {ops : Array Oper} {Q : Exit → Act → World → Prop} {S S' : World → Prop} (h : ∀ w, S' w → S w) :
    ∀ (fuel : Nat) (listed : Array Bool) (a : Act) (w : World), wpAnyH P md ops Q S' fuel listed a w → wpAnyH P md ops Q S fuel listed a w
  | 0, _, _, _, hh => hh
  | fuel + 1, _, _, _, hh => ⟨hh.1, fun i hi => wpOp_mono (fun _ _ h2 => ⟨h _ h2.1, wpAnyH_swap h fuel _ _ _ h2.2⟩) (hh.2 i hi)⟩
end Go.Proofs.Ytkifapnmojfjoaa
namespace Go.Proofs.Ytkifapnmojfjoaa
open Go.RowKit

theorem split_rel (n : Int) (k W : Nat) (h : k < W) : (((digs n k ++ List.replicate (W - k) 0).map (Value.int .u8)).set k (.int .u8 (sh n k % 256))) = (digs n (k + 1) ++ List.replicate (W - (k + 1)) 0).map (Value.int .u8) := by
  obtain ⟨m, rfl⟩ : ∃ m, W = k + 1 + m := ⟨W - (k + 1), by omega⟩
  rw [digs_snoc]
  have e1 : k + 1 + m - k = m + 1 := by omega
  have e2 : k + 1 + m - (k + 1) = m := by omega
  rw [e1, e2, List.replicate_succ]
  simp only [List.map_append, List.map_cons, List.append_assoc, List.singleton_append]
  rw [List.set_append_right _ _ (by simp [length_digs])]
  simp [length_digs]

end Go.Proofs.Ytkifapnmojfjoaa
namespace Go.Proofs.Ytkifapnmojfjoaa
open Go.RowKit

/-- Put's error. -/
def putE (W n : Int) : Int := if W < 1 ∨ 8 < W then 2 else if n < 0 ∨ p256 W.toNat ≤ n then 11 else 0
/-- Put's bytes. -/
def putL (W n : Int) : List Int := if putE W n = 0 then digs n W.toNat else []

theorem shift_all (n : Int) (W : Nat) : n / 2 ^ (8 * W) = n / p256 W := by
  rw [Int.pow_mul]
  rfl
theorem shift_no {n : Int} {W : Nat} (h0 : 0 ≤ n) (h : n / 2 ^ (8 * W) ≤ 0) : n < p256 W := by
  rw [shift_all] at h
  have hp := p256_pos W
  have h1 : 0 ≤ n / p256 W := Int.ediv_nonneg h0 (Int.le_of_lt hp)
  have h2 : n / p256 W = 0 := by omega
  have h3 := Int.emod_lt_of_pos n hp
  have h4 := Int.emod_add_mul_ediv n (p256 W)
  rw [h2] at h4
  omega
theorem shift_yes {n : Int} {W : Nat} (h : n < 0 ∨ 0 < n / 2 ^ (8 * W)) : n < 0 ∨ p256 W ≤ n := by
  rcases h with h | h
  · exact .inl h
  · refine .inr ?_
    rw [shift_all] at h
    rcases Int.lt_or_le n (p256 W) with h1 | h1
    · rcases Int.lt_or_le n 0 with h0 | h0
      · have := Int.ediv_neg_of_neg_of_pos h0 (p256_pos W)
        omega
      · rw [Int.ediv_eq_zero_of_lt h0 h1] at h
        omega
    · exact h1
theorem put_yes {n : Int} {k : Nat} (h1 : 1 ≤ k) (h8 : k ≤ 8) (h0 : 0 ≤ n) (h : n < p256 k) : putE k n = 0 ∧ putL k n = digs n k := by
  have e : putE k n = 0 := by
    unfold putE
    rw [if_neg (by omega), Int.toNat_natCast, if_neg (by omega)]
  exact ⟨e, by rw [putL, if_pos e, Int.toNat_natCast]⟩
theorem put_wide {n : Int} {k : Nat} (h1 : 1 ≤ k) (h8 : k ≤ 8) (h : n < 0 ∨ p256 k ≤ n) : putE k n = 11 ∧ putL k n = [] := by
  have e : putE k n = 11 := by
    unfold putE
    rw [if_neg (by omega), Int.toNat_natCast, if_pos h]
  exact ⟨e, by rw [putL, if_neg (by rw [e]; decide)]⟩

/-- Row's error, and its bytes. -/
def rowE (l : List Int) : Int := if 65535 < l.length then 3 else 0
def rowL (l : List Int) : List Int := if 65535 < l.length then [] else digs l.length 2 ++ l

theorem put_inv {W n : Int} (h : putE W n = 0) : ∃ k : Nat, W = k ∧ 1 ≤ k ∧ k ≤ 8 ∧ 0 ≤ n ∧ n < p256 k ∧ putL W n = digs n k := by
  have h' := h
  unfold putE at h
  split at h
  · simp at h
  · split at h
    · simp at h
    · rename_i h1 h2
      obtain ⟨k, rfl⟩ : ∃ k : Nat, W = k := ⟨W.toNat, by omega⟩
      rw [Int.toNat_natCast] at h2
      exact ⟨k, rfl, by omega, by omega, by omega, by omega, by rw [putL, if_pos h', Int.toNat_natCast]⟩
theorem byt_putL (W n : Int) : Byt (putL W n) := by
  unfold putL
  split
  · exact byt_digs _ _
  · intro x hx; cases hx
theorem byt_rowL {l : List Int} (h : Byt l) : Byt (rowL l) := by
  unfold rowL
  split
  · intro x hx; cases hx
  · exact byt_append (byt_digs _ _) h
end Go.Proofs.Ytkifapnmojfjoaa
namespace Go.Proofs.Ytkifapnmojfjoaa
open Go.RowKit

/-- cut's error. -/
def cutE (l : List Int) (p n : Int) : Int := if p < 0 ∨ l.length < p then 2 else if l.length - p < n then 10 else 0
/-- cut's part. -/
def cutL (l : List Int) (p n : Int) : List Int := if cutE l p n = 0 then (l.drop p.toNat).take n.toNat else []
/-- cut's next. -/
def cutN (l : List Int) (p n : Int) : Int := if cutE l p n = 0 then p + n else 0

theorem cut_arg {l : List Int} {p n : Int} (h : p < 0 ∨ l.length < p) : cutE l p n = 2 ∧ cutL l p n = [] ∧ cutN l p n = 0 := by
  have e : cutE l p n = 2 := by rw [cutE, if_pos h]
  exact ⟨e, by rw [cutL, if_neg (by rw [e]; decide)], by rw [cutN, if_neg (by rw [e]; decide)]⟩
theorem cut_short {l : List Int} {p n : Int} (h1 : 0 ≤ p) (h2 : p ≤ l.length) (h : l.length - p < n) : cutE l p n = 10 ∧ cutL l p n = [] ∧ cutN l p n = 0 := by
  have e : cutE l p n = 10 := by rw [cutE, if_neg (by omega), if_pos h]
  exact ⟨e, by rw [cutL, if_neg (by rw [e]; decide)], by rw [cutN, if_neg (by rw [e]; decide)]⟩
theorem cut_yes {l : List Int} {p n : Int} (h1 : 0 ≤ p) (h2 : p ≤ l.length) (h : n ≤ l.length - p) : cutE l p n = 0 ∧ cutL l p n = (l.drop p.toNat).take n.toNat ∧ cutN l p n = p + n := by
  have e : cutE l p n = 0 := by rw [cutE, if_neg (by omega), if_neg (by omega)]
  exact ⟨e, by rw [cutL, if_pos e], by rw [cutN, if_pos e]⟩
theorem byt_cut {l : List Int} (h : Byt l) (p n : Int) : Byt (cutL l p n) := by
  unfold cutL
  split
  · exact byt_take (byt_drop h _) _
  · intro x hx; cases hx

theorem cutE_inv {l : List Int} {p W : Int} (h : cutE l p W = 0) : 0 ≤ p ∧ p ≤ l.length ∧ W ≤ l.length - p := by
  by_cases h1 : p < 0 ∨ l.length < p
  · rw [(cut_arg h1).1] at h; simp at h
  · by_cases h2 : l.length - p < W
    · rw [(cut_short (by omega) (by omega) h2).1] at h; simp at h
    · omega
end Go.Proofs.Ytkifapnmojfjoaa
namespace Go.Proofs.Ytkifapnmojfjoaa
open Go.RowKit

theorem or_nat (x b : Nat) (hb : b < 256) : x * 256 ||| b = x * 256 + b := by
  have h := Nat.two_pow_add_eq_or_of_lt (i := 8) (b := b) (by omega) x
  rw [show (2 : Nat) ^ 8 = 256 from rfl, Nat.mul_comm] at h
  exact h.symm
theorem cast_join (n m : Nat) : ((n * 256 + m : Nat) : Int) = m + 256 * n := by omega
theorem or_u64 {x b : Int} (hx0 : 0 ≤ x) (hx1 : x < 72057594037927936) (hb : 0 ≤ b ∧ b < 256) : bits .or .u64 (x * 256) b = b + 256 * x := by
  obtain ⟨n, rfl⟩ : ∃ n : Nat, x = n := ⟨x.toNat, by omega⟩
  obtain ⟨m, rfl⟩ : ∃ m : Nat, b = m := ⟨b.toNat, by omega⟩
  have h := bits_or_u64_nat (n * 256) m (by omega) (by omega)
  rw [or_nat n m (by omega)] at h
  have e : ((n * 256 : Nat) : Int) = (n : Int) * 256 := by omega
  simp only [e] at h
  exact h.trans (cast_join n m)
theorem or_i64 {y b : Int} (hb : 0 ≤ b ∧ b < 256) : bits .or .i64 (wrap64 (y * 256)) b = wrap64 (y * 256 + b) := by
  obtain ⟨m, rfl⟩ : ∃ m : Nat, b = m := ⟨b.toNat, by omega⟩
  show IntKind.i64.wrap ((BitVec.ofInt 64 (wrap64 (y * 256)) ||| BitVec.ofInt 64 (m : Int)).toNat : Int) = _
  have e1 : (BitVec.ofInt 64 (wrap64 (y * 256))).toNat = (y % 72057594037927936).toNat * 256 := by
    rw [BitVec.toNat_ofInt]
    unfold wrap64
    have : ((2 ^ 64 : Nat) : Int) = 18446744073709551616 := by decide
    rw [this]
    omega
  have e2 : (BitVec.ofInt 64 (m : Int)).toNat = m := by
    rw [BitVec.ofInt_natCast, BitVec.toNat_ofNat]; exact Nat.mod_eq_of_lt (by omega)
  rw [BitVec.toNat_or, e1, e2, or_nat _ _ (by omega), IntKind.wrap_i64]
  unfold wrap64
  omega

theorem wrap_join (z b : Int) : wrap64 (wrap64 z * 256 + b) = wrap64 (b + 256 * z) := by unfold wrap64; omega

end Go.Proofs.Ytkifapnmojfjoaa
namespace Go.Proofs.Ytkifapnmojfjoaa
open Go.RowKit

end Go.Proofs.Ytkifapnmojfjoaa
namespace Go.Proofs.Ytkifapnmojfjoaa
open Go.RowKit

/-- Get's error, number and next. -/
def getE (l : List Int) (p W : Int) : Int := if W < 1 ∨ 8 < W then 2 else if cutE l p W = 0 then (if 9223372036854775807 < num (cutL l p W) then 11 else 0) else cutE l p W
def getV (l : List Int) (p W : Int) : Int := if getE l p W = 0 then num (cutL l p W) else 0
def getN (l : List Int) (p W : Int) : Int := if getE l p W = 0 then p + W else 0

/-- The world with Get's three results. -/
def three (w : World) (T : Nat) (v1 v2 v3 : Value) : World := ((w.alloc (.cells #[v1] T)).alloc (.cells #[v2] 3)).alloc (.cells #[v3] 26)
theorem three_1 (w : World) (T : Nat) (v1 v2 v3 : Value) : (three w T v1 v2 v3).cell? ⟨w.heap.size, 0, none⟩ = some v1 := by simp [three, go_sem]
theorem three_2 (w : World) (T : Nat) (v1 v2 v3 : Value) : (three w T v1 v2 v3).cell? ⟨w.heap.size + 1, 0, none⟩ = some v2 := by simp [three, go_sem]
theorem three_3 (w : World) (T : Nat) (v1 v2 v3 : Value) : (three w T v1 v2 v3).cell? ⟨w.heap.size + 1 + 1, 0, none⟩ = some v3 := by simp [three, go_sem]
theorem three_f1 (w : World) (T : Nat) (v1 v2 v3 : Value) : (three w T v1 v2 v3).frozen? ⟨w.heap.size, 0, none⟩ = false := by simp [three, go_sem]
theorem three_f2 (w : World) (T : Nat) (v1 v2 v3 : Value) : (three w T v1 v2 v3).frozen? ⟨w.heap.size + 1, 0, none⟩ = false := by simp [three, go_sem]
theorem three_set1 (w : World) (T : Nat) (v1 v2 v3 u : Value) : (three w T v1 v2 v3).setCell ⟨w.heap.size, 0, none⟩ u = three w T u v2 v3 := by simp [three, go_sem]
theorem three_set2 (w : World) (T : Nat) (v1 v2 v3 u : Value) : (three w T v1 v2 v3).setCell ⟨w.heap.size + 1, 0, none⟩ u = three w T v1 u v3 := by simp [three, go_sem]
theorem three_below (w : World) (T : Nat) (v1 v2 v3 : Value) : Below w.heap.size w (three w T v1 v2 v3) := by unfold three; go_grown

theorem cutL_le (l : List Int) (p W : Int) (k : Nat) (h : W ≤ k) : (cutL l p W).length ≤ k := by
  unfold cutL
  split
  · simp; omega
  · simp
theorem get_bad {l : List Int} {p W : Int} (h : W < 1 ∨ 8 < W) : getE l p W = 2 := by rw [getE, if_pos h]
theorem get_eq {l : List Int} {p W : Int} (h : 1 ≤ W ∧ W ≤ 8) : getE l p W = if cutE l p W = 0 then (if 9223372036854775807 < num (cutL l p W) then 11 else 0) else cutE l p W := by rw [getE, if_neg (by omega)]
theorem get_big {l : List Int} {p W : Int} (h : 1 ≤ W ∧ W ≤ 8) (hb : 9223372036854775807 < num (cutL l p W)) : getE l p W = 11 := by
  rw [get_eq h]
  by_cases h0 : cutE l p W = 0
  · rw [if_pos h0, if_pos hb]
  · rw [cutL, if_neg h0] at hb
    simp [num] at hb
theorem get_small {l : List Int} {p W : Int} (h : 1 ≤ W ∧ W ≤ 8) (hb : num (cutL l p W) ≤ 9223372036854775807) : getE l p W = cutE l p W := by
  rw [get_eq h, if_neg (Int.not_lt.2 hb)]
  split
  · rename_i h0; exact h0.symm
  · rfl

theorem get_short {l : List Int} {p W : Int} (h : 1 ≤ W ∧ W ≤ 8) (h0 : 0 ≤ p) (h1 : p ≤ l.length) (h2 : l.length - p < W) : getE l p W = 10 := by
  have e := (cut_short h0 h1 h2).1
  rw [get_eq h, e]
  rfl
theorem get_ok {l : List Int} {p W : Int} (h : 1 ≤ W ∧ W ≤ 8) (h0 : 0 ≤ p) (h1 : p ≤ l.length) (h2 : W ≤ l.length - p) (hb : num ((l.drop p.toNat).take W.toNat) ≤ 9223372036854775807) :
    getE l p W = 0 ∧ getV l p W = num ((l.drop p.toNat).take W.toNat) ∧ getN l p W = p + W := by
  obtain ⟨e1, e2, _⟩ := cut_yes h0 h1 h2
  have e : getE l p W = 0 := by rw [get_eq h, if_pos e1, e2, if_neg (by omega)]
  exact ⟨e, by rw [getV, if_pos e, e2], by rw [getN, if_pos e]⟩
end Go.Proofs.Ytkifapnmojfjoaa
namespace Go.Proofs.Ytkifapnmojfjoaa
open Go.RowKit

/-- GetSigned's number. -/
def sigV (l : List Int) (p : Int) : Int := wrap64 (num (cutL l p 8))

end Go.Proofs.Ytkifapnmojfjoaa
