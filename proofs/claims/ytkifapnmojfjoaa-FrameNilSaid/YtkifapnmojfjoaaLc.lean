/-
  Flt, Gauss: in one text.
-/
import Derived.Laws.ComplexArith
import Derived.Test.YtkifapnmojfjoaaChecked
import Derived.WalkKit
import Derived.Below
import Derived.Handy
import Derived.Lib.Hide
import Derived.Deep.QuietTactic
import Derived.BigQuiet
import Derived.Deep.DeepCutAuto
import Derived.Deep.RegionHeld3
import Derived.WalkSpells
import Derived.WalkLawsBesides
import Derived.Deep.RegionWith
namespace Go.Proofs.Ytkifapnmojfjoaa
open Ieee

/-- A datum that stands for the whole number n (a zero of either sign). -/
def DV (d : Datum) (n : Int) : Prop := ∃ (s : Bool) (q : Nat), d = .number s (n.natAbs * 2 ^ q) (-(q : Int)) ∧ (n < 0 → s = true) ∧ (0 < n → s = false)
/-- A word that stands for the whole number n. -/
def FR (x : Nat) (n : Int) : Prop := DV (double.read x) n

theorem cut_exact (way : Toward) (neg : Bool) (k drop : Nat) (h : drop ≤ (k * 2 ^ drop).log2 + 2) : way.cut neg (k * 2 ^ drop) drop = k := by
  have h0 : 0 < 2 ^ drop := Nat.two_pow_pos _
  unfold Toward.cut
  rw [Nat.min_eq_left h, Nat.one_shiftLeft]
  simp only [Nat.mul_div_cancel _ h0, Nat.mul_mod_left]
  cases way <;> simp
theorem log2_mul_pow (k q : Nat) (hk : 0 < k) : (k * 2 ^ q).log2 = k.log2 + q := by
  have h0 : 0 < 2 ^ q := Nat.two_pow_pos _
  have hne : k * 2 ^ q ≠ 0 := Nat.ne_of_gt (Nat.mul_pos hk h0)
  have h1 : 2 ^ k.log2 ≤ k := (Nat.le_log2 (Nat.ne_of_gt hk)).1 (Nat.le_refl _)
  have h2 : k < 2 ^ (k.log2 + 1) := (Nat.log2_lt (Nat.ne_of_gt hk)).1 (Nat.lt_succ_self _)
  have a1 : k.log2 + q ≤ (k * 2 ^ q).log2 := (Nat.le_log2 hne).2 (by rw [Nat.pow_add]; exact Nat.mul_le_mul_right _ h1)
  have a2 : (k * 2 ^ q).log2 < k.log2 + q + 1 := (Nat.log2_lt hne).2 (by
    rw [show k.log2 + q + 1 = (k.log2 + 1) + q by omega, Nat.pow_add]; exact Nat.mul_lt_mul_of_pos_right h2 h0)
  omega

theorem least_double : double.leastPlace = -1074 := by decide
theorem binade_double : double.binade = 4503599627370496 := by decide
theorem inf_double : double.infRung = 2047 * 4503599627370496 := by decide
theorem sign_double : double.signWeight = 9223372036854775808 := by decide

theorem read_word (neg : Bool) (L K : Nat) (hL : L ≤ 52) (h1 : 4503599627370496 ≤ K) (h2 : K < 9007199254740992) :
    double.read (double.word neg (min ((L + 1022) * double.binade + K) double.infRung)) = .number neg K (-((52 - L : Nat) : Int)) := by
  rw [binade_double, inf_double, Nat.min_eq_left (by omega)]
  unfold Format.read Format.word
  rw [binade_double, inf_double, sign_double, least_double]
  cases neg
  · simp only [Bool.false_eq_true, if_false]
    rw [show ((L + 1022) * 4503599627370496 + K) / 9223372036854775808 % 2 = 0 by omega,
      show ((L + 1022) * 4503599627370496 + K) % 9223372036854775808 = (L + 1022) * 4503599627370496 + K by omega]
    rw [if_neg (by omega), if_pos (by omega)]
    rw [show 4503599627370496 + ((L + 1022) * 4503599627370496 + K) % 4503599627370496 = K by omega,
      show ((L + 1022) * 4503599627370496 + K) / 4503599627370496 - 1 = L + 1022 by omega]
    rw [show (-1074 + ((L + 1022 : Nat) : Int)) = -((52 - L : Nat) : Int) by omega]
    rfl
  · simp only [if_true]
    rw [show (9223372036854775808 + ((L + 1022) * 4503599627370496 + K)) / 9223372036854775808 % 2 = 1 by omega,
      show (9223372036854775808 + ((L + 1022) * 4503599627370496 + K)) % 9223372036854775808 = (L + 1022) * 4503599627370496 + K by omega]
    rw [if_neg (by omega), if_pos (by omega)]
    rw [show 4503599627370496 + ((L + 1022) * 4503599627370496 + K) % 4503599627370496 = K by omega,
      show ((L + 1022) * 4503599627370496 + K) / 4503599627370496 - 1 = L + 1022 by omega]
    rw [show (-1074 + ((L + 1022 : Nat) : Int)) = -((52 - L : Nat) : Int) by omega]
    rfl

theorem read_nearest (neg : Bool) (k q : Nat) (hk : 0 < k) (h : k < 2 ^ 53) :
    ∃ q' : Nat, double.read (double.nearest neg (k * 2 ^ q) (-(q : Int))) = .number neg (k * 2 ^ q') (-(q' : Int)) := by
  have hlg := log2_mul_pow k q hk
  have hne : k * 2 ^ q ≠ 0 := Nat.ne_of_gt (Nat.mul_pos hk (Nat.two_pow_pos _))
  have h1 : 2 ^ k.log2 ≤ k := (Nat.le_log2 (Nat.ne_of_gt hk)).1 (Nat.le_refl _)
  have h2 : k < 2 ^ (k.log2 + 1) := (Nat.log2_lt (Nat.ne_of_gt hk)).1 (Nat.lt_succ_self _)
  have hL : k.log2 < 53 := (Nat.log2_lt (Nat.ne_of_gt hk)).2 h
  revert hlg h1 h2 hL
  generalize k.log2 = L
  intro hlg h1 h2 hL
  have e52 : 2 ^ L * 2 ^ (52 - L) = 4503599627370496 := by rw [← Nat.pow_add, show L + (52 - L) = 52 by omega]
  have e53 : 2 ^ (L + 1) * 2 ^ (52 - L) = 9007199254740992 := by rw [← Nat.pow_add, show L + 1 + (52 - L) = 53 by omega]
  have hp : 0 < 2 ^ (52 - L) := Nat.two_pow_pos _
  have b1 : 4503599627370496 ≤ k * 2 ^ (52 - L) := by rw [← e52]; exact Nat.mul_le_mul_right _ h1
  have b2 : k * 2 ^ (52 - L) < 9007199254740992 := by rw [← e53]; exact Nat.mul_lt_mul_of_pos_right h2 hp
  refine ⟨52 - L, ?_⟩
  unfold Format.nearest
  rw [if_neg hne, hlg]
  have hlast : max (-(q : Int) + ((L + q : Nat) : Int) - (double.fractionBits : Int)) double.leastPlace = (L : Int) - 52 := by
    rw [least_double, show double.fractionBits = 52 from rfl]; omega
  simp only [hlast]
  have hrung : ((L : Int) - 52 - double.leastPlace).toNat = L + 1022 := by rw [least_double]; omega
  rw [hrung]
  have hkept : Toward.even.cut neg ((k * 2 ^ q) <<< (-(q : Int) - ((L : Int) - 52)).toNat) ((L : Int) - 52 - -(q : Int)).toNat = k * 2 ^ (52 - L) := by
    by_cases hq : q ≤ 52 - L
    · rw [show (-(q : Int) - ((L : Int) - 52)).toNat = 52 - L - q by omega, show ((L : Int) - 52 - -(q : Int)).toNat = 0 by omega, Nat.shiftLeft_eq, Nat.mul_assoc, ← Nat.pow_add, show q + (52 - L - q) = 52 - L by omega]
      have := cut_exact .even neg (k * 2 ^ (52 - L)) 0 (Nat.zero_le _)
      simpa using this
    · rw [show (-(q : Int) - ((L : Int) - 52)).toNat = 0 by omega, show ((L : Int) - 52 - -(q : Int)).toNat = q - (52 - L) by omega, Nat.shiftLeft_zero]
      have e : k * 2 ^ q = (k * 2 ^ (52 - L)) * 2 ^ (q - (52 - L)) := by rw [Nat.mul_assoc, ← Nat.pow_add, show 52 - L + (q - (52 - L)) = q by omega]
      rw [e]
      refine cut_exact .even neg _ _ ?_
      rw [← e, hlg]; omega
  rw [hkept]
  exact read_word neg L _ (by omega) b1 b2

theorem read_zero (neg : Bool) (p : Int) : ∃ q : Nat, double.read (double.nearest neg 0 p) = .number neg 0 (-(q : Int)) := by
  refine ⟨1074, ?_⟩
  unfold Format.nearest
  rw [if_pos rfl]
  unfold Format.read Format.word
  rw [binade_double, inf_double, sign_double, least_double]
  cases neg <;> rfl

/-- Writing a datum that stands for n, below 2^53, gives a word that stands for n. -/
theorem FR.write {d : Datum} {n : Int} (h : DV d n) (hn : n.natAbs < 2 ^ 53) : FR (double.write d) n := by
  obtain ⟨s, q, rfl, h1, h2⟩ := h
  by_cases h0 : n = 0
  · subst h0
    obtain ⟨q', e⟩ := read_zero s (-(q : Int))
    refine ⟨s, q', ?_, by omega, by omega⟩
    simpa [Format.write] using e
  · obtain ⟨q', e⟩ := read_nearest s n.natAbs q (by omega) hn
    exact ⟨s, q', e, h1, h2⟩
theorem DV.of (n : Int) : DV (.number (n < 0) n.natAbs 0) n := by
  refine ⟨decide (n < 0), 0, ?_, fun h => by simp [h], fun h => by simp; omega⟩
  simp
theorem FR.of (n : Int) (hn : n.natAbs < 2 ^ 53) : FR (floatOfInt .f64 n) n := FR.write (DV.of n) hn
theorem DV.opposite {d : Datum} {n : Int} (h : DV d n) : DV d.opposite (-n) := by
  obtain ⟨s, q, rfl, h1, h2⟩ := h
  refine ⟨!s, q, by simp [Datum.opposite], fun h => ?_, fun h => ?_⟩
  · rw [h2 (by omega)]; rfl
  · rw [h1 (by omega)]; rfl
theorem DV.product {d e : Datum} {m n : Int} (h : DV d m) (g : DV e n) : ∃ r, d.product e = some r ∧ DV r (m * n) := by
  obtain ⟨s, q, rfl, h1, h2⟩ := h
  obtain ⟨t, p, rfl, g1, g2⟩ := g
  refine ⟨_, rfl, s ^^ t, q + p, ?_, fun h => ?_, fun h => ?_⟩
  · rw [Int.natAbs_mul, Nat.pow_add, show m.natAbs * 2 ^ q * (n.natAbs * 2 ^ p) = m.natAbs * n.natAbs * (2 ^ q * 2 ^ p) by
      rw [Nat.mul_assoc, Nat.mul_assoc, ← Nat.mul_assoc (2 ^ q), Nat.mul_comm (2 ^ q) n.natAbs, Nat.mul_assoc]]
    congr 1; omega
  · rcases Int.lt_trichotomy m 0 with hm | hm | hm
    · rcases Int.lt_trichotomy n 0 with hn | hn | hn
      · exact absurd (Int.mul_pos_of_neg_of_neg hm hn) (by omega)
      · subst hn; simp at h
      · rw [h1 hm, g2 hn]; rfl
    · subst hm; simp at h
    · rcases Int.lt_trichotomy n 0 with hn | hn | hn
      · rw [h2 hm, g1 hn]; rfl
      · subst hn; simp at h
      · exact absurd (Int.mul_pos hm hn) (by omega)
  · rcases Int.lt_trichotomy m 0 with hm | hm | hm
    · rcases Int.lt_trichotomy n 0 with hn | hn | hn
      · rw [h1 hm, g1 hn]; rfl
      · subst hn; simp at h
      · exact absurd (Int.mul_neg_of_neg_of_pos hm hn) (by omega)
    · subst hm; simp at h
    · rcases Int.lt_trichotomy n 0 with hn | hn | hn
      · exact absurd (Int.mul_neg_of_pos_of_neg hm hn) (by omega)
      · subst hn; simp at h
      · rw [h2 hm, g2 hn]; rfl
theorem signed_of {s : Bool} {n : Int} (q u : Nat) (h1 : n < 0 → s = true) (h2 : 0 < n → s = false) : signed s (n.natAbs * 2 ^ q) u = n * 2 ^ (q + u) := by
  have hc : ((n.natAbs * 2 ^ q * 2 ^ u : Nat) : Int) = (n.natAbs : Int) * 2 ^ (q + u) := by
    rw [Nat.mul_assoc, ← Nat.pow_add]; simp
  unfold signed
  rw [Nat.shiftLeft_eq, hc]
  rcases Int.lt_trichotomy n 0 with hn | hn | hn
  · rw [h1 hn, if_pos rfl, show (n.natAbs : Int) = -n by omega, Int.neg_mul, Int.neg_neg]
  · subst hn; cases s <;> simp
  · rw [h2 hn]
    simp only [Bool.false_eq_true, if_false]
    rw [show (n.natAbs : Int) = n by omega]
theorem DV.sum {d e : Datum} {m n : Int} (h : DV d m) (g : DV e n) : ∃ r, d.sum e = some r ∧ DV r (m + n) := by
  obtain ⟨s, q, rfl, h1, h2⟩ := h
  obtain ⟨t, p, rfl, g1, g2⟩ := g
  have hb : min (-(q : Int)) (-(p : Int)) = -((max q p : Nat) : Int) := by omega
  have e1 : q + (-(q : Int) - -((max q p : Nat) : Int)).toNat = max q p := by omega
  have e2 : p + (-(p : Int) - -((max q p : Nat) : Int)).toNat = max q p := by omega
  have hpos : (0 : Int) < 2 ^ max q p := Int.pow_pos (by decide)
  have htot : signed s (m.natAbs * 2 ^ q) (-(q : Int) - -((max q p : Nat) : Int)).toNat + signed t (n.natAbs * 2 ^ p) (-(p : Int) - -((max q p : Nat) : Int)).toNat = (m + n) * 2 ^ max q p := by
    rw [signed_of _ _ h1 h2, signed_of _ _ g1 g2, e1, e2, Int.add_mul]
  refine ⟨.number (if (m + n) * 2 ^ max q p = 0 then s && t else decide ((m + n) * 2 ^ max q p < 0)) ((m + n) * 2 ^ max q p).natAbs (-((max q p : Nat) : Int)), ?_, (if (m + n) * 2 ^ max q p = 0 then s && t else decide ((m + n) * 2 ^ max q p < 0)), max q p, ?_, fun h => ?_, fun h => ?_⟩
  · unfold Datum.sum
    simp only [hb, htot]
  · congr 1
    rw [Int.natAbs_mul, Int.natAbs_pow]; rfl
  · have := Int.mul_neg_of_neg_of_pos h hpos
    rw [if_neg (by omega)]; simpa using this
  · have := Int.mul_pos h hpos
    rw [if_neg (by omega)]; simp; omega

theorem FR.mul {x y : Nat} {m n : Int} (h : FR x m) (g : FR y n) (hn : (m * n).natAbs < 2 ^ 53) : ∃ r, floatBits .mul .f64 x y = some r ∧ FR r (m * n) := by
  obtain ⟨d, e, hd⟩ := DV.product h g
  refine ⟨double.write d, ?_, FR.write hd hn⟩
  show ((double.read x).product (double.read y)).map double.write = _
  rw [e]; rfl
theorem FR.add {x y : Nat} {m n : Int} (h : FR x m) (g : FR y n) (hn : (m + n).natAbs < 2 ^ 53) : ∃ r, floatBits .add .f64 x y = some r ∧ FR r (m + n) := by
  obtain ⟨d, e, hd⟩ := DV.sum h g
  refine ⟨double.write d, ?_, FR.write hd hn⟩
  show ((double.read x).sum (double.read y)).map double.write = _
  rw [e]; rfl
theorem FR.sub {x y : Nat} {m n : Int} (h : FR x m) (g : FR y n) (hn : (m - n).natAbs < 2 ^ 53) : ∃ r, floatBits .sub .f64 x y = some r ∧ FR r (m - n) := by
  obtain ⟨d, e, hd⟩ := DV.sum h (DV.opposite g)
  refine ⟨double.write d, ?_, FR.write hd hn⟩
  show ((double.read x).sum (double.read y).opposite).map double.write = _
  rw [e]; rfl
theorem FR.int {x : Nat} {n : Int} (h : FR x n) (h1 : -9223372036854775808 ≤ n) (h2 : n ≤ 9223372036854775807) : floatToIntVal .f64 x .i64 = some n := by
  obtain ⟨s, q, e, s1, s2⟩ := h
  have ht : (FloatKind.f64.decode x).toInt .zero = some n := by
    show (double.read x).toInt .zero = some n
    rw [e]
    have hc : Toward.zero.cut s (n.natAbs * 2 ^ q) q = n.natAbs := by
      by_cases h0 : n = 0
      · subst h0; simp [Toward.cut]
      · exact cut_exact .zero s _ _ (by rw [log2_mul_pow _ _ (by omega)]; omega)
    have := signed_of 0 0 s1 s2
    simp at this
    simp [Datum.toInt, Datum.integral, hc, this]
  unfold floatToIntVal
  rw [ht]
  have hb : IntKind.i64.min ≤ n ∧ n ≤ IntKind.i64.max := ⟨h1, h2⟩
  exact if_pos hb

/-- The product of two complex numbers of whole parts. -/
theorem FR.cmul {x y z u : Nat} {a b c d : Int} (hx : FR x a) (hy : FR y b) (hz : FR z c) (hu : FR u d)
    (h1 : (a * c).natAbs < 2 ^ 52) (h2 : (b * d).natAbs < 2 ^ 52) (h3 : (a * d).natAbs < 2 ^ 52) (h4 : (b * c).natAbs < 2 ^ 52) :
    ∃ re im, cMulBits x y z u = some (re, im) ∧ FR re (a * c - b * d) ∧ FR im (a * d + b * c) := by
  obtain ⟨ac, e1, f1⟩ := FR.mul hx hz (by omega)
  obtain ⟨bd, e2, f2⟩ := FR.mul hy hu (by omega)
  obtain ⟨re, e3, f3⟩ := FR.sub f1 f2 (by omega)
  obtain ⟨ad, e4, f4⟩ := FR.mul hx hu (by omega)
  obtain ⟨bc, e5, f5⟩ := FR.mul hy hz (by omega)
  obtain ⟨im, e6, f6⟩ := FR.add f4 f5 (by omega)
  refine ⟨re, im, ?_, f3, f6⟩
  unfold cMulBits
  simp [e1, e2, e3, e4, e5, e6]
end Go.Proofs.Ytkifapnmojfjoaa
namespace Go.Proofs.Ytkifapnmojfjoaa
open Go.RowKit

theorem bcell {W w1 : World} (hb : Below W.heap.size W w1) : (∀ b o, b < W.heap.size → w1.cell? ⟨b, o, none⟩ = W.cell? ⟨b, o, none⟩) ∧ (∀ b o, b < W.heap.size → w1.frozen? ⟨b, o, none⟩ = W.frozen? ⟨b, o, none⟩) :=
  ⟨fun b o h => hb.cell (p := ⟨b, o, none⟩) h, fun b o h => hb.frozen (p := ⟨b, o, none⟩) h⟩
theorem below1 {w w1 : World} {a : Obj} (h : Below (w.alloc a).heap.size (w.alloc a) w1) : Below w.heap.size w w1 := ((Below.refl _ _).alloc (Nat.le_refl _) _).trans (h.mono (by simp))
theorem below2 {w w1 : World} {a b : Obj} (h : Below ((w.alloc a).alloc b).heap.size ((w.alloc a).alloc b) w1) : Below w.heap.size w w1 := below1 (below1 h)
theorem below3 {w w1 : World} {a b c : Obj} (h : Below (((w.alloc a).alloc b).alloc c).heap.size (((w.alloc a).alloc b).alloc c) w1) : Below w.heap.size w w1 := below2 (below1 h)
theorem below_set2 {B : Nat} {w w1 : World} {p q : Addr} (h : Below B w w1) (hp : B ≤ p.block) (hq : B ≤ q.block) (x y : Value) : Below B w ((w1.setCell p x).setCell q y) := (h.setCell hp _).setCell hq _
theorem new1 {w : World} {a : Obj} : Below w.heap.size w (w.alloc a) := below1 (Below.refl _ _)
theorem new3 {w : World} {a b c : Obj} : Below w.heap.size w (((w.alloc a).alloc b).alloc c) := below3 (Below.refl _ _)
theorem below_drew {w w1 : World} (h : Below w.drew.heap.size w.drew w1) : Below w.heap.size w w1 := ⟨h.os, h.tape, h.output, h.size, h.block⟩
/-- From a world that a call began in to one behind a further call. -/
theorem below_on {w w1 w2 : World} (h : Below w.heap.size w w1) (g : Below w1.heap.size w1 w2) : Below w.heap.size w w2 := h.trans (g.mono h.size)
def partB (n : Int) : Bool := decide (-1048576 ≤ n) && decide (n ≤ 1048576)
def okB (a b : Int) : Bool := partB a && partB b
theorem partB_iff {n : Int} : partB n = true ↔ -1048576 ≤ n ∧ n ≤ 1048576 := by simp [partB]
theorem okB_iff {a b : Int} : okB a b = true ↔ (-1048576 ≤ a ∧ a ≤ 1048576) ∧ -1048576 ≤ b ∧ b ≤ 1048576 := by simp [okB, partB]
def gX (g : Bool) (x : Int) : Int := if g then x else 0

theorem natAbs_le {a b : Int} (h : -1048576 ≤ a ∧ a ≤ 1048576) (g : -1048576 ≤ b ∧ b ≤ 1048576) : (a * b).natAbs ≤ 1099511627776 := by
  rw [Int.natAbs_mul, show (1099511627776 : Nat) = 1048576 * 1048576 from rfl]
  exact Nat.mul_le_mul (by omega) (by omega)
/-- The product, as the closure works it out. -/
theorem cmul_facts {a b c d : Int} (h : okB a b = true) (g : okB c d = true) : ∃ re im, cMulBits (floatOfInt .f64 a) (floatOfInt .f64 b) (floatOfInt .f64 c) (floatOfInt .f64 d) = some (re, im) ∧
    floatToIntVal .f64 re .i64 = some (a * c - b * d) ∧ floatToIntVal .f64 im .i64 = some (a * d + b * c) := by
  obtain ⟨ha, hb⟩ := okB_iff.1 h
  obtain ⟨hc, hd⟩ := okB_iff.1 g
  have e1 := natAbs_le ha hc
  have e2 := natAbs_le hb hd
  have e3 := natAbs_le ha hd
  have e4 := natAbs_le hb hc
  obtain ⟨re, im, e, f1, f2⟩ := FR.cmul (FR.of a (by omega)) (FR.of b (by omega)) (FR.of c (by omega)) (FR.of d (by omega)) (by omega) (by omega) (by omega) (by omega)
  exact ⟨re, im, e, FR.int f1 (by omega) (by omega), FR.int f2 (by omega) (by omega)⟩
end Go.Proofs.Ytkifapnmojfjoaa
