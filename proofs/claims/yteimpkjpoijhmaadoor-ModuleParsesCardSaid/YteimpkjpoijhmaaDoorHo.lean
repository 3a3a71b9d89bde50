/-
  Layer 7, package method: what its reader's kinds answers.
-/
import Derived.Test.YteimpkjpoijhmaaDoorHn
import Derived.OwnWalk
import Derived.Laws.OwnMore
namespace Go.Proofs.YteimpkjpoijhmaaDoor
open Go.RowKit
set_option maxRecDepth 100000
set_option linter.unusedSimpArgs false
set_option linter.unusedVariables false

/-- The listed fields, as the program's text lays them. -/
def GM (w : World) : Prop := T3 w 1 1 1 3 ∧ T3 w 2 1 1 2 ∧ T3 w 3 1 0 1 ∧ T3 w 4 3 0 1048576 ∧ T3 w 5 2 0 256 ∧ T3 w 6 2 0 1024
theorem GM.keep {w w' : World} (h : GM w) (hb : Below w.heap.size w w') : GM w' := ⟨h.1.keep hb, h.2.1.keep hb, h.2.2.1.keep hb, h.2.2.2.1.keep hb, h.2.2.2.2.1.keep hb, h.2.2.2.2.2.keep hb⟩
abbrev fGM : Fct := ⟨GM, fun _ _ h hb => h.keep hb⟩
theorem T3.grown {w w' : World} {B R : Nat} {x y z : Int} (h : T3 w B x y z) (hg : w.grownBy w' (some R)) (hne : B ≠ R) : T3 w' B x y z :=
  ⟨Nat.lt_of_lt_of_le h.1 hg.size, hg.cell h.2.1 (by simpa using hne), hg.cell h.2.2.1 (by simpa using hne), hg.cell h.2.2.2 (by simpa using hne)⟩
/-- The block is none of theirs. -/
def gN (R : Nat) : Prop := 1 ≠ R ∧ 2 ≠ R ∧ 3 ≠ R ∧ 4 ≠ R ∧ 5 ≠ R ∧ 6 ≠ R
theorem GM.grown {w w' : World} {R : Nat} (h : GM w) (hg : w.grownBy w' (some R)) (hn : gN R) : GM w' :=
  ⟨h.1.grown hg hn.1, h.2.1.grown hg hn.2.1, h.2.2.1.grown hg hn.2.2.1, h.2.2.2.1.grown hg hn.2.2.2.1, h.2.2.2.2.1.grown hg hn.2.2.2.2.1, h.2.2.2.2.2.grown hg hn.2.2.2.2.2⟩
theorem GM.lt {w : World} {R : Nat} (h : GM w) (hR : w.heap.size ≤ R) : gN R := by
  have h1 := h.1.1
  have h2 := h.2.1.1
  have h3 := h.2.2.1.1
  have h4 := h.2.2.2.1.1
  have h5 := h.2.2.2.2.1.1
  have h6 := h.2.2.2.2.2.1
  refine ⟨?_, ?_, ?_, ?_, ?_, ?_⟩ <;> omega
theorem T3.other {w : World} {B : Nat} {x y z : Int} (h : T3 w B x y z) {p : Addr} (hp : B ≠ p.block) (v : Value) : T3 (w.setCell p v) B x y z := by
  obtain ⟨h0, h1, h2, h3⟩ := h
  have ne : ∀ i, p ≠ (⟨B, i, none⟩ : Addr) := fun i e => hp (by rw [e])
  refine ⟨by simpa using h0, ?_, ?_, ?_⟩ <;> (rw [World.cell?_setCell_other _ _ _ _ (ne _)]; assumption)
theorem GM.set {w : World} (h : GM w) {p : Addr} (hn : gN p.block) (v : Value) : GM (w.setCell p v) :=
  ⟨h.1.other hn.1 v, h.2.1.other hn.2.1 v, h.2.2.1.other hn.2.2.1 v, h.2.2.2.1.other hn.2.2.2.1 v, h.2.2.2.2.1.other hn.2.2.2.2.1 v, h.2.2.2.2.2.other hn.2.2.2.2.2 v⟩
theorem rd_lt {w : World} {A : Option Addr} {c : Nat} {l : List Int} (hr : Rd w A c l) {ad : Addr} (ha : A = some ad) (h0 : 0 < l.length) : ad.block < w.heap.size := by
  obtain ⟨ad', e', hc⟩ := hr.at_ (i := 0) h0
  obtain rfl : ad = ad' := by rw [ha] at e'; simpa using e'
  have := cell_lt hc
  have hb : (ad.add 0).block = ad.block := by unfold Addr.add; split <;> rfl
  omega
theorem rN_bd {l : List Int} {W lo hi : Int} {s : Int × Int} (h0 : 0 ≤ lo) : 0 ≤ (rN l W lo hi s).1 ∧ ((rN l W lo hi s).1 ≤ hi ∨ (rN l W lo hi s).1 = 0) := by
  unfold rN
  split
  · split
    · rename_i h
      unfold nE at h
      split at h
      · split at h
        · rename_i hx
          exact ⟨by dsimp only; omega, .inl hx.2⟩
        · exact absurd h (by decide)
      · rename_i h1; exact absurd h h1
    · exact ⟨by simp, .inr rfl⟩
  · exact ⟨by simp, .inr rfl⟩
theorem cel_put {xs : List Value} {K : List Int} {j : Nat} (hj : K.length = j) (hx : xs.take j = cel K) (hl : j < xs.length) (y : Int) : (xs.set j (.int .u8 y)).take (j + 1) = cel (K ++ [y]) := by
  rw [List.take_set, List.take_add_one, List.getElem?_eq_getElem hl, hx, cel_append]
  have h3 : (cel K).length = j := by rw [length_cel, hj]
  rw [List.set_append_right _ _ (by omega), h3, Nat.sub_self]
  rfl
set_option maxHeartbeats 4000000 in
theorem kinds7_v (B : Nat) (A : Option Addr) (c n : Nat) (l : List Int) (hi p e : Int) (K0 : List Int) (p' e' : Int) (w : World) (hr : Rd w A c l) (hn : l.length = n) (h : R3 w B A c n p e) (hw : GM w) (hB : gN B) (hA : ∀ ad, A = some ad → 0 < l.length → some ad.block ≠ some B) (hhi : hi ≤ 100)
    (hR : rK l hi (p, e) = (K0, p', e')) : Calls Tryd.prog 117 #[.pointer (some ⟨B, 0, none⟩), fv 1 0 hi] w fun x w' => ∃ A' c', x = .returned (.slice A' K0.length c') ∧ w'.ownsRow w.heap.size 5 1 (.slice A' K0.length c') K0.length (cel K0) ∧ Byt K0 ∧ w.grownBy w' (some B) ∧ R3 w' B A c n p' e' := by
  have hbl := h.1
  have H0 := Lib.hid (And.intro (hr.alloc (.cells #[.int .i64 1, .int .i64 0, .int .i64 hi] 95)) (And.intro (h.keep (new1 (a := .cells #[.int .i64 1, .int .i64 0, .int .i64 hi] 95))) (hw.keep (new1 (a := .cells #[.int .i64 1, .int .i64 0, .int .i64 hi] 95)))))
  have HGB := Lib.hid hB
  have HG2 : Hid (∀ g, w.heap.size ≤ g → gN g) := fun g hg => hw.lt hg
  have HA2 : Hid (∀ ad, A = some ad → 0 < l.length → ad.block < w.heap.size) := fun ad h0 h1 => rd_lt hr h0 h1
  have HA := Lib.hid hA
  obtain ⟨n1, p1, e1, hn1⟩ : ∃ n1 p1 e1, rN l 1 0 hi (p, e) = (n1, p1, e1) := ⟨_, _, _, rfl⟩
  have hb1 := rN_bd (l := l) (W := 1) (lo := 0) (hi := hi) (s := (p, e)) (by decide)
  rw [hn1] at hb1
  rw [rK, hn1] at hR
  dsimp only at hR hb1
  obtain ⟨M, rfl⟩ : ∃ M : Nat, n1 = M := ⟨n1.toNat, by omega⟩
  have HM := Lib.hid hR
  have HP := fun w hr h => Lib.hid (num7_v B A c n l 1 0 hi p e M p1 e1 w hr hn h hn1)
  have HK := fun p e v p' e' w hr h hx => Lib.hid (num7_v B A c n l 1 1 3 p e v p' e' w hr hn h hx)
  obtain ⟨i0, hi', hz0, hz1, hz2⟩ := info_parts Tryd.info5
  clear hr h hw hR hn1 hA hB
  go_enter Tryd.func117, Tryd.ntmps117
  go_wp2_with fail
  refine (HP _ H0.out.1 H0.out.2.1).out.mono ?_
  rintro x w1 ⟨rfl, hg1, hq1⟩
  have S1 : Hid (w.grownBy w1 (some B) ∧ Rd w1 A c l ∧ R3 w1 B A c n p1 e1 ∧ GM w1) := Lib.hid ⟨(g7_of new1 _).trans hg1, H0.out.1.grown hg1 HA.out, hq1, H0.out.2.2.grown hg1 HGB.out⟩
  clear hg1 hq1 H0 HP
  have hsz1 := S1.out.1.size
  go_wp2_with (at_make; refine wpList_make_full _ rfl _ _ 28 rfl w.heap.size 5 i0 (.int .u8 0) 1 Tryd.underlying28 hi' hz0 hz1 .i64 .i64 M M M rfl rfl rfl rfl (by rw [hz2]; omega) (by unfold maxLen; omega) hsz1 ?_)
  intro w2 ho2 hg2
  obtain ⟨xs0, hx0⟩ : ∃ xs0, (madeCells #[.int .u8 0] M).toList = xs0 := ⟨_, rfl⟩
  rw [hx0] at ho2
  have HO2 := Lib.hid ho2
  have hb2 : Below w1.heap.size w1 w2 := ⟨hg2.os, hg2.tape, hg2.output, hg2.size, fun i hi => hg2.block i hi (by simp)⟩
  have S2 : Hid (w.grownBy w2 (some B) ∧ Rd w2 A c l ∧ R3 w2 B A c n p1 e1 ∧ GM w2) := Lib.hid ⟨g7_on S1.out.1 hb2, S1.out.2.1.keep hb2, S1.out.2.2.1.keep hb2, S1.out.2.2.2.keep hb2⟩
  clear ho2 hg2 hb2 hx0 hi' hz0 hz1 hz2 i0 S1
  generalize hg : w1.heap.size = g at *
  have hwg : w.heap.size ≤ g := by omega
  clear hg hsz1
  go_wp2_with fail
  go_loopw [13] (fun i wr => ∃ (j : Nat) (K : List Int) (q x : Int) (xs : List Value), j ≤ M ∧ i = .int .i64 j ∧ Hid (rKs l j (p1, e1) = (K, q, x) ∧ Byt K) ∧ Hid (wr.ownsRow w.heap.size 5 1 (.slice (some ⟨g, 0, none⟩) M M) M xs ∧ xs.take j = cel K) ∧ Hid (w.grownBy wr (some B) ∧ Rd wr A c l ∧ R3 wr B A c n q x ∧ GM wr)) (fun i _ => M - (intOf i).toNat)
  case atStart => exact ⟨0, [], p1, e1, xs0, by omega, rfl, Lib.hid ⟨rfl, fun x hx => (by cases hx)⟩, Lib.hid ⟨HO2.out, by simp [cel]⟩, S2⟩
  case round =>
    obtain ⟨j, K, q, x, xs, hj, rfl, HX, HO, S3⟩ := hrel
    clear HO2 S2
    by_cases h1 : j < M
    · obtain ⟨v, q', x', hv⟩ : ∃ v q' x', rN l 1 1 3 (q, x) = (v, q', x') := ⟨_, _, _, rfl⟩
      have hvb := rN_bd (l := l) (W := 1) (lo := 1) (hi := 3) (s := (q, x)) (by decide)
      rw [hv] at hvb
      dsimp only at hvb
      have HN : Hid (rKs l (j + 1) (p1, e1) = (K ++ [v], q', x')) := by
        rw [Hid, rKs_snoc, HX.out.1]
        dsimp only
        rw [hv]
      have HKL : Hid (K.length = j) := by have := rKs_len l j (p1, e1); rw [HX.out.1] at this; exact this
      have HBK : Hid (Byt (K ++ [v])) := fun y hy => by
        rcases List.mem_append.1 hy with hy | hy
        · exact HX.out.2 y hy
        · rw [List.mem_singleton.1 hy]; omega
      have P3 := HK q x v q' x' wr S3.out.2.1 S3.out.2.2.1 hv
      have hmod : v % 256 = v := by omega
      obtain ⟨-, ⟨-, k0, k1, k2⟩⟩ := And.intro trivial S3.out.2.2.2.1
      clear hv HX
      go_wp2_with fail
      refine P3.out.mono ?_
      rintro y w3 ⟨rfl, hg3, hq3⟩
      have HO3 := Lib.hid (HO.out.1.kept hg3 (.inr (fun e => by injection e with e; have e : g = B := e; omega)))
      have HT := Lib.hid HO.out.2
      have S4 : Hid (w.grownBy w3 (some B) ∧ Rd w3 A c l ∧ R3 w3 B A c n q' x' ∧ GM w3) := Lib.hid ⟨S3.out.1.trans hg3, S3.out.2.1.grown hg3 HA.out, hq3, S3.out.2.2.2.grown hg3 HGB.out⟩
      clear hg3 hq3 S3 HO P3 k0 k1 k2
      have hxl : xs.length = M := by simpa using HO3.out.1
      have c0 := HO3.out.cellAt j (by omega)
      have f0 := HO3.out.frozenAt j
      rw [List.getElem?_eq_getElem (by omega)] at c0
      have HO5 := Lib.hid (HO3.out.stored j (.int .u8 v)).1
      have HT5 := Lib.hid (cel_put HKL.out HT.out (by omega) v)
      have hne : g ≠ B := by omega
      have S5 : Hid (w.grownBy (w3.setCell ⟨g, j, none⟩ (.int .u8 v)) (some B) ∧ Rd (w3.setCell ⟨g, j, none⟩ (.int .u8 v)) A c l ∧ R3 (w3.setCell ⟨g, j, none⟩ (.int .u8 v)) B A c n q' x' ∧ GM (w3.setCell ⟨g, j, none⟩ (.int .u8 v))) := by
        obtain ⟨a1, a2, a3, a4⟩ := S4.out
        exact ⟨g7_set a1 (.inl hwg) _, a2.setc (fun ad h0 h1 => by have := HA2.out ad h0 h1; show ad.block ≠ g; omega) _, a3.other hne _, a4.set (HG2.out g hwg) _⟩
      clear S4 HO3 HT HKL
      go_wp2_with fail
      go_roundw
      case rel => exact ⟨j + 1, K ++ [v], q', x', _, by omega, by go_num, Lib.hid ⟨HN.out, HBK.out⟩, Lib.hid ⟨HO5.out, HT5.out⟩, S5⟩
      case measure => simp [intOf]; omega
    · obtain rfl : j = M := by omega
      have hxl : xs.length = j := by simpa using HO.out.1.1
      have hxs : xs = cel K := by rw [← HO.out.2, List.take_of_length_le (by omega)]
      have HKL : Hid (K.length = j) := by have := rKs_len l j (p1, e1); rw [HX.out.1] at this; exact this
      have HE : Hid (K = K0 ∧ q = p' ∧ x = e') := by
        have := HM.out
        rw [Int.toNat_natCast, HX.out.1] at this
        simp at this
        exact this
      have HOf := Lib.hid (show wr.ownsRow w.heap.size 5 1 (.slice (some ⟨g, 0, none⟩) j j) j (cel K) by rw [← hxs]; exact HO.out.1)
      have HBK := Lib.hid HX.out.2
      clear HX HO hxl hxs
      go_wp2_with fail
      go_ret
      obtain ⟨rfl, rfl, rfl⟩ := HE.out
      exact ⟨some ⟨g, 0, none⟩, j, by rw [HKL.out]; rfl, by rw [HKL.out]; exact HOf.out, HBK.out, S3.out.1, S3.out.2.2.1⟩
end Go.Proofs.YteimpkjpoijhmaaDoor
