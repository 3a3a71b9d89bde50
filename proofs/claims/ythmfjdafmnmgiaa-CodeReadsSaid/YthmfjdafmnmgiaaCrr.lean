/-
  Reading code, by definition; what the reference's Read answers.
-/
import Derived.Test.YthmfjdafmnmgiaaIns2
namespace Go.Proofs.Ythmfjdafmnmgiaa
open Go.RowKit
set_option linter.unusedSimpArgs false
set_option linter.unusedVariables false

/-- One instruction at p: an error, or it and the place behind it. -/
def rd1 (l : List Int) (p : Nat) : Int × Ins × Nat :=
  if l.length ≤ p then (10, (0, 0, 0), 0) else
  let n := l[p]?.getD 0
  if ¬ n < 33 then (40, (0, 0, 0), 0) else
  if wdB n = true then
    if l.length < p + 3 then (10, (0, 0, 0), 0) else
    let a := l[p + 1]?.getD 0 + 256 * l[p + 2]?.getD 0
    if opM n a 0 = true then (0, (n, a, 0), p + 3) else (40, (0, 0, 0), 0)
  else if opM n 0 0 = true then (0, (n, 0, 0), p + 1) else (40, (0, 0, 0), 0)
/-- Instructions ahead of what was read behind them. -/
def apC (K : List Ins) (r : Int × List Ins × Nat) : Int × List Ins × Nat := if r.1 = 0 then (0, K ++ r.2.1, r.2.2) else (r.1, [], 0)
/-- k instructions at p. -/
def rdS (l : List Int) : Nat → Nat → Int × List Ins × Nat
  | 0, p => (0, [], p)
  | k + 1, p => if (rd1 l p).1 = 0 then apC [(rd1 l p).2.1] (rdS l k (rd1 l p).2.2) else ((rd1 l p).1, [], 0)
/-- Code at a place: the instructions, the place behind them, the error. -/
def rdC (l : List Int) (p : Int) : Int × List Ins × Nat :=
  if p < 0 ∨ l.length < p then (2, [], 0) else
  if p = l.length then (10, [], 0) else
  let m := l[p.toNat]?.getD 0
  if m < 1 ∨ 200 < m then (40, [], 0) else rdS l m.toNat (p.toNat + 1)
theorem apC_apC (K M : List Ins) (r : Int × List Ins × Nat) : apC K (apC M r) = apC (K ++ M) r := by
  unfold apC
  by_cases h : r.1 = 0
  · simp [h]
  · simp [h]
theorem apC_nil {r : Int × List Ins × Nat} (h : r.1 ≠ 0 → r.2.1 = [] ∧ r.2.2 = 0) : apC [] r = r := by
  obtain ⟨e, L, q⟩ := r
  unfold apC
  by_cases h0 : e = 0
  · subst h0; rfl
  · obtain ⟨h1, h2⟩ := h h0
    simp at h1 h2
    subst h1 h2
    simp [h0]
theorem rdS_err (l : List Int) (k p : Nat) : (rdS l k p).1 ≠ 0 → (rdS l k p).2.1 = [] ∧ (rdS l k p).2.2 = 0 := by
  cases k with
  | zero => intro h; exact absurd rfl h
  | succ k =>
    intro h
    rw [rdS] at h ⊢
    split at h
    · rename_i h1
      rw [if_pos h1]
      unfold apC at h ⊢
      split at h
      · exact absurd rfl h
      · rename_i h2
        rw [if_neg h2]
        exact ⟨rfl, rfl⟩
    · rename_i h1
      rw [if_neg h1]
      exact ⟨rfl, rfl⟩
theorem rdS_yes {l : List Int} {k p : Nat} {x : Ins} {q : Nat} (h : rd1 l p = (0, x, q)) : rdS l (k + 1) p = apC [x] (rdS l k q) := by rw [rdS, h, if_pos rfl]
theorem rdS_no {l : List Int} {k p : Nat} {e : Int} (h : (rd1 l p).1 = e) (he : e ≠ 0) : rdS l (k + 1) p = (e, [], 0) := by rw [rdS, if_neg (by rw [h]; exact he), h]
theorem rd1_short {l : List Int} {p : Nat} (h : l.length ≤ p) : rd1 l p = (10, (0, 0, 0), 0) := by rw [rd1, if_pos h]
theorem rd1_op {l : List Int} {p : Nat} (h : p < l.length) (h1 : ¬ l[p]?.getD 0 < 33) : rd1 l p = (40, (0, 0, 0), 0) := by rw [rd1, if_neg (by omega)]; simp only; rw [if_pos h1]
theorem rd1_few {l : List Int} {p : Nat} (h : p < l.length) (h1 : l[p]?.getD 0 < 33) (hw : wdB (l[p]?.getD 0) = true) (h2 : l.length < p + 3) : rd1 l p = (10, (0, 0, 0), 0) := by
  rw [rd1, if_neg (by omega)]; simp only; rw [if_neg (by omega), if_pos hw, if_pos h2]
theorem rd1_wide {l : List Int} {p : Nat} {v : Bool} (h1 : l[p]?.getD 0 < 33) (hw : wdB (l[p]?.getD 0) = true) (h2 : p + 3 ≤ l.length) (hv : opM (l[p]?.getD 0) (l[p + 1]?.getD 0 + 256 * l[p + 2]?.getD 0) 0 = v) :
    rd1 l p = if v = true then (0, (l[p]?.getD 0, l[p + 1]?.getD 0 + 256 * l[p + 2]?.getD 0, 0), p + 3) else (40, (0, 0, 0), 0) := by
  rw [rd1, if_neg (by omega)]; simp only; rw [if_neg (by omega), if_pos hw, if_neg (by omega), hv]
theorem rd1_slim {l : List Int} {p : Nat} {v : Bool} (h : p < l.length) (h1 : l[p]?.getD 0 < 33) (hw : wdB (l[p]?.getD 0) = false) (hv : opM (l[p]?.getD 0) 0 0 = v) :
    rd1 l p = if v = true then (0, (l[p]?.getD 0, 0, 0), p + 1) else (40, (0, 0, 0), 0) := by
  rw [rd1, if_neg (by omega)]; simp only; rw [if_neg (by omega), if_neg (by rw [hw]; decide), hv]
theorem r4known_v (n : Int) (v : Bool) (w : World) (h : opK n = v) : Calls Try.prog 9 #[.int .u8 n] w fun e w' => e = .returned (.bool v) ∧ w = w' := by
  have := r4known_any n w
  rwa [h] at this
theorem wide_v (n : Int) (v : Bool) (w : World) (h : wdB n = v) : Calls Try.prog 10 #[.int .u8 n] w fun e w' => e = .returned (.bool v) ∧ w = w' := by
  have := wide_any n w
  rwa [h] at this

set_option maxRecDepth 100000 in
set_option maxHeartbeats 4000000 in
theorem r5read_t (A : Option Addr) (c n : Nat) (l : List Int) (p many : Nat) (w : World) (hr : Rd w A c l) (hn : l.length = n) (hp : p < l.length) (hm : l[p]?.getD 0 = many) (hm2 : 1 ≤ many ∧ many ≤ 200) :
    Calls Try.prog 5 #[.slice A n c, .int .i64 p] w fun e w' => ∃ A' c', e = .returned (.tuple #[.slice A' (rdS l many (p + 1)).2.1.length c', .int .i64 (rdS l many (p + 1)).2.2, .int .i64 (rdS l many (p + 1)).1]) ∧
      w'.ownsRow w.heap.size 36 3 (.slice A' (rdS l many (p + 1)).2.1.length c') (rdS l many (p + 1)).2.1.length (cei (rdS l many (p + 1)).2.1) ∧ Below w.heap.size w w' := by
  subst hn
  have hlen := hr.len
  have HW := Lib.hid hr
  obtain ⟨ad, rfl, hcell⟩ := hr.at_ hp
  have hby := hr.byte p
  rw [hm] at hcell hby
  obtain ⟨R, hR⟩ : ∃ R, rdS l many (p + 1) = R := ⟨_, rfl⟩
  have HI : Hid (R = apC [] (rdS l (many - 0) (p + 1))) := by
    rw [Hid, ← hR]
    exact (apC_nil (rdS_err _ _ _)).symm
  rw [hR]
  clear hR hr
  go_enter Try.func5, Try.ntmps5
  go_wp2_with fail
  go_loopw [1, 8, 9] (fun i o _ wr => ∃ (j q : Nat) (K : List Ins) (A' : Option Addr) (c' : Nat), j ≤ many ∧ i = .int .i64 q ∧ o = .slice A' j c' ∧ Hid (R = apC K (rdS l (many - j) q) ∧ K.length = j ∧ (∀ x ∈ K, InOk x) ∧ q ≤ l.length + 3) ∧ Hid (wr.ownsRow w.heap.size 36 3 (.slice A' j c') j (cei K)) ∧ Hid (Below w.heap.size w wr)) (fun _ o _ _ => match o with | .slice _ j _ => many - j | _ => 0)
  case atStart => exact ⟨0, p + 1, [], none, 0, by omega, by go_num, rfl, Lib.hid ⟨HI.out, rfl, fun x hx => (by cases hx), by omega⟩, Lib.hid (World.ownsRow_nil _ _ _ _), Lib.hid (Below.refl _ _)⟩
  case round =>
    obtain ⟨j, q, K, A', c', hj, rfl, rfl, HX, HO, HB⟩ := hrel
    clear hcell HI
    by_cases h1 : j < many
    · by_cases h2 : q < l.length
      · obtain ⟨ad', ea, hc0⟩ := (HW.out.keep HB.out).at_ h2
        injection ea with ea
        subst ea
        have hbq := HW.out.byte q
        obtain ⟨x, hx⟩ : ∃ x, l[q]?.getD 0 = x := ⟨_, rfl⟩
        rw [hx] at hc0 hbq
        have I1 := Lib.hid (In.new wr x 0 0)
        have HB1 := Lib.hid (HB.out.alloc HB.out.size (.cells #[.int .u8 x, .int .i64 0, .int .i64 0] 36))
        have HO1 := Lib.hid (own_below HO.out (new1 (a := .cells #[.int .u8 x, .int .i64 0, .int .i64 0] 36)) (Nat.le_refl _))
        cases hk : opK x with
        | false =>
          have hk' : ¬ l[q]?.getD 0 < 33 := by rw [hx]; simpa [opK] using hk
          have HN : Hid (R = (40, [], 0)) := by
            rw [Hid, HX.out.1, show many - j = (many - j - 1) + 1 by omega, rdS_no (by rw [rd1_op h2 hk']) (by decide)]
            rfl
          go_wp2_with fail
          refine (r4known_v x false _ hk).mono ?_
          rintro e w3 ⟨rfl, rfl⟩
          go_wp2_with fail
          go_ret3
          obtain rfl := HN.out
          exact ⟨none, 0, rfl, World.ownsRow_nil _ _ _ _, HB1.out⟩
        | true =>
          have hk' : l[q]?.getD 0 < 33 := by rw [hx]; simpa [opK] using hk
          go_wp2_with fail
          refine (r4known_v x true _ hk).mono ?_
          rintro e w3 ⟨rfl, rfl⟩
          go_wp2_with fail
          cases hw : wdB x with
          | false =>
            have hw' : wdB (l[q]?.getD 0) = false := by rw [hx]; exact hw
            refine (wide_v x false _ hw).mono ?_
            rintro e w3 ⟨rfl, rfl⟩
            go_wp2_with fail
            cases hv : opM x 0 0 with
            | false =>
              have HN : Hid (R = (40, [], 0)) := by
                rw [Hid, HX.out.1, show many - j = (many - j - 1) + 1 by omega, rdS_no (by rw [rd1_slim (v := false) h2 hk' hw' (by rw [hx]; exact hv), if_neg (by decide)]) (by decide)]
                rfl
              refine (r4may_v x (0) 0 false _ hv).mono ?_
              rintro e w5 ⟨rfl, hb5⟩
              have HB4 := Lib.hid (HB1.out.trans (hb5.mono HB1.out.size))
              go_wp2_with fail
              go_ret3
              obtain rfl := HN.out
              exact ⟨none, 0, rfl, World.ownsRow_nil _ _ _ _, HB4.out⟩
            | true =>
              have e1 : rd1 l q = (0, (x, 0, 0), q + 1) := by rw [rd1_slim (v := true) h2 hk' hw' (by rw [hx]; exact hv), if_pos rfl, hx]
              refine (r4may_v x (0) 0 true _ hv).mono ?_
              rintro e w5 ⟨rfl, hb5⟩
              have HB4 := Lib.hid (HB1.out.trans (hb5.mono HB1.out.size))
              have HO4 := Lib.hid (own_below HO1.out hb5 (Nat.le_refl _))
              obtain ⟨z0, z1, z2, z3, z4, z5, z6⟩ := I1.out.keep hb5
              clear hb5
              have HN : Hid (R = apC (K ++ [(x, 0, 0)]) (rdS l (many - (j + 1)) (q + 1))) := by
                rw [Hid, HX.out.1, show many - j = (many - (j + 1)) + 1 by omega, rdS_yes e1, apC_apC]
              have HOK : Hid (∀ u ∈ K ++ [(x, 0, 0)], InOk u) := by
                intro u hu
                rcases List.mem_append.1 hu with hu | hu
                · exact HX.out.2.2.1 u hu
                · rw [List.mem_singleton.1 hu]; exact ⟨hbq, by simp only; omega, by simp only; omega⟩
              have HL : Hid ((K ++ [(x, 0, 0)]).length = j + 1) := by rw [Hid, List.length_append, HX.out.2.1]; rfl
              have HR5 := Lib.hid (ri_new w5 (x, 0, 0) ⟨hbq, by simp only; omega, by simp only; omega⟩)
              have HO5 := Lib.hid (own_below HO4.out (new1 (a := .cells #[.int .u8 x, .int .i64 (0), .int .i64 0] 36)) (Nat.le_refl _))
              have HB5 := Lib.hid (HB4.out.alloc HB4.out.size (.cells #[.int .u8 x, .int .i64 (0), .int .i64 0] 36))
              go_wp2_with (at_builtin; refine wpList_append_ri _ rfl _ _ rfl w.heap.size _ j K rfl HO5.out _ 1 1 [(x, 0, 0)] rfl HR5.out rfl (by omega) HB5.out.size ?_)
              intro A7 c7 w7 ho7 hb7
              have HO7 := Lib.hid ho7
              have HB7 := Lib.hid (HB5.out.trans hb7)
              clear ho7 hb7
              go_wp2_with fail
              go_roundw
              case rel => exact ⟨j + 1, q + 1, _, A7, c7, by omega, by go_num, rfl, Lib.hid ⟨HN.out, HL.out, HOK.out, by omega⟩, HO7, HB7⟩
              case measure => simp; omega
          | true =>
            have hw' : wdB (l[q]?.getD 0) = true := by rw [hx]; exact hw
            refine (wide_v x true _ hw).mono ?_
            rintro e w3 ⟨rfl, rfl⟩
            by_cases h3 : l.length < q + 3
            · go_wp2_with fail
              have HN : Hid (R = (10, [], 0)) := by
                rw [Hid, HX.out.1, show many - j = (many - j - 1) + 1 by omega, rdS_no (by rw [rd1_few h2 hk' hw' h3]) (by decide)]
                rfl
              go_ret3
              obtain rfl := HN.out
              exact ⟨none, 0, rfl, World.ownsRow_nil _ _ _ _, HB1.out⟩
            · obtain ⟨ad', ea, hc1⟩ := (HW.out.keep HB.out).at_ (i := q + 1) (by omega)
              injection ea with ea
              subst ea
              obtain ⟨ad', ea, hc2⟩ := (HW.out.keep HB.out).at_ (i := q + 1 + 1) (by omega)
              injection ea with ea
              subst ea
              have hlt1 : (ad.add (q + 1)).block < wr.heap.size := cell_lt hc1
              have hlt2 : (ad.add (q + 1 + 1)).block < wr.heap.size := cell_lt hc2
              have hlt : ad.block < wr.heap.size := by have := hlt1; rwa [add_succ] at this
              have hby' := HW.out.byte (q + 1)
              have hbz' := HW.out.byte (q + 1 + 1)
              obtain ⟨y, hy⟩ : ∃ y, l[q + 1]?.getD 0 = y := ⟨_, rfl⟩
              obtain ⟨z, hz⟩ : ∃ z, l[q + 1 + 1]?.getD 0 = z := ⟨_, rfl⟩
              rw [hy] at hc1 hby'
              rw [hz] at hc2 hbz'
              have hd1 := hc1
              have hd2 := hc2
              rw [add_succ] at hd1 hd2
              go_upto_region 20 with (fail)
              go_region
              all_goals (try go_wp2_with fail)
              have hz2 : l[q + 2]?.getD 0 = z := hz
              clear hc0 hc1 hc2 hd1 hd2 HO1 HB1 I1
              have I2 := Lib.hid (show In (wr.alloc (.cells #[.int .u8 x, .int .i64 (y + 256 * z), .int .i64 0] 36)).drew wr.heap.size x (y + 256 * z) 0 from In.new wr x (y + 256 * z) 0)
              have HB2 := Lib.hid (below_draws (HB.out.alloc HB.out.size (.cells #[.int .u8 x, .int .i64 (y + 256 * z), .int .i64 0] 36)) 1)
              have HO2 := Lib.hid (own_below HO.out (below_draws (new1 (a := .cells #[.int .u8 x, .int .i64 (y + 256 * z), .int .i64 0] 36)) 1) (Nat.le_refl _))
              cases hv : opM x (y + 256 * z) 0 with
              | false =>
                have e1 : rd1 l q = (40, (0, 0, 0), 0) := by rw [rd1_wide (v := false) hk' hw' (by omega) (by rw [hx, hy, hz2]; exact hv), if_neg (by decide)]
                have HN : Hid (R = (40, [], 0)) := by
                  rw [Hid, HX.out.1, show many - j = (many - j - 1) + 1 by omega, rdS_no (by rw [e1]) (by decide)]
                  rfl
                refine (r4may_v x (y + 256 * z) 0 false _ hv).mono ?_
                rintro e w5 ⟨rfl, hb5⟩
                have HB4 := Lib.hid (HB2.out.trans (hb5.mono HB2.out.size))
                go_wp2_with fail
                go_ret3
                obtain rfl := HN.out
                exact ⟨none, 0, rfl, World.ownsRow_nil _ _ _ _, HB4.out⟩
              | true =>
                have e1 : rd1 l q = (0, (x, y + 256 * z, 0), q + 3) := by rw [rd1_wide (v := true) hk' hw' (by omega) (by rw [hx, hy, hz2]; exact hv), if_pos rfl, hx, hy, hz2]
                refine (r4may_v x (y + 256 * z) 0 true _ hv).mono ?_
                rintro e w5 ⟨rfl, hb5⟩
                have HB4 := Lib.hid (HB2.out.trans (hb5.mono HB2.out.size))
                have HO4 := Lib.hid (own_below HO2.out hb5 (Nat.le_refl _))
                obtain ⟨z0, z1, z2, z3, z4, z5, z6⟩ := I2.out.keep hb5
                clear hb5
                have HN : Hid (R = apC (K ++ [(x, y + 256 * z, 0)]) (rdS l (many - (j + 1)) (q + 3))) := by
                  rw [Hid, HX.out.1, show many - j = (many - (j + 1)) + 1 by omega, rdS_yes e1, apC_apC]
                have HOK : Hid (∀ u ∈ K ++ [(x, y + 256 * z, 0)], InOk u) := by
                  intro u hu
                  rcases List.mem_append.1 hu with hu | hu
                  · exact HX.out.2.2.1 u hu
                  · rw [List.mem_singleton.1 hu]; exact ⟨hbq, by simp only; omega, by simp only; omega⟩
                have HL : Hid ((K ++ [(x, y + 256 * z, 0)]).length = j + 1) := by rw [Hid, List.length_append, HX.out.2.1]; rfl
                have HR5 := Lib.hid (ri_new w5 (x, y + 256 * z, 0) ⟨hbq, by simp only; omega, by simp only; omega⟩)
                have HO5 := Lib.hid (own_below HO4.out (new1 (a := .cells #[.int .u8 x, .int .i64 (y + 256 * z), .int .i64 0] 36)) (Nat.le_refl _))
                have HB5 := Lib.hid (HB4.out.alloc HB4.out.size (.cells #[.int .u8 x, .int .i64 (y + 256 * z), .int .i64 0] 36))
                go_wp2_with (at_builtin; refine wpList_append_ri _ rfl _ _ rfl w.heap.size _ j K rfl HO5.out _ 1 1 [(x, y + 256 * z, 0)] rfl HR5.out rfl (by omega) HB5.out.size ?_)
                intro A7 c7 w7 ho7 hb7
                have HO7 := Lib.hid ho7
                have HB7 := Lib.hid (HB5.out.trans hb7)
                clear ho7 hb7
                go_wp2_with fail
                go_roundw
                case rel => exact ⟨j + 1, q + 3, _, A7, c7, by omega, by go_num, rfl, Lib.hid ⟨HN.out, HL.out, HOK.out, by omega⟩, HO7, HB7⟩
                case measure => simp; omega
      · have HN : Hid (R = (10, [], 0)) := by
          rw [Hid, HX.out.1, show many - j = (many - j - 1) + 1 by omega, rdS_no (by rw [rd1_short (by omega)]) (by decide)]
          rfl
        go_wp2_with fail
        go_ret3
        obtain rfl := HN.out
        exact ⟨none, 0, rfl, World.ownsRow_nil _ _ _ _, HB.out⟩
    · obtain rfl : j = many := by omega
      have HN : Hid (R = (0, K, q)) := by
        rw [Hid, HX.out.1, Nat.sub_self, rdS, apC, if_pos rfl, List.append_nil]
      have HL := Lib.hid HX.out.2.1
      go_wp2_with fail
      go_ret3
      obtain rfl := HN.out
      exact ⟨A', c', by simp [HL.out], by simp only [HL.out]; exact HO.out, HB.out⟩

theorem rdC_neg {l : List Int} {p : Int} (h : p < 0 ∨ l.length < p) : rdC l p = (2, [], 0) := by rw [rdC, if_pos h]
theorem rdC_end {l : List Int} {p : Int} (h : p = l.length) : rdC l p = (10, [], 0) := by rw [rdC, if_neg (by omega), if_pos h]
theorem rdC_many {l : List Int} {p : Nat} (h : p < l.length) (h1 : l[p]?.getD 0 < 1 ∨ 200 < l[p]?.getD 0) : rdC l p = (40, [], 0) := by
  rw [rdC, if_neg (by omega), if_neg (by omega)]
  simp only [Int.toNat_natCast]
  rw [if_pos h1]
theorem rdC_yes {l : List Int} {p m : Nat} (h : p < l.length) (hm : l[p]?.getD 0 = m) (h1 : 1 ≤ m ∧ m ≤ 200) : rdC l p = rdS l m (p + 1) := by
  rw [rdC, if_neg (by omega), if_neg (by omega)]
  simp only [Int.toNat_natCast]
  rw [if_neg (by omega), hm, Int.toNat_natCast]
theorem r5read_any (A : Option Addr) (c n : Nat) (l : List Int) (p : Int) (w : World) (hr : Rd w A c l) (hn : l.length = n) :
    Calls Try.prog 5 #[.slice A n c, .int .i64 p] w fun e w' => ∃ A' c', e = .returned (.tuple #[.slice A' (rdC l p).2.1.length c', .int .i64 (rdC l p).2.2, .int .i64 (rdC l p).1]) ∧
      w'.ownsRow w.heap.size 36 3 (.slice A' (rdC l p).2.1.length c') (rdC l p).2.1.length (cei (rdC l p).2.1) ∧ Below w.heap.size w w' := by
  have hlen := hr.len
  by_cases h0 : p < 0 ∨ l.length < p
  · rw [rdC_neg h0]
    subst hn
    have hcut : p < 0 ∨ (0 ≤ p ∧ l.length < p) := by omega
    clear h0
    rcases hcut with h0 | h0
    · go_enter Try.func5, Try.ntmps5
      go_wp2_with fail
      go_ret3
      exact ⟨none, 0, rfl, World.ownsRow_nil _ _ _ _, Below.refl _ _⟩
    · obtain ⟨h1, h2⟩ := h0
      go_enter Try.func5, Try.ntmps5
      go_wp2_with fail
      go_ret3
      exact ⟨none, 0, rfl, World.ownsRow_nil _ _ _ _, Below.refl _ _⟩
  · by_cases h1 : p = l.length
    · rw [rdC_end h1]
      subst h1 hn
      clear h0
      go_enter Try.func5, Try.ntmps5
      go_wp2_with fail
      go_ret3
      exact ⟨none, 0, rfl, World.ownsRow_nil _ _ _ _, Below.refl _ _⟩
    · obtain ⟨q, rfl⟩ : ∃ q : Nat, p = q := ⟨p.toNat, by omega⟩
      have hq : q < l.length := by omega
      by_cases h2 : l[q]?.getD 0 < 1 ∨ 200 < l[q]?.getD 0
      · rw [rdC_many hq h2]
        subst hn
        obtain ⟨ad, rfl, hc⟩ := hr.at_ hq
        have hby := hr.byte q
        generalize l[q]?.getD 0 = x at *
        have hcut : x = 0 ∨ (¬ x < 1 ∧ 200 < x) := by omega
        clear h0 h1 h2
        rcases hcut with rfl | ⟨h3, h4⟩
        · go_enter Try.func5, Try.ntmps5
          go_wp2_with fail
          go_ret3
          exact ⟨none, 0, rfl, World.ownsRow_nil _ _ _ _, Below.refl _ _⟩
        · go_enter Try.func5, Try.ntmps5
          go_wp2_with fail
          go_ret3
          exact ⟨none, 0, rfl, World.ownsRow_nil _ _ _ _, Below.refl _ _⟩
      · obtain ⟨m, hm⟩ : ∃ m : Nat, l[q]?.getD 0 = m := ⟨(l[q]?.getD 0).toNat, by omega⟩
        rw [rdC_yes hq hm (by omega)]
        exact r5read_t A c n l q m w hr hn hq hm (by omega)
end Go.Proofs.Ythmfjdafmnmgiaa
