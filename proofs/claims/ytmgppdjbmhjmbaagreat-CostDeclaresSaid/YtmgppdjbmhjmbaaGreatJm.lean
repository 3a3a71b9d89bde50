/-
  Layer 12: a copy whose methods declare otherwise; what Costs tells of it (on lists); the reference's Same.
-/
import Derived.Test.YtmgppdjbmhjmbaaGreatLjd
import Derived.Test.YtmgppdjbmhjmbaaGreatLje
import Derived.Test.YtmgppdjbmhjmbaaGreatRcp
namespace Go.Proofs.YtmgppdjbmhjmbaaGreat
open Go.RowKit
set_option maxRecDepth 100000
set_option linter.unusedSimpArgs false
set_option linter.unusedVariables false

def mhs12 (m : Mh) (c : Ce) : Mh := { m with f := c.1, s := c.2.1, h := c.2.2 }
/-- d' is d, the first i methods declaring what N says. -/
structure Dn12 (d d' : Md) (N : Nat → Ce) (i : Nat) : Prop where
  len : d'.s.length = d.s.length
  at_ : ∀ j z, d.s[j]? = some z → d'.s[j]? = some (if j < i then (mhs12 z.1 (N j), z.2) else z)
section
variable {d d' : Md} {N : Nat → Ce} {i : Nat}
theorem Dn12.zero (d : Md) (N : Nat → Ce) : Dn12 d d N 0 := ⟨rfl, fun j z h => by rw [if_neg (by omega)]; exact h⟩
theorem Dn12.step (h : Dn12 d d' N i) {z : Mh × List Ins} (hz : d'.s[i]? = some z) {s : List (Mh × List Ins)} (hs : s = d'.s.set i (mhs12 z.1 (N i), z.2)) {d'' : Md} (hd : d''.s = s) : Dn12 d d'' N (i + 1) := by
  have hi := (List.getElem?_eq_some_iff.1 hz).1
  refine ⟨by rw [hd, hs, List.length_set, h.len], fun j x hx => ?_⟩
  rw [hd, hs]
  by_cases hj : j = i
  · subst hj
    have h1 := h.at_ j x hx
    rw [if_neg (by omega), hz] at h1
    injection h1 with h1
    subst h1
    rw [List.getElem?_set_self hi, if_pos (by omega)]
  · rw [List.getElem?_set_ne (fun e => hj e.symm), h.at_ j x hx]
    by_cases h2 : j < i
    · rw [if_pos h2, if_pos (by omega)]
    · rw [if_neg h2, if_neg (by omega)]
/-- One number of one method turned. -/
theorem Dn12.turn (h : Dn12 d d' N i) (hn : d.s.length ≤ i) {k : Nat} {z : Mh × List Ins} (hz : d'.s[k]? = some z) {c : Ce} {s : List (Mh × List Ins)} (hs : s = d'.s.set k (mhs12 z.1 c, z.2)) {d'' : Md} (hd : d''.s = s) : Dn12 d d'' (pu12 N k c) i := by
  have hk := (List.getElem?_eq_some_iff.1 hz).1
  refine ⟨by rw [hd, hs, List.length_set, h.len], fun j x hx => ?_⟩
  have hj := (List.getElem?_eq_some_iff.1 hx).1
  have h1 := h.at_ j x hx
  rw [if_pos (by omega)] at h1 ⊢
  rw [hd, hs]
  by_cases hjk : j = k
  · subst hjk
    rw [hz] at h1
    injection h1 with h1
    subst h1
    rw [List.getElem?_set_self hk]
    simp [pu12, mhs12]
  · rw [List.getElem?_set_ne (fun e => hjk e.symm), h1, pu12, if_neg hjk]
theorem Dn12.me (h : Dn12 d d' N i) {k : Nat} (hk : k < d.s.length) (hi : k < i) : me10 d' k = mhs12 (me10 d k) (N k) ∧ co11 d' k = co11 d k := by
  have h1 := h.at_ k _ (List.getElem?_eq_getElem hk)
  rw [if_pos hi] at h1
  rw [me10, me10, co11, co11, h1, List.getElem?_eq_getElem hk]
  exact ⟨rfl, rfl⟩
theorem Dn12.sd (h : Dn12 d d' N i) (sa : Sa10 d d') (hi : d.s.length ≤ i) : Sd12 d d' := by
  refine ⟨sa, h.len, fun k => ?_, fun k => ?_⟩
  · by_cases hk : k < d.s.length
    · exact (h.me hk (by omega)).2
    · rw [co11, co11, List.getElem?_eq_none (by rw [h.len]; omega), List.getElem?_eq_none (by omega)]
  · by_cases hk : k < d.s.length
    · rw [(h.me hk (by omega)).1]
      exact ⟨rfl, rfl, rfl⟩
    · rw [me10, me10, List.getElem?_eq_none (by rw [h.len]; omega), List.getElem?_eq_none (by omega)]
      exact ⟨rfl, rfl, rfl⟩
end
/-- What Costs tells, by what fits. -/
theorem co12_same {d d' : Md} (S : Sd12 d d') (h1 : ok12 d d.s.length = true → ok12 d' d.s.length = true) (h : (co12 d).2 = 0) : co12 d' = (cs12 d, 0) ∧ co12 d = (cs12 d, 0) := by
  obtain ⟨a1, a2, a3, a4⟩ := co12_ok h
  constructor
  · unfold co12
    rw [S.ro, S.er, S.len, S.cs, if_pos a1, if_pos a2, if_pos (h1 a3)]
  · unfold co12
    rw [if_pos a1, if_pos a2, if_pos a3]
theorem co12_both {d d' : Md} (S : Sd12 d d') (h : (co12 d).2 ≠ 0) (h' : (co12 d').2 ≠ 0) : (co12 d).2 = (co12 d').2 := by
  unfold co12 at h h' ⊢
  rw [S.ro, S.er, S.len] at h' ⊢
  by_cases a1 : (ro11 d).2 = 0
  · rw [if_pos a1] at h h' ⊢
    rw [if_pos a1]
    by_cases a2 : er12 d d.s.length = 0
    · rw [if_pos a2] at h h' ⊢
      rw [if_pos a2]
      split
      · rename_i a3; rw [if_pos a3] at h; exact absurd rfl h
      · split
        · rename_i a4; rw [if_pos a4] at h'; exact absurd rfl h'
        · rfl
    · rw [if_neg a2, if_neg a2]
  · rw [if_neg a1, if_neg a1]
/-- One errs by what methods declare alone. -/
theorem co12_one {d d' : Md} (S : Sd12 d d') (h : (co12 d).2 ≠ 0) (h' : (co12 d').2 = 0) : (co12 d).2 = 120 ∧ co12 d' = (cs12 d, 0) ∧ (List.range d.s.length).all (fun k => fi12 (ce12 d k) (me10 d k)) = false := by
  obtain ⟨a1, a2, a3, a4⟩ := co12_ok h'
  rw [S.ro] at a1
  rw [S.er, S.len] at a2
  rw [S.len] at a3
  rw [S.cs] at a4
  have a5 : ¬ ok12 d d.s.length = true := fun a5 => h (by unfold co12; rw [if_pos a1, if_pos a2, if_pos a5])
  refine ⟨by unfold co12; rw [if_pos a1, if_pos a2, if_neg a5], ?_, ?_⟩
  · rw [← a4, ← h']
  · rw [← Bool.not_eq_true]
    intro hall
    refine a5 (ok12_of a1 fun k hk => ?_)
    rw [List.all_eq_true] at hall
    exact hall k (List.mem_range.2 hk)
/-- With new numbers that do not fit somewhere. -/
theorem co12_less {d d' : Md} (S : Sd12 d d') (h : (co12 d).2 = 0) {k : Nat} (hk : k < d.s.length) (hf : fi12 (ce12 d k) (me10 d' k) = false) : (co12 d').2 = 120 := by
  obtain ⟨a1, a2, a3, a4⟩ := co12_ok h
  have a5 : ¬ ok12 d' d.s.length = true := fun a5 => by
    have := ok12_at (d := d') (by rw [S.ro]; exact a1) (by rw [S.len]; exact a5) (k := k) (by rw [S.len]; exact hk)
    rw [S.ce, hf] at this
    cases this
  unfold co12
  rw [S.ro, S.er, S.len, if_pos a1, if_pos a2, if_neg a5]
theorem co12_fits {d d' : Md} (S : Sd12 d d') (h : (co12 d).2 = 0) (hf : ∀ k, k < d.s.length → fi12 (ce12 d k) (me10 d' k) = true) : co12 d' = (cs12 d, 0) := by
  obtain ⟨a1, a2, a3, a4⟩ := co12_ok h
  refine (co12_same S (fun _ => ?_) h).1
  have := ok12_of (d := d') (by rw [S.ro]; exact a1) (fun k hk => by rw [S.ce]; exact hf k (by rw [← S.len]; exact hk))
  rw [S.len] at this
  exact this

/-! The copy in memory, its numbers written over. -/
theorem at8_h12 {w : World} {g p : Nat} {z : Me} (h : At8 w ⟨g, p, none⟩ z) (v : Int) : At8 (w.setCell ⟨g, p + 6, none⟩ (.int .i64 v)) ⟨g, p, none⟩ { z with m := { z.m with h := v } } := by
  obtain ⟨h1, h2, h3, h4, h5, h6, h7, h8⟩ := h
  exact ⟨c8n (by omega) h1, c8n (by dsimp only; omega) h2, c8n (by dsimp only; omega) h3, c8n (by dsimp only; omega) h4, c8n (by dsimp only; omega) h5, c8n (by dsimp only; omega) h6, World.cell?_setCell_same _ _ _ h7, c8n (by dsimp only; omega) h8⟩
theorem Aw.at812 {lo hi M g j : Nat} {d d' : Md} {k : Int} {wr : World} {y' : Ma} {z : Me} (h : Aw lo hi M d k wr y' d') (hA : y'.A = some ⟨g, 0, none⟩) (hz : y'.Z[j]? = some z) : At8 wr ⟨g, j * 8, none⟩ z ∧ z.ok wr ∧ Owz wr lo hi z ∧ qgE (ze z) = false := by
  have hm := List.mem_of_getElem? hz
  refine ⟨?_, h.hq.2.2.1.1 z hm, h.ow.2.2.2 z hm, ?_⟩
  · rcases h.hq.2.2.1.2.2.2 with ⟨hn, -⟩ | ⟨ad, ha, hc⟩
    · rw [hA] at hn; cases hn
    · rw [hA] at ha
      injection ha with ha
      subst ha
      have h8 := hc j z hz
      rwa [add0] at h8
  · have hq := h.qg
    simp only [qG, Bool.or_eq_false_iff] at hq
    have h3 := (List.any_eq_false.1 hq.2.2.2) (ze z) (by rw [← h.hq.2.2.2.1]; exact List.mem_map.2 ⟨z, hm, rfl⟩)
    simpa using h3
section
variable {lo hi M g j kk : Nat} {d d' : Md} {wr : World} {y' : Ma} {z : Me}
theorem Aw.fld12 (h : Aw lo hi M d (-1) wr y' d') (hA : y'.A = some ⟨g, 0, none⟩) (hg : Bk wr g 39 kk) (h2 : g < hi) (hz : y'.Z[j]? = some z) {f : Nat} {v : Int} (hv : -9223372036854775808 ≤ v ∧ v ≤ 9223372036854775807) {m' : Mh}
    (hf : (f = 4 ∧ m' = { z.m with f := v }) ∨ (f = 5 ∧ m' = { z.m with s := v }) ∨ (f = 6 ∧ m' = { z.m with h := v })) :
    Aw lo hi M d (-1) (wr.setCell ⟨g, j * 8 + f, none⟩ (.int .i64 v)) { y' with Z := y'.Z.set j { z with m := m' } } { d' with s := (y'.Z.set j { z with m := m' }).map ze } := by
  obtain ⟨a1, -, o1, q1⟩ := h.at812 hA hz
  obtain ⟨⟨k1, k2, k3⟩, k4, k5⟩ := ok_nt (h.hq.2.2.1.1 z (List.mem_of_getElem? hz)) o1 hg (by decide) (by decide) (j * 8 + f) (.int .i64 v)
  obtain ⟨n1, n2, n3, n4⟩ := k3
  rcases hf with ⟨rfl, rfl⟩ | ⟨rfl, rfl⟩ | ⟨rfl, rfl⟩
  · exact h.meth (v := .int .i64 v) (f := 4) hA hg h2 (by decide) hz (at8_f a1 v) (z' := { z with m := { z.m with f := v } }) ⟨⟨k1, k2, n1, hv, n3, n4⟩, k4, k5⟩ o1 ⟨rfl, rfl⟩ (fun _ => ⟨rfl, rfl⟩) q1
  · exact h.meth (v := .int .i64 v) (f := 5) hA hg h2 (by decide) hz (at8_s a1 v) (z' := { z with m := { z.m with s := v } }) ⟨⟨k1, k2, n1, n2, hv, n4⟩, k4, k5⟩ o1 ⟨rfl, rfl⟩ (fun _ => ⟨rfl, rfl⟩) q1
  · exact h.meth (v := .int .i64 v) (f := 6) hA hg h2 (by decide) hz (at8_h12 a1 v) (z' := { z with m := { z.m with h := v } }) ⟨⟨k1, k2, n1, n2, n3, hv⟩, k4, k5⟩ o1 ⟨rfl, rfl⟩ (fun _ => ⟨rfl, rfl⟩) q1
theorem Aw.num12 (h : Aw lo hi M d (-1) wr y' d') (hA : y'.A = some ⟨g, 0, none⟩) (hg : Bk wr g 39 kk) (h2 : g < hi) (hz : y'.Z[j]? = some z) (c : Ce) (c1 : -9223372036854775808 ≤ c.1 ∧ c.1 ≤ 9223372036854775807) (c2 : -9223372036854775808 ≤ c.2.1 ∧ c.2.1 ≤ 9223372036854775807) (c3 : -9223372036854775808 ≤ c.2.2 ∧ c.2.2 ≤ 9223372036854775807) :
    ∃ Z', Z' = y'.Z.set j { z with m := mhs12 z.m c } ∧ Aw lo hi M d (-1) (((wr.setCell ⟨g, j * 8 + 4, none⟩ (.int .i64 c.1)).setCell ⟨g, j * 8 + 5, none⟩ (.int .i64 c.2.1)).setCell ⟨g, j * 8 + 6, none⟩ (.int .i64 c.2.2)) { y' with Z := Z' } { d' with s := Z'.map ze } := by
  have hj := (List.getElem?_eq_some_iff.1 hz).1
  have r1 := h.fld12 hA hg h2 hz c1 (.inl ⟨rfl, rfl⟩)
  have hz1 : (y'.Z.set j { z with m := { z.m with f := c.1 } })[j]? = some { z with m := { z.m with f := c.1 } } := by rw [List.getElem?_set, if_pos rfl, if_pos hj]
  have r2 := r1.fld12 (j := j) hA (hg.set g (j * 8 + 4) (.int .i64 c.1)) h2 hz1 c2 (.inr (.inl ⟨rfl, rfl⟩))
  dsimp only at r2
  rw [List.set_set] at r2
  have hz2 : (y'.Z.set j { z with m := { z.m with f := c.1, s := c.2.1 } })[j]? = some { z with m := { z.m with f := c.1, s := c.2.1 } } := by rw [List.getElem?_set, if_pos rfl, if_pos hj]
  have r3 := r2.fld12 (j := j) hA ((hg.set g (j * 8 + 4) (.int .i64 c.1)).set g (j * 8 + 5) (.int .i64 c.2.1)) h2 hz2 c3 (.inr (.inr ⟨rfl, rfl⟩))
  dsimp only at r3
  rw [List.set_set] at r3
  exact ⟨_, rfl, r3⟩
theorem Aw.set12 (h : Aw lo hi M d (-1) wr y' d') (hz : y'.Z[j]? = some z) (c : Ce) : d'.s[j]? = some (z.m, z.k) ∧ (y'.Z.set j { z with m := mhs12 z.m c }).map ze = d'.s.set j (mhs12 z.m c, z.k) := by
  rw [← h.hq.2.2.2.1, List.getElem?_map, hz]
  refine ⟨rfl, ?_⟩
  rw [List.map_set]
end
set_option maxHeartbeats 4000000 in
/-- The reference's Same, of the same certificates. -/
theorem r12same_v (A B : Option Addr) (c b n : Nat) (L : List Ce) (w : World) (ha : Rg ce3 3 w A c L) (hb : Rg ce3 3 w B b L) (hn : L.length = n) (hn9 : n ≤ 1000) : Calls Tryz.prog 16 #[.slice A n c, .slice B n b] w fun r w' => r = .returned (.bool true) ∧ Below w.heap.size w w' := by
  have HA := Lib.hid ha
  have HB := Lib.hid hb
  have HN := Lib.hid hn
  clear ha hb hn
  go_enter Tryz.func16, Tryz.ntmps16
  go_wp2_with fail
  go_loopw [5] (fun iv wq => ∃ i : Nat, i ≤ n ∧ iv = .int .i64 i ∧ Hid (Below w.heap.size w wq)) (fun iv _ => n - (intOf iv).toNat)
  case atStart => exact ⟨0, by omega, rfl, Lib.hid (Below.refl _ _)⟩
  case round =>
    obtain ⟨i, hi, rfl, HW⟩ := hrel
    rename World => wq
    by_cases h1 : i < n
    · obtain ⟨x, hx⟩ : ∃ x, L[i]? = some x := ⟨_, List.getElem?_eq_getElem (by rw [HN.out]; exact h1)⟩
      obtain ⟨g, hA, hg, hc⟩ := (HA.out.keep HW.out).at_ ce3_len hx
      obtain ⟨g2, hB, hg2, hc2⟩ := (HB.out.keep HW.out).at_ ce3_len hx
      subst hA hB
      have a0 := hc 0 (by omega)
      have a1 := hc 1 (by omega)
      have a2 := hc 2 (by omega)
      have b0 := hc2 0 (by omega)
      have b1 := hc2 1 (by omega)
      have b2 := hc2 2 (by omega)
      obtain ⟨xf, xs, xh⟩ := x
      simp only [ce3, List.getElem?_cons_zero, List.getElem?_cons_succ, Nat.add_zero] at a0 a1 a2 b0 b1 b2
      have q := eq_cert 9998 xf xs xh xf xs xh true (by simp)
      have HW2 := Lib.hid (fun q => below_draws HW.out q)
      clear hx hc hc2
      go_wp2_with fail
      go_quiet (fail)
      go_wp2_with fail
      go_roundw
      case rel => exact ⟨i + 1, by omega, by go_num, Lib.hid (HW2.out _)⟩
      case measure => simp [intOf]; omega
    · obtain rfl : n = i := by omega
      go_wp2_with fail
      go_ret
      exact ⟨rfl, HW.out⟩
end Go.Proofs.YtmgppdjbmhjmbaaGreat
