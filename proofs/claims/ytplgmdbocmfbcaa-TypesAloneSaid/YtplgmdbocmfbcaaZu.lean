/-
  Layer 10: the law TypesAlone.
-/
import Derived.Test.YtplgmdbocmfbcaaZr
import Derived.Test.YtplgmdbocmfbcaaZs
namespace Go.Proofs.Ytplgmdbocmfbcaa
open Go.RowKit
set_option maxRecDepth 100000
set_option linter.unusedSimpArgs false
set_option linter.unusedVariables false

theorem td2 {a : Int} : (0 ≤ a → a.tdiv 2 = a / 2) ∧ (a ≤ 0 → a.tdiv 2 = -((-a) / 2)) := ⟨fun h => Int.tdiv_eq_ediv_of_nonneg h, fun h => by
  have := Int.tdiv_eq_ediv_of_nonneg (a := -a) (b := 2) (by omega)
  rw [Int.neg_tdiv] at this
  omega⟩
theorem td2_bd {a : Int} (h : -9223372036854775808 ≤ a ∧ a ≤ 9223372036854775807) : (-9223372036854775808 ≤ a.tdiv 2 ∧ a.tdiv 2 ≤ 9223372036854775807) ∧ (-9223372036854775808 ≤ 1 - a.tdiv 2 ∧ 1 - a.tdiv 2 ≤ 9223372036854775807) := by
  have h1 := (td2 (a := a)).1
  have h2 := (td2 (a := a)).2
  by_cases h0 : 0 ≤ a
  · have := h1 h0; omega
  · have := h2 (by omega); omega
theorem Aw.at8 {lo hi M g j : Nat} {d d' : Md} {k : Int} {wr : World} {y' : Ma} {z : Me} (h : Aw lo hi M d k wr y' d') (hA : y'.A = some ⟨g, 0, none⟩) (hz : y'.Z[j]? = some z) : At8 wr ⟨g, j * 8, none⟩ z ∧ z.ok wr ∧ Owz wr lo hi z ∧ qgE (ze z) = false := by
  have hm := List.mem_of_getElem? hz
  refine ⟨?_, h.hq.2.2.1.1 z hm, h.ow.2.2.2 z hm, ?_⟩
  · rcases h.hq.2.2.1.2.2.2 with ⟨hn, -⟩ | ⟨ad, ha, hc⟩
    · rw [hA] at hn; cases hn
    · rw [hA] at ha
      injection ha with ha
      subst ha
      have h8 := hc j z hz
      rwa [add0] at h8
  · have hq := h.qg
    simp only [qG, Bool.or_eq_false_iff] at hq
    have h3 := (List.any_eq_false.1 hq.2.2.2) (ze z) (by rw [← h.hq.2.2.2.1]; exact List.mem_map.2 ⟨z, hm, rfl⟩)
    simpa using h3
section
variable {lo hi M g j kk : Nat} {d d' : Md} {k : Int} {wr : World} {y' : Ma} {z : Me}
theorem Aw.lim (h : Aw lo hi M d k wr y' d') (hA : y'.A = some ⟨g, 0, none⟩) (hg : Bk wr g 36 kk) (h2 : g < hi) (hz : y'.Z[j]? = some z) (b : Bool) :
    ∃ Z' d'', Z'.length = y'.Z.length ∧ Aw lo hi M d k (((wr.setCell ⟨g, j * 8 + 4, none⟩ (.int .i64 1)).setCell ⟨g, j * 8 + 5, none⟩ (.int .i64 2)).setCell ⟨g, j * 8 + 3, none⟩ (.bool b)) { y' with Z := Z' } d'' := by
  have hj := (List.getElem?_eq_some_iff.1 hz).1
  obtain ⟨a1, ⟨⟨-, -, -⟩, -, -⟩, o1, q1⟩ := h.at8 hA hz
  obtain ⟨⟨k1, k2, k3⟩, k4, k5⟩ := ok_nt (h.hq.2.2.1.1 z (List.mem_of_getElem? hz)) o1 hg (by decide) (by decide) (j * 8 + 4) (.int .i64 1)
  have r1 := h.meth (v := .int .i64 1) (f := 4) hA hg h2 (by decide) hz (at8_f a1 1) (z' := { z with m := { z.m with f := 1 } }) ⟨⟨k1, k2, k3.1, by dsimp only; omega, k3.2.2⟩, k4, k5⟩ o1 ⟨rfl, rfl⟩ (fun _ => ⟨rfl, rfl⟩) q1
  have hz1 : (y'.Z.set j { z with m := { z.m with f := 1 } })[j]? = some { z with m := { z.m with f := 1 } } := by rw [List.getElem?_set, if_pos rfl, if_pos hj]
  have hg1 := hg.set g (j * 8 + 4) (.int .i64 1)
  obtain ⟨a2, -, o2, q2⟩ := r1.at8 (j := j) hA hz1
  obtain ⟨⟨k1, k2, k3⟩, k4, k5⟩ := ok_nt (r1.hq.2.2.1.1 _ (List.mem_of_getElem? hz1)) o2 hg1 (by decide) (by decide) (j * 8 + 5) (.int .i64 2)
  have r2 := r1.meth (v := .int .i64 2) (f := 5) hA hg1 h2 (by decide) hz1 (at8_s a2 2) (z' := { z with m := { z.m with f := 1, s := 2 } }) ⟨⟨k1, k2, k3.1, k3.2.1, by dsimp only; omega, k3.2.2.2⟩, k4, k5⟩ o2 ⟨rfl, rfl⟩ (fun _ => ⟨rfl, rfl⟩) q2
  have hz2 : ((y'.Z.set j { z with m := { z.m with f := 1 } }).set j { z with m := { z.m with f := 1, s := 2 } })[j]? = some { z with m := { z.m with f := 1, s := 2 } } := by rw [List.getElem?_set, if_pos rfl, if_pos (by rw [List.length_set]; exact hj)]
  have hg2 := hg1.set g (j * 8 + 5) (.int .i64 2)
  obtain ⟨a3, -, o3, q3⟩ := r2.at8 (j := j) hA hz2
  obtain ⟨⟨k1, k2, k3⟩, k4, k5⟩ := ok_nt (r2.hq.2.2.1.1 _ (List.mem_of_getElem? hz2)) o3 hg2 (by decide) (by decide) (j * 8 + 3) (.bool b)
  have r3 := r2.meth (v := .bool b) (f := 3) hA hg2 h2 (by decide) hz2 (at8_q a3 b) (z' := { z with m := { z.m with f := 1, s := 2, q := b } }) ⟨⟨k1, k2, k3⟩, k4, k5⟩ o3 ⟨rfl, rfl⟩ (fun _ => ⟨rfl, rfl⟩) q3
  exact ⟨_, _, by rw [List.length_set, List.length_set, List.length_set], r3⟩
theorem Aw.nil7 (h : Aw lo hi M d k wr y' d') (hA : y'.A = some ⟨g, 0, none⟩) (hg : Bk wr g 36 kk) (h2 : g < hi) (hz : y'.Z[j]? = some z) (hk : k ≠ (j : Int)) :
    ∃ Z' d'', Z'.length = y'.Z.length ∧ Aw lo hi M d k (wr.setCell ⟨g, j * 8 + 7, none⟩ (.slice none 0 0)) { y' with Z := Z' } d'' := by
  obtain ⟨a1, -, o1, q1⟩ := h.at8 hA hz
  obtain ⟨⟨k1, k2, k3⟩, k4, k5⟩ := ok_nt (h.hq.2.2.1.1 z (List.mem_of_getElem? hz)) o1 hg (by decide) (by decide) (j * 8 + 7) (.slice none 0 0)
  refine ⟨_, _, by rw [List.length_set], h.meth (v := .slice none 0 0) (f := 7) hA hg h2 (by decide) hz (at8_k a1) ⟨⟨k1, k2, k3⟩, ⟨fun x hx => (by cases hx), Nat.le_refl _, Nat.zero_le _, .inl ⟨rfl, rfl⟩⟩, rfl⟩ ⟨o1.1, o1.2.1, .inl rfl⟩ ⟨rfl, rfl⟩ (fun e => absurd e hk) ?_⟩
  simp only [qgE, Bool.or_eq_false_iff] at q1 ⊢
  exact ⟨q1.1, by simp⟩
theorem Aw.nil1 (h : Aw lo hi M d k wr y' d') (hA : y'.A = some ⟨g, 0, none⟩) (hg : Bk wr g 36 kk) (h2 : g < hi) (hz : y'.Z[j]? = some z) (hk : k ≠ (j : Int)) :
    ∃ Z' d'', Z'.length = y'.Z.length ∧ Aw lo hi M d k (wr.setCell ⟨g, j * 8 + 1, none⟩ (.slice none 0 0)) { y' with Z := Z' } d'' := by
  obtain ⟨a1, -, o1, q1⟩ := h.at8 hA hz
  obtain ⟨⟨k1, k2, k3⟩, k4, k5⟩ := ok_nt (h.hq.2.2.1.1 z (List.mem_of_getElem? hz)) o1 hg (by decide) (by decide) (j * 8 + 1) (.slice none 0 0)
  refine ⟨_, _, by rw [List.length_set], h.meth (v := .slice none 0 0) (f := 1) hA hg h2 (by decide) hz (at8_l a1) ⟨⟨k1, Rd.none_ _, k3⟩, k4, k5⟩ ⟨o1.1, .inl rfl, o1.2.2⟩ ⟨rfl, rfl⟩ (fun e => absurd e hk) ?_⟩
  simp only [qgE, gB, Bool.or_eq_false_iff] at q1 ⊢
  exact ⟨⟨q1.1.1, by simp⟩, q1.2⟩
end
set_option maxHeartbeats 16000000 in
theorem alone10_walk (y : Ma) (d : Md) (k : Int) (w : World) (hq : Hq w y d) : Calls Try.prog 4 #[dv y d, .int .i64 k] w fun e w' => e = .returned (.bool true) ∧ Below w.heap.size w w' := by
  obtain ⟨G, gc, P, pc, AA, cc, Z⟩ := y
  have S0 := Lib.hid ((((Sx.start w).add (fQm ⟨G, gc, P, pc, AA, cc, Z⟩ d) hq).mkD ⟨G, gc, P, pc, AA, cc, Z⟩ d))
  have HZL := Lib.hid hq.zlen
  obtain ⟨B, hB⟩ : ∃ B, w.heap.size = B := ⟨_, rfl⟩
  have HBB := Lib.hid hB
  rw [hB] at S0
  clear hq
  go_enter Try.func4, Try.ntmps4
  go_upto_region 1 with (fail)
  change Code.wp _ _ _ _ (w.alloc (dcel ⟨G, gc, P, pc, AA, cc, Z⟩ d))
  generalize w.alloc (dcel ⟨G, gc, P, pc, AA, cc, Z⟩ d) = w1 at S0 ⊢
  clear hB
  have HAW := Lib.hid (awake10_any (ktrows F0) (ktcheck F0) (ktheight F0) w1 trivial)
  go_wp2_with fail
  refine HAW.out.mono ?_
  rintro r w2 ⟨rfl, hb⟩
  have S2 := Lib.hid (S0.out.call hb)
  clear HAW hb S0
  have HGR := Lib.hid (great8_v ⟨G, gc, P, pc, AA, cc, Z⟩ d w2 S2.out.2.2.1)
  obtain ⟨-, ⟨d0, d1, d2, d3, d4⟩, -⟩ := S2.out
  dsimp only at d1 d2 d3
  go_wp2_with fail
  refine HGR.out.mono ?_
  rintro r w3 ⟨rfl, hb⟩
  have S3 := Lib.hid (S2.out.call hb)
  clear HGR hb S2 d0 d1 d2 d3 d4
  cases hg : qG d with
  | true =>
    go_wp2_with fail
    go_ret
    exact ⟨rfl, S3.out.1⟩
  | false =>
  have HG := Lib.hid hg
  clear hg
  have HCP := Lib.hid (r8copyw ⟨G, gc, P, pc, AA, cc, Z⟩ d w3 S3.out.2.2.1 HG.out)
  obtain ⟨-, ⟨d0, d1, d2, d3, d4⟩, -⟩ := S3.out
  dsimp only at d1 d2 d3
  go_wp2_with fail
  refine HCP.out.mono ?_
  rintro r w4 ⟨T, rfl, hqT, hoT, hb⟩
  obtain ⟨TG, tgc, TP, tpc, TA, tc, TZ⟩ := T
  obtain ⟨M, hM⟩ : ∃ M, w4.heap.size = M := ⟨_, rfl⟩
  have hlo : w3.heap.size ≤ M := by rw [← hM]; exact hb.size
  have HA0 : Hid (Aw w3.heap.size M M d k (w4.alloc (dcel ⟨TG, tgc, TP, tpc, TA, tc, TZ⟩ { d with i := 99 })) ⟨TG, tgc, TP, tpc, TA, tc, TZ⟩ { d with i := 99 }) := Lib.hid (by
    have h1 := hqT.keep (new1 (a := dcel ⟨TG, tgc, TP, tpc, TA, tc, TZ⟩ { d with i := 99 }))
    have h2 := hoT.keep (new1 (a := dcel ⟨TG, tgc, TP, tpc, TA, tc, TZ⟩ { d with i := 99 }))
    have h3 := Db.new w4 ⟨TG, tgc, TP, tpc, TA, tc, TZ⟩ { d with i := 99 }
    rw [hM] at h2 h3
    exact ⟨⟨h1.1, h1.2.1, h1.2.2.1, h1.2.2.2.1, by dsimp only; omega⟩, h2, h3, ⟨rfl, rfl, rfl⟩, fun z z' _ e1 e2 => by dsimp only at e2; rw [e1] at e2; injection e2 with e2; subst e2; exact ⟨rfl, rfl⟩, HG.out, Nat.le_refl _⟩)
  have HB0 : Hid (Below w3.heap.size w3 (w4.alloc (dcel ⟨TG, tgc, TP, tpc, TA, tc, TZ⟩ { d with i := 99 }))) := Lib.hid (hb.trans (new1.mono hb.size))
  clear hqT hoT hb HCP d0 d1 d2 d3 d4
  go_upto_region 7 with (fail)
  change Code.wp _ _ _ _ (w4.alloc (dcel ⟨TG, tgc, TP, tpc, TA, tc, TZ⟩ { d with i := 99 }))
  generalize w4.alloc (dcel ⟨TG, tgc, TP, tpc, TA, tc, TZ⟩ { d with i := 99 }) = w5 at HA0 HB0 ⊢
  generalize ({ d with i := 99 } : Md) = dd0 at HA0
  clear hM
  obtain ⟨gl, hgl⟩ : ∃ gl, d.g.length = gl := ⟨_, rfl⟩
  obtain ⟨pl, hpl⟩ : ∃ pl, d.p.length = pl := ⟨_, rfl⟩
  obtain ⟨sl, hsl⟩ : ∃ sl, d.s.length = sl := ⟨_, rfl⟩
  have HGL := Lib.hid hgl
  have HPL := Lib.hid hpl
  have HSL := Lib.hid hsl
  have hbds : gl ≤ 100 ∧ pl ≤ 100 ∧ sl ≤ 40 := by
    have hg := HG.out
    simp only [qG, Bool.or_eq_false_iff, decide_eq_false_iff_not] at hg
    omega
  obtain ⟨hgl9, hpl9, hsl9⟩ := hbds
  clear hgl hpl hsl
  go_wp2_with fail
  go_loopw [6] (fun iv wq => ∃ (j : Nat) (dd : Md), j ≤ gl ∧ iv = .int .i64 j ∧ Hid (Aw w3.heap.size M M d k wq ⟨TG, tgc, TP, tpc, TA, tc, TZ⟩ dd) ∧ Hid (Below w3.heap.size w3 wq)) (fun iv _ => gl - (intOf iv).toNat)
  case atStart => exact ⟨0, dd0, by omega, rfl, HA0, HB0⟩
  case round =>
    clear HA0 HB0
    obtain ⟨j, dd, hj, rfl, HA, HB⟩ := hrel
    rename World => wq
    have hl := HA.out.lens.1.trans HGL.out
    obtain ⟨y0, y1, y2, y3, y4⟩ := HA.out.db
    dsimp only at y1 y2 y3
    by_cases h1 : j < gl
    · obtain ⟨g, ua, ka, hAG, hg1, hg2, hca, hfa, hka⟩ := HA.out.ow.1.cellB (i := j * 3 + 1) (by rw [hl]; omega)
      obtain ⟨g', ub, kb, hAG', -, -, hcb, hfb, -⟩ := HA.out.ow.1.cellB (i := j * 3 + 2) (by rw [hl]; omega)
      dsimp only at hAG hAG'
      subst hAG
      injection hAG' with hAG'
      injection hAG' with hAG'
      subst hAG'
      obtain ⟨x, hx⟩ : ∃ x, dd.g[j]? = some x := ⟨_, List.getElem?_eq_getElem (by rw [hl]; exact h1)⟩
      have hok := HA.out.hq.1.1 x (List.mem_of_getElem? hx)
      obtain ⟨ad, ha, hc⟩ : ∃ ad : Addr, some (⟨g, 0, none⟩ : Addr) = some ad ∧ wq.cell? ⟨(ad.add (j * 3)).block, (ad.add (j * 3)).off + 1, none⟩ = some (.int .i64 x.2.1) ∧ wq.cell? ⟨(ad.add (j * 3)).block, (ad.add (j * 3)).off + 2, none⟩ = some (.int .i64 x.2.2) := by
        rcases HA.out.hq.1.2.2.2 with ⟨hn, -⟩ | ⟨ad, ha, hc⟩
        · cases hn
        · exact ⟨ad, ha, (hc j x hx).2⟩
      injection ha with ha
      subst ha
      rw [add0] at hc
      dsimp only at hc
      obtain ⟨k1, k2⟩ := hc
      rw [hl] at y1
      obtain ⟨kk, ax, bx⟩ := x
      dsimp only at k1 k2 hok
      have hax := hok.2.1
      dsimp only at hax
      have hv1 := (td2_bd hax).1
      obtain ⟨dd1, h9⟩ := HA.out.val (j := j) (f := 1) hka hg2 (.inl rfl) hv1
      obtain ⟨dd2, h10⟩ := (h9.keep (below_draws (Below.refl _ _) 1)).val (j := j) (f := 2) (v := 7) (hka.set g (j * 3 + 1) (.int .i64 (ax.tdiv 2))) hg2 (.inr rfl) (by omega)
      clear hca hcb hx hok hl
      go_upto_region 10 with (fail)
      go_region
      have HA9 : Hid (Aw w3.heap.size M M d k (wq.setCell ⟨g, j * 3 + 1, none⟩ (.int .i64 (ax.tdiv 2))).drew ⟨(some ⟨g, 0, none⟩), tgc, TP, tpc, TA, tc, TZ⟩ dd1) := Lib.hid (h9.keep (below_draws (Below.refl _ _) 1))
      have HA10 : Hid (Aw w3.heap.size M M d k ((wq.setCell ⟨g, j * 3 + 1, none⟩ (.int .i64 (ax.tdiv 2))).drew.setCell ⟨g, j * 3 + 2, none⟩ (.int .i64 7)) ⟨(some ⟨g, 0, none⟩), tgc, TP, tpc, TA, tc, TZ⟩ dd2) := Lib.hid h10
      have HB10 : Hid (Below w3.heap.size w3 ((wq.setCell ⟨g, j * 3 + 1, none⟩ (.int .i64 (ax.tdiv 2))).drew.setCell ⟨g, j * 3 + 2, none⟩ (.int .i64 7))) := Lib.hid ((below_draws (HB.out.setCell (p := ⟨g, j * 3 + 1, none⟩) hg1 _) 1).setCell (p := ⟨g, j * 3 + 2, none⟩) hg1 _)
      have k3 : (wq.setCell ⟨g, j * 3 + 1, none⟩ (.int .i64 (ax.tdiv 2))).drew.cell? ⟨g, j * 3 + 2, none⟩ = some (.int .i64 bx) := c8n (by omega) k2
      have f3 : (wq.setCell ⟨g, j * 3 + 1, none⟩ (.int .i64 (ax.tdiv 2))).drew.frozen? ⟨g, j * 3 + 2, none⟩ = false := by
        obtain ⟨cs, hcs, -⟩ := hka.set g (j * 3 + 1) (.int .i64 (ax.tdiv 2))
        exact frozen_of_row (wq.setCell ⟨g, j * 3 + 1, none⟩ (.int .i64 (ax.tdiv 2))).drew g _ _ _ hcs
      clear h9 h10 k1 k2 y0 y1 y2 y3 y4 hfa hfb hka HA HB hv1
      generalize (wq.setCell ⟨g, j * 3 + 1, none⟩ (.int .i64 (ax.tdiv 2))).drew = wA at HA9 HA10 HB10 k3 f3 ⊢
      obtain ⟨y0, y1, y2, y3, y4⟩ := HA9.out.db
      dsimp only at y1 y2 y3
      rw [HA9.out.lens.1.trans HGL.out] at y1
      go_wp2_with fail
      go_roundw
      case rel => exact ⟨j + 1, dd2, by omega, by go_num, HA10, HB10⟩
      case measure => simp [intOf]; omega
    · obtain rfl : gl = j := by omega
      rw [hl] at y1
      go_wp2_with fail
      clear y0 y1 y2 y3 y4 hl
      go_loopw [7] (fun iv wq => ∃ (j : Nat) (dd : Md), j ≤ pl ∧ iv = .int .i64 j ∧ Hid (Aw w3.heap.size M M d k wq ⟨TG, tgc, TP, tpc, TA, tc, TZ⟩ dd) ∧ Hid (Below w3.heap.size w3 wq)) (fun iv _ => pl - (intOf iv).toNat)
      case atStart => exact ⟨0, dd, by omega, rfl, HA, HB⟩
      case round =>
        clear HA HB
        obtain ⟨j, dd, hj, rfl, HA, HB⟩ := hrel
        rename World => wq
        have hl := HA.out.lens.2.1.trans HPL.out
        obtain ⟨y0, y1, y2, y3, y4⟩ := HA.out.db
        dsimp only at y1 y2 y3
        rw [hl] at y2
        by_cases h1 : j < pl
        · obtain ⟨g, ua, ka, hAG, hg1, hg2, hca, hfa, hka⟩ := HA.out.ow.2.1.cellB (i := j * 3 + 1) (by rw [hl]; omega)
          dsimp only at hAG
          subst hAG
          obtain ⟨x, hx⟩ : ∃ x, dd.p[j]? = some x := ⟨_, List.getElem?_eq_getElem (by rw [hl]; exact h1)⟩
          have hok := HA.out.hq.2.1.1 x (List.mem_of_getElem? hx)
          obtain ⟨ad, ha, hc⟩ : ∃ ad : Addr, some (⟨g, 0, none⟩ : Addr) = some ad ∧ wq.cell? ⟨(ad.add (j * 3)).block, (ad.add (j * 3)).off + 1, none⟩ = some (.int .i64 x.2.1) := by
            rcases HA.out.hq.2.1.2.2.2 with ⟨hn, -⟩ | ⟨ad, ha, hc⟩
            · cases hn
            · exact ⟨ad, ha, (hc j x hx).2.1⟩
          injection ha with ha
          subst ha
          rw [add0] at hc
          dsimp only at hc
          obtain ⟨kk, ax, bx⟩ := x
          dsimp only at hc hok
          have hax := hok.2.1
          dsimp only at hax
          obtain ⟨hv1, hv2⟩ := td2_bd hax
          obtain ⟨dd1, h9⟩ := HA.out.val (j := j) (f := 1) hka hg2 (.inl rfl) hv2
          have HB9 := Lib.hid (below_draws (HB.out.setCell (p := ⟨g, j * 3 + 1, none⟩) hg1 (.int .i64 (1 - ax.tdiv 2))) 1)
          clear hca hx hok hl HB
          go_upto_region 15 with (fail)
          go_region
          have HA9 : Hid (Aw w3.heap.size M M d k (wq.setCell ⟨g, j * 3 + 1, none⟩ (.int .i64 (1 - ax.tdiv 2))).drew ⟨TG, tgc, (some ⟨g, 0, none⟩), tpc, TA, tc, TZ⟩ dd1) := Lib.hid (h9.keep (below_draws (Below.refl _ _) 1))
          have HB10 : Hid (Below w3.heap.size w3 (wq.setCell ⟨g, j * 3 + 1, none⟩ (.int .i64 (1 - ax.tdiv 2))).drew) := HB9
          clear h9 hc y0 y1 y2 y3 y4 hfa hka HA hv1 hv2 HB9
          generalize (wq.setCell ⟨g, j * 3 + 1, none⟩ (.int .i64 (1 - ax.tdiv 2))).drew = wA at HA9 HB10 ⊢
          go_wp2_with fail
          go_roundw
          case rel => exact ⟨j + 1, dd1, by omega, by go_num, HA9, HB10⟩
          case measure => simp [intOf]; omega
        · obtain rfl : pl = j := by omega
          go_wp2_with fail
          clear y0 y1 y2 y3 y4 hl
          go_loopw [8] (fun iv wq => ∃ (j : Nat) (ZZ : List Me) (dd : Md), j ≤ sl ∧ iv = .int .i64 j ∧ Hid (Aw w3.heap.size M M d k wq ⟨TG, tgc, TP, tpc, TA, tc, ZZ⟩ dd) ∧ Hid (Below w3.heap.size w3 wq)) (fun iv _ => sl - (intOf iv).toNat)
          case atStart => exact ⟨0, TZ, dd, by omega, rfl, HA, HB⟩
          case round =>
            clear HA HB
            obtain ⟨j, ZZ, dd, hj, rfl, HA, HB⟩ := hrel
            rename World => wq
            have hl := HA.out.lens.2.2.trans HSL.out
            obtain ⟨y0, y1, y2, y3, y4⟩ := HA.out.db
            dsimp only at y1 y2 y3
            rw [hl] at y3
            by_cases h1 : j < sl
            · obtain ⟨g, u3, ka, hAG, hg1, hg2, -, hf3, hka⟩ := HA.out.ow.2.2.1.cellB (i := j * 8 + 3) (by rw [hl]; omega)
              obtain ⟨ga, u4, kb, hA4, -, -, -, hf4, -⟩ := HA.out.ow.2.2.1.cellB (i := j * 8 + 4) (by rw [hl]; omega)
              obtain ⟨gb, u5, kc, hA5, -, -, -, hf5, -⟩ := HA.out.ow.2.2.1.cellB (i := j * 8 + 5) (by rw [hl]; omega)
              dsimp only at hAG hA4 hA5
              subst hAG
              injection hA4 with hA4
              injection hA4 with hA4
              subst hA4
              injection hA5 with hA5
              injection hA5 with hA5
              subst hA5
              obtain ⟨z, hz⟩ : ∃ z, ZZ[j]? = some z := ⟨_, List.getElem?_eq_getElem (by have h := HA.out.hq.zlen; dsimp only at h; rw [h, hl]; exact h1)⟩
              obtain ⟨hat, -⟩ := HA.out.at8 (j := j) rfl hz
              obtain ⟨-, -, -, c3, c4, c5, -, -⟩ := hat
              dsimp only at c3 c4 c5
              obtain ⟨Z3, dd3, hl3, h3⟩ := HA.out.lim rfl hka hg2 hz (!z.m.q)
              clear hl
              go_upto_region 19 with (fail)
              go_region
              have HA3 : Hid (Aw w3.heap.size M M d k (((wq.setCell ⟨g, j * 8 + 4, none⟩ (.int .i64 1)).setCell ⟨g, j * 8 + 5, none⟩ (.int .i64 2)).setCell ⟨g, j * 8 + 3, none⟩ (.bool !z.m.q)).drew ⟨TG, tgc, TP, tpc, (some ⟨g, 0, none⟩), tc, Z3⟩ dd3) := Lib.hid (h3.keep (below_draws (Below.refl _ _) 1))
              have HB3 : Hid (Below w3.heap.size w3 (((wq.setCell ⟨g, j * 8 + 4, none⟩ (.int .i64 1)).setCell ⟨g, j * 8 + 5, none⟩ (.int .i64 2)).setCell ⟨g, j * 8 + 3, none⟩ (.bool !z.m.q)).drew) := Lib.hid (below_draws (((HB.out.setCell (p := ⟨g, j * 8 + 4, none⟩) hg1 _).setCell (p := ⟨g, j * 8 + 5, none⟩) hg1 _).setCell (p := ⟨g, j * 8 + 3, none⟩) hg1 _) 1)
              have HK3 : Hid (Bk (((wq.setCell ⟨g, j * 8 + 4, none⟩ (.int .i64 1)).setCell ⟨g, j * 8 + 5, none⟩ (.int .i64 2)).setCell ⟨g, j * 8 + 3, none⟩ (.bool !z.m.q)).drew g 36 ka) := Lib.hid (((hka.set g _ _).set g _ _).set g _ _)
              clear h3 c3 c4 c5 y0 y1 y2 y3 y4 hf3 hf4 hf5 hka HA HB hz
              generalize (((wq.setCell ⟨g, j * 8 + 4, none⟩ (.int .i64 1)).setCell ⟨g, j * 8 + 5, none⟩ (.int .i64 2)).setCell ⟨g, j * 8 + 3, none⟩ (.bool !z.m.q)).drew = wA at HA3 HB3 HK3 ⊢
              by_cases hjk : (j : Int) = k
              · have e : ((j : Int) != k) = false := by simpa using hjk
                clear hjk
                go_wp2_with fail
                go_roundw
                case rel => exact ⟨j + 1, Z3, dd3, by omega, by go_num, HA3, HB3⟩
                case measure => simp [intOf]; omega
              · have e : ((j : Int) != k) = true := by simpa using hjk
                have HJK : Hid (k ≠ (j : Int)) := Lib.hid fun h => hjk h.symm
                clear hjk
                have HFR : Hid (∀ q, wA.frozen? ⟨g, q, none⟩ = false) := Lib.hid fun q => by
                  obtain ⟨cs, hcs, -⟩ := HK3.out
                  exact frozen_of_row wA g _ _ _ hcs
                obtain ⟨zb, hzb⟩ : ∃ z, Z3[j]? = some z := ⟨_, List.getElem?_eq_getElem (by have h := HA3.out.hq.zlen; dsimp only at h; rw [h, HA3.out.lens.2.2.trans HSL.out]; exact h1)⟩
                obtain ⟨hat, -⟩ := HA3.out.at8 (j := j) rfl hzb
                obtain ⟨-, -, -, -, -, -, -, c7⟩ := hat
                dsimp only at c7
                have f7 := HFR.out (j * 8 + 7)
                obtain ⟨Z4, dd4, hl4, h4⟩ := HA3.out.nil7 rfl HK3.out hg2 hzb HJK.out
                have HA4 : Hid (Aw w3.heap.size M M d k (wA.setCell ⟨g, j * 8 + 7, none⟩ (.slice none 0 0)) ⟨TG, tgc, TP, tpc, (some ⟨g, 0, none⟩), tc, Z4⟩ dd4) := Lib.hid h4
                have HB4 : Hid (Below w3.heap.size w3 (wA.setCell ⟨g, j * 8 + 7, none⟩ (.slice none 0 0))) := Lib.hid (HB3.out.setCell (p := ⟨g, j * 8 + 7, none⟩) hg1 _)
                have HK4 : Hid (Bk (wA.setCell ⟨g, j * 8 + 7, none⟩ (.slice none 0 0)) g 36 ka) := Lib.hid (HK3.out.set g _ _)
                obtain ⟨y0, y1, y2, y3, y4⟩ := HA3.out.db
                dsimp only at y1 y2 y3
                rw [HA3.out.lens.2.2.trans HSL.out] at y3
                clear h4 hzb
                go_upto_region 22 with (fail)
                generalize wA.setCell ⟨g, j * 8 + 7, none⟩ (.slice none 0 0) = wB at HA4 HB4 HK4 ⊢
                clear c7 f7 HFR y0 y1 y2 y3 y4 HA3 HB3 HK3
                have HFR : Hid (∀ q, wB.frozen? ⟨g, q, none⟩ = false) := Lib.hid fun q => by
                  obtain ⟨cs, hcs, -⟩ := HK4.out
                  exact frozen_of_row wB g _ _ _ hcs
                obtain ⟨zc, hzc⟩ : ∃ z, Z4[j]? = some z := ⟨_, List.getElem?_eq_getElem (by have h := HA4.out.hq.zlen; dsimp only at h; rw [h, HA4.out.lens.2.2.trans HSL.out]; exact h1)⟩
                obtain ⟨hat, -⟩ := HA4.out.at8 (j := j) rfl hzc
                obtain ⟨-, c1, -⟩ := hat
                dsimp only at c1
                have f1 := HFR.out (j * 8 + 1)
                obtain ⟨Z5, dd5, hl5, h5⟩ := HA4.out.nil1 rfl HK4.out hg2 hzc HJK.out
                have HA5 : Hid (Aw w3.heap.size M M d k (wB.setCell ⟨g, j * 8 + 1, none⟩ (.slice none 0 0)) ⟨TG, tgc, TP, tpc, (some ⟨g, 0, none⟩), tc, Z5⟩ dd5) := Lib.hid h5
                have HB5 : Hid (Below w3.heap.size w3 (wB.setCell ⟨g, j * 8 + 1, none⟩ (.slice none 0 0))) := Lib.hid (HB4.out.setCell (p := ⟨g, j * 8 + 1, none⟩) hg1 _)
                obtain ⟨y0, y1, y2, y3, y4⟩ := HA4.out.db
                dsimp only at y1 y2 y3
                rw [HA4.out.lens.2.2.trans HSL.out] at y3
                clear h5 hzc
                go_upto_region 18 with (fail)
                generalize wB.setCell ⟨g, j * 8 + 1, none⟩ (.slice none 0 0) = wC at HA5 HB5 ⊢
                clear c1 f1 y0 y1 y2 y3 y4 HFR HA4 HB4 HK4
                go_wp2_with fail
                go_roundw
                case rel => exact ⟨j + 1, Z5, dd5, by omega, by go_num, HA5, HB5⟩
                case measure => simp [intOf]; omega
            · obtain rfl : sl = j := by omega
              have SR := Lib.hid (S3.out.call HB.out)
              have HRO := Lib.hid (trows_v ⟨G, gc, P, pc, AA, cc, Z⟩ d k wq SR.out.2.2.1 HG.out)
              obtain ⟨E, hE⟩ : ∃ E, (rw10s d k).2 = E := ⟨_, rfl⟩
              have HE := Lib.hid hE
              obtain ⟨-, ⟨d0, d1, d2, d3, d4⟩, -⟩ := SR.out
              dsimp only at d1 d2 d3
              go_wp2_with fail
              refine HRO.out.mono ?_
              rintro r w9 ⟨A, c, R, rfl, hrz, hrw, hb⟩
              rw [hE]
              have HRZ := Lib.hid hrz
              have S9 : Hid (Sx w w9 [fRw A c R, fD B ⟨G, gc, P, pc, AA, cc, Z⟩ d, fQm ⟨G, gc, P, pc, AA, cc, Z⟩ d]) := Lib.hid ⟨(SR.out.call hb).1, hrw, (SR.out.call hb).2⟩
              have HA9 := Lib.hid (HA.out.keep hb)
              clear HRO hrz hrw hb SR HA HB y0 y1 y2 y3 y4 d0 d1 d2 d3 d4 hE hl
              have HRO := Lib.hid (trows_v ⟨TG, tgc, TP, tpc, TA, tc, ZZ⟩ dd k w9 HA9.out.hq HA9.out.qg)
              rw [HA9.out.rows] at HRO
              obtain ⟨y0, y1, y2, y3, y4⟩ := HA9.out.db
              dsimp only at y1 y2 y3
              go_wp2_with fail
              refine HRO.out.mono ?_
              rintro r w10 ⟨A8, c8, R2, rfl, hrz2, hrw2, hb⟩
              rw [HE.out]
              have HR2 : Hid (R2.map rz = R.map rz) := Lib.hid (by rw [hrz2, HRZ.out])
              obtain ⟨mm, hmm⟩ : ∃ mm, R.length = mm := ⟨_, rfl⟩
              have HRL := Lib.hid hmm
              have hmm9 : mm ≤ 9223372036854775807 := by rw [← hmm]; exact S9.out.2.1.len
              have HRL2 : Hid (R2.length = mm) := Lib.hid (by
                have h := congrArg List.length HR2.out
                rw [List.length_map, List.length_map, hmm] at h
                exact h)
              rw [hmm, HRL2.out]
              have HA10 := Lib.hid (HA9.out.keep hb)
              have S10 : Hid (Sx w w10 [fRw A8 c8 R2, fD M ⟨TG, tgc, TP, tpc, TA, tc, ZZ⟩ dd, fQm ⟨TG, tgc, TP, tpc, TA, tc, ZZ⟩ dd, fRw A c R, fD B ⟨G, gc, P, pc, AA, cc, Z⟩ d, fQm ⟨G, gc, P, pc, AA, cc, Z⟩ d]) := Lib.hid ⟨(S9.out.call hb).1, hrw2, HA10.out.db, HA10.out.hq, (S9.out.call hb).2⟩
              have HQ2 := Lib.hid HA10.out.qg
              have HRE := Lib.hid HA10.out.rows
              clear HRO hrz2 hrw2 hb HA9 S9 y0 y1 y2 y3 y4 hmm
              have q1 : (E != E) = false := by simp
              have q2 : ((mm : Int) != mm) = false := by simp
              go_upto_region 25 with (fail)
              refine wp_region_held_drew (S := fun w' => Hid (Sx w w' [fRw A8 c8 R2, fD M ⟨TG, tgc, TP, tpc, TA, tc, ZZ⟩ dd, fQm ⟨TG, tgc, TP, tpc, TA, tc, ZZ⟩ dd, fRw A c R, fD B ⟨G, gc, P, pc, AA, cc, Z⟩ d, fQm ⟨G, gc, P, pc, AA, cc, Z⟩ d])) (by kernel_rfl) (Hsx.drew S10) (fun hHeld => ?_)
              refine wpAnyH_take (i := 0) (v := ?_) rfl (by kernel_rfl) (by kernel_rfl) (by kernel_rfl) (fun _ _ _ h => h) (Or.inl ⟨by rfl, ?_⟩) (by assumption) ?_
              rotate_left 1
              · intro w _; go_simp; try with_reducible rfl
              try simp only [Act.put, List.getElem_toArray, List.getElem_cons_zero, List.getElem_cons_succ, List.setIfInBounds_toArray, List.set_cons_zero, List.set_cons_succ]
              refine wpAnyH_take (i := 1) (v := ?_) rfl (by kernel_rfl) (by kernel_rfl) (by kernel_rfl) (fun _ _ _ h => h) (Or.inl ⟨by rfl, ?_⟩) (by assumption) ?_
              rotate_left 1
              · intro w _; go_simp; try with_reducible rfl
              try simp only [Act.put, List.getElem_toArray, List.getElem_cons_zero, List.getElem_cons_succ, List.setIfInBounds_toArray, List.set_cons_zero, List.set_cons_succ]
              refine wpAnyH_take (i := 2) (v := ?_) rfl (by kernel_rfl) (by kernel_rfl) (by kernel_rfl) (fun _ _ _ h => h) (Or.inl ⟨by rfl, ?_⟩) (by assumption) ?_
              rotate_left 1
              · intro w _; go_simp; try with_reducible rfl
              try simp only [Act.put, List.getElem_toArray, List.getElem_cons_zero, List.getElem_cons_succ, List.setIfInBounds_toArray, List.set_cons_zero, List.set_cons_succ]
              refine wpAnyH_take (i := 3) (v := ?_) rfl (by kernel_rfl) (by kernel_rfl) (by kernel_rfl) (fun _ _ _ h => h) (Or.inl ⟨by rfl, ?_⟩) (by assumption) ?_
              rotate_left 1
              · intro w _; go_simp; try with_reducible rfl
              try simp only [Act.put, List.getElem_toArray, List.getElem_cons_zero, List.getElem_cons_succ, List.setIfInBounds_toArray, List.set_cons_zero, List.set_cons_succ]
              refine wpAnyH_take (i := 4) (v := ?_) rfl (by kernel_rfl) (by kernel_rfl) (by kernel_rfl) (fun _ _ _ h => h) (Or.inl ⟨by rfl, ?_⟩) (by assumption) ?_
              rotate_left 1
              · intro w _; go_simp; try with_reducible rfl
              try simp only [Act.put, List.getElem_toArray, List.getElem_cons_zero, List.getElem_cons_succ, List.setIfInBounds_toArray, List.set_cons_zero, List.set_cons_succ]
              refine wpAnyH_take (i := 5) (v := ?_) rfl (by kernel_rfl) (by kernel_rfl) (by kernel_rfl) (fun _ _ _ h => h) (Or.inl ⟨by rfl, ?_⟩) (by assumption) ?_
              rotate_left 1
              · intro w _; go_simp; try with_reducible rfl
              try simp only [Act.put, List.getElem_toArray, List.getElem_cons_zero, List.getElem_cons_succ, List.setIfInBounds_toArray, List.set_cons_zero, List.set_cons_succ]
              refine wpAnyH_take (i := 6) (v := ?_) rfl (by kernel_rfl) (by kernel_rfl) (by kernel_rfl) (fun _ _ _ h => h) (Or.inl ⟨by rfl, ?_⟩) (by assumption) ?_
              rotate_left 1
              · intro w _; go_simp; try with_reducible rfl
              try simp only [Act.put, List.getElem_toArray, List.getElem_cons_zero, List.getElem_cons_succ, List.setIfInBounds_toArray, List.set_cons_zero, List.set_cons_succ]
              refine wpAnyH_take (i := 7) (v := ?_) rfl (by kernel_rfl) (by kernel_rfl) (by kernel_rfl) (fun _ _ _ h => h) (Or.inl ⟨by rfl, ?_⟩) (by assumption) ?_
              rotate_left 1
              · intro w _; go_simp; try with_reducible rfl
              try simp only [Act.put, List.getElem_toArray, List.getElem_cons_zero, List.getElem_cons_succ, List.setIfInBounds_toArray, List.set_cons_zero, List.set_cons_succ]
              refine wpAnyH_take (i := 8) (v := ?_) rfl (by kernel_rfl) (by kernel_rfl) (by kernel_rfl) (fun _ _ _ h => h) (Or.inl ⟨by rfl, ?_⟩) (by assumption) ?_
              rotate_left 1
              · intro w _; go_simp; try with_reducible rfl
              try simp only [Act.put, List.getElem_toArray, List.getElem_cons_zero, List.getElem_cons_succ, List.setIfInBounds_toArray, List.set_cons_zero, List.set_cons_succ]
              refine wpAnyH_take (i := 9) (v := ?_) rfl (by kernel_rfl) (by kernel_rfl) (by kernel_rfl) (fun _ _ _ h => h) (Or.inl ⟨by rfl, ?_⟩) (by assumption) ?_
              rotate_left 1
              · intro w _; go_simp; try with_reducible rfl
              try simp only [Act.put, List.getElem_toArray, List.getElem_cons_zero, List.getElem_cons_succ, List.setIfInBounds_toArray, List.set_cons_zero, List.set_cons_succ]
              refine wpAnyH_take (i := 10) (v := ?_) rfl (by kernel_rfl) (by kernel_rfl) (by kernel_rfl) (fun _ _ _ h => h) (Or.inl ⟨by rfl, ?_⟩) (by assumption) ?_
              rotate_left 1
              · intro w _; go_simp; try with_reducible rfl
              try simp only [Act.put, List.getElem_toArray, List.getElem_cons_zero, List.getElem_cons_succ, List.setIfInBounds_toArray, List.set_cons_zero, List.set_cons_succ]
              refine wpAnyH_take (i := 11) (v := ?_) rfl (by kernel_rfl) (by kernel_rfl) (by kernel_rfl) (fun _ _ _ h => h) (Or.inl ⟨by rfl, ?_⟩) (by assumption) ?_
              rotate_left 1
              · intro w hSw; (try dsimp only at hSw); obtain ⟨-, -, ⟨e0, e1, e2, e3, e4⟩, -, -, ⟨d0, d1, d2, d3, d4⟩, -⟩ := hSw.out; dsimp only at e1 e2 e3 d1 d2 d3; go_simp; try with_reducible rfl
              try simp only [Act.put, List.getElem_toArray, List.getElem_cons_zero, List.getElem_cons_succ, List.setIfInBounds_toArray, List.set_cons_zero, List.set_cons_succ]
              refine wpAnyH_take (i := 12) (v := ?_) rfl (by kernel_rfl) (by kernel_rfl) (by kernel_rfl) (fun _ _ _ h => h) (Or.inl ⟨by rfl, ?_⟩) (by assumption) ?_
              rotate_left 1
              · intro w _; go_simp; try with_reducible rfl
              try simp only [Act.put, List.getElem_toArray, List.getElem_cons_zero, List.getElem_cons_succ, List.setIfInBounds_toArray, List.set_cons_zero, List.set_cons_succ]
              refine wpAnyH_take (i := 14) (v := ?_) rfl (by kernel_rfl) (by kernel_rfl) (by kernel_rfl) (fun _ _ _ h => h) (Or.inl ⟨by rfl, ?_⟩) (by assumption) ?_
              rotate_left 1
              · intro w hSw; (try dsimp only at hSw); obtain ⟨-, -, ⟨e0, e1, e2, e3, e4⟩, -, -, ⟨d0, d1, d2, d3, d4⟩, -⟩ := hSw.out; dsimp only at e1 e2 e3 d1 d2 d3; go_simp; try with_reducible rfl
              try simp only [Act.put, List.getElem_toArray, List.getElem_cons_zero, List.getElem_cons_succ, List.setIfInBounds_toArray, List.set_cons_zero, List.set_cons_succ]
              refine wpAnyH_take (i := 15) (v := ?_) rfl (by kernel_rfl) (by kernel_rfl) (by kernel_rfl) (fun _ _ _ h => h) (Or.inl ⟨by rfl, ?_⟩) (by assumption) ?_
              rotate_left 1
              · intro w _; go_simp; try with_reducible rfl
              try simp only [Act.put, List.getElem_toArray, List.getElem_cons_zero, List.getElem_cons_succ, List.setIfInBounds_toArray, List.set_cons_zero, List.set_cons_succ]
              refine wpAnyH_ready (rs := [13]) (by kernel_rfl) (by simp) ?_
              refine AllReadyH.cons rfl (fun K hK => ?_) AllReadyH.nil
              go_simp
              refine (ktcheck F0 ⟨TG, tgc, TP, tpc, TA, tc, ZZ⟩ dd k _ trivial hHeld.out.2.2.2.1 HQ2.out).mono ?_
              rw [HRE.out, HE.out]
              rintro r w11 ⟨rfl, hb⟩
              go_wp2_with fail
              refine hK.out _ _ (Hsx.call hb hHeld) (fun hHeld => ?_)
              clear hK K
              try simp only [Act.put, List.getElem_toArray, List.getElem_cons_zero, List.getElem_cons_succ, List.setIfInBounds_toArray, List.set_cons_zero, List.set_cons_succ]
              refine wpAnyH_ready (rs := [16]) (by kernel_rfl) (by simp) ?_
              refine AllReadyH.cons rfl (fun K hK => ?_) AllReadyH.nil
              go_simp
              refine (ktcheck F0 ⟨G, gc, P, pc, AA, cc, Z⟩ d k _ trivial hHeld.out.2.2.2.2.2.2.1 HG.out).mono ?_
              rw [HE.out]
              rintro r w11 ⟨rfl, hb⟩
              go_wp2_with fail
              refine hK.out _ _ (Hsx.call hb hHeld) (fun hHeld => ?_)
              clear hK K
              try simp only [Act.put, List.getElem_toArray, List.getElem_cons_zero, List.getElem_cons_succ, List.setIfInBounds_toArray, List.set_cons_zero, List.set_cons_succ]
              refine wpAnyH_take (i := 17) (v := ?_) rfl (by kernel_rfl) (by kernel_rfl) (by kernel_rfl) (fun _ _ _ h => h) (Or.inl ⟨by rfl, ?_⟩) (by assumption) ?_
              rotate_left 1
              · intro w _; go_simp; try with_reducible rfl
              try simp only [Act.put, List.getElem_toArray, List.getElem_cons_zero, List.getElem_cons_succ, List.setIfInBounds_toArray, List.set_cons_zero, List.set_cons_succ]
              refine wpAnyH_take (i := 18) (v := ?_) rfl (by kernel_rfl) (by kernel_rfl) (by kernel_rfl) (fun _ _ _ h => h) (Or.inl ⟨by rfl, ?_⟩) (by assumption) ?_
              rotate_left 1
              · intro w _; go_simp; try with_reducible rfl
              try simp only [Act.put, List.getElem_toArray, List.getElem_cons_zero, List.getElem_cons_succ, List.setIfInBounds_toArray, List.set_cons_zero, List.set_cons_succ]
              refine wpAnyH_done (by kernel_rfl) ?_ _
              have SZ : Hid (Sx w _ [fRw A c R, fRw A8 c8 R2]) := Lib.hid ⟨hHeld.out.1, hHeld.out.2.2.2.2.1, hHeld.out.2.1, trivial⟩
              clear hHeld
              go_wp2_with fail
              go_loopw [13] (fun iv wq => ∃ i : Nat, i ≤ mm ∧ iv = .int .i64 i ∧ Hid (Sx w wq [fRw A c R, fRw A8 c8 R2])) (fun iv _ => mm - (intOf iv).toNat)
              case atStart => exact ⟨0, by omega, rfl, SZ⟩
              case round =>
                clear SZ
                obtain ⟨i, hi, rfl, SQ⟩ := hrel
                rename World => wr
                by_cases h1 : i < mm
                · obtain ⟨⟨r1, C1, b1, K1⟩, hz1⟩ : ∃ z, R[i]? = some z := ⟨_, List.getElem?_eq_getElem (by rw [HRL.out]; exact h1)⟩
                  obtain ⟨⟨r2, C2, b2, K2⟩, hz2⟩ : ∃ z, R2[i]? = some z := ⟨_, List.getElem?_eq_getElem (by rw [HRL2.out]; exact h1)⟩
                  have he := map_rz10 hz2
                  rw [HR2.out, map_rz10 hz1] at he
                  injection he with e1 e2
                  dsimp only at e1 e2
                  subst e1 e2
                  obtain ⟨a1, hA1, ⟨p0, p1⟩, hk1⟩ := SQ.out.2.1.at_ hz1
                  subst hA1
                  obtain ⟨a2, hA2, ⟨p2, p3⟩, hk2⟩ := SQ.out.2.2.1.at_ hz2
                  subst hA2
                  dsimp only at p0 p1 p2 p3 hk1 hk2
                  have SC : Hid (Sx w wr [fC1 (a1.add (i * 2)) (.bool r1), fC1 ⟨(a1.add (i * 2)).block, (a1.add (i * 2)).off + 1, none⟩ (.slice C1 K1.length b1), fC1 (a2.add (i * 2)) (.bool r1), fC1 ⟨(a2.add (i * 2)).block, (a2.add (i * 2)).off + 1, none⟩ (.slice C2 K1.length b2), fR C1 b1 K1, fR C2 b2 K1, fRw (some a1) c R, fRw (some a2) c8 R2]) := Lib.hid ⟨SQ.out.1, p0, p1, p2, p3, hk1, hk2, SQ.out.2⟩
                  have hrr : (r1 != r1) = false := by simp
                  clear hz1 hz2 p0 p1 p2 p3 hk1 hk2 SQ
                  go_upto_region 30 with (fail)
                  refine wp_region_held_drew (S := fun w' => Hid (Sx w w' [fC1 (a1.add (i * 2)) (.bool r1), fC1 ⟨(a1.add (i * 2)).block, (a1.add (i * 2)).off + 1, none⟩ (.slice C1 K1.length b1), fC1 (a2.add (i * 2)) (.bool r1), fC1 ⟨(a2.add (i * 2)).block, (a2.add (i * 2)).off + 1, none⟩ (.slice C2 K1.length b2), fR C1 b1 K1, fR C2 b2 K1, fRw (some a1) c R, fRw (some a2) c8 R2])) (by kernel_rfl) (Hsx.drew SC) (fun hHeld => ?_)
                  refine wpAnyH_take (i := 0) (v := ?_) rfl (by kernel_rfl) (by kernel_rfl) (by kernel_rfl) (fun _ _ _ h => h) (Or.inl ⟨by rfl, ?_⟩) (by assumption) ?_
                  rotate_left 1
                  · intro w _; go_simp; try with_reducible rfl
                  try simp only [Act.put, List.getElem_toArray, List.getElem_cons_zero, List.getElem_cons_succ, List.setIfInBounds_toArray, List.set_cons_zero, List.set_cons_succ]
                  refine wpAnyH_take (i := 1) (v := ?_) rfl (by kernel_rfl) (by kernel_rfl) (by kernel_rfl) (fun _ _ _ h => h) (Or.inl ⟨by rfl, ?_⟩) (by assumption) ?_
                  rotate_left 1
                  · intro w _; go_simp; try with_reducible rfl
                  try simp only [Act.put, List.getElem_toArray, List.getElem_cons_zero, List.getElem_cons_succ, List.setIfInBounds_toArray, List.set_cons_zero, List.set_cons_succ]
                  refine wpAnyH_take (i := 2) (v := ?_) rfl (by kernel_rfl) (by kernel_rfl) (by kernel_rfl) (fun _ _ _ h => h) (Or.inl ⟨by rfl, ?_⟩) (by assumption) ?_
                  rotate_left 1
                  · intro w _; go_simp; try with_reducible rfl
                  try simp only [Act.put, List.getElem_toArray, List.getElem_cons_zero, List.getElem_cons_succ, List.setIfInBounds_toArray, List.set_cons_zero, List.set_cons_succ]
                  refine wpAnyH_take (i := 3) (v := ?_) rfl (by kernel_rfl) (by kernel_rfl) (by kernel_rfl) (fun _ _ _ h => h) (Or.inl ⟨by rfl, ?_⟩) (by assumption) ?_
                  rotate_left 1
                  · intro w _; go_simp; try with_reducible rfl
                  try simp only [Act.put, List.getElem_toArray, List.getElem_cons_zero, List.getElem_cons_succ, List.setIfInBounds_toArray, List.set_cons_zero, List.set_cons_succ]
                  refine wpAnyH_take (i := 4) (v := ?_) rfl (by kernel_rfl) (by kernel_rfl) (by kernel_rfl) (fun _ _ _ h => h) (Or.inl ⟨by rfl, ?_⟩) (by assumption) ?_
                  rotate_left 1
                  · intro w hSw; (try dsimp only at hSw); obtain ⟨-, s0, s1, s2, s3, -⟩ := hSw.out; dsimp only at s0 s1 s2 s3; go_simp; try with_reducible rfl
                  try simp only [Act.put, List.getElem_toArray, List.getElem_cons_zero, List.getElem_cons_succ, List.setIfInBounds_toArray, List.set_cons_zero, List.set_cons_succ]
                  refine wpAnyH_take (i := 5) (v := ?_) rfl (by kernel_rfl) (by kernel_rfl) (by kernel_rfl) (fun _ _ _ h => h) (Or.inl ⟨by rfl, ?_⟩) (by assumption) ?_
                  rotate_left 1
                  · intro w _; go_simp; try with_reducible rfl
                  try simp only [Act.put, List.getElem_toArray, List.getElem_cons_zero, List.getElem_cons_succ, List.setIfInBounds_toArray, List.set_cons_zero, List.set_cons_succ]
                  refine wpAnyH_take (i := 6) (v := ?_) rfl (by kernel_rfl) (by kernel_rfl) (by kernel_rfl) (fun _ _ _ h => h) (Or.inl ⟨by rfl, ?_⟩) (by assumption) ?_
                  rotate_left 1
                  · intro w _; go_simp; try with_reducible rfl
                  try simp only [Act.put, List.getElem_toArray, List.getElem_cons_zero, List.getElem_cons_succ, List.setIfInBounds_toArray, List.set_cons_zero, List.set_cons_succ]
                  refine wpAnyH_take (i := 7) (v := ?_) rfl (by kernel_rfl) (by kernel_rfl) (by kernel_rfl) (fun _ _ _ h => h) (Or.inl ⟨by rfl, ?_⟩) (by assumption) ?_
                  rotate_left 1
                  · intro w _; go_simp; try with_reducible rfl
                  try simp only [Act.put, List.getElem_toArray, List.getElem_cons_zero, List.getElem_cons_succ, List.setIfInBounds_toArray, List.set_cons_zero, List.set_cons_succ]
                  refine wpAnyH_take (i := 8) (v := ?_) rfl (by kernel_rfl) (by kernel_rfl) (by kernel_rfl) (fun _ _ _ h => h) (Or.inl ⟨by rfl, ?_⟩) (by assumption) ?_
                  rotate_left 1
                  · intro w _; go_simp; try with_reducible rfl
                  try simp only [Act.put, List.getElem_toArray, List.getElem_cons_zero, List.getElem_cons_succ, List.setIfInBounds_toArray, List.set_cons_zero, List.set_cons_succ]
                  refine wpAnyH_take (i := 9) (v := ?_) rfl (by kernel_rfl) (by kernel_rfl) (by kernel_rfl) (fun _ _ _ h => h) (Or.inl ⟨by rfl, ?_⟩) (by assumption) ?_
                  rotate_left 1
                  · intro w hSw; (try dsimp only at hSw); obtain ⟨-, s0, s1, s2, s3, -⟩ := hSw.out; dsimp only at s0 s1 s2 s3; go_simp; try with_reducible rfl
                  try simp only [Act.put, List.getElem_toArray, List.getElem_cons_zero, List.getElem_cons_succ, List.setIfInBounds_toArray, List.set_cons_zero, List.set_cons_succ]
                  refine wpAnyH_take (i := 10) (v := ?_) rfl (by kernel_rfl) (by kernel_rfl) (by kernel_rfl) (fun _ _ _ h => h) (Or.inl ⟨by rfl, ?_⟩) (by assumption) ?_
                  rotate_left 1
                  · intro w _; go_simp; try with_reducible rfl
                  try simp only [Act.put, List.getElem_toArray, List.getElem_cons_zero, List.getElem_cons_succ, List.setIfInBounds_toArray, List.set_cons_zero, List.set_cons_succ]
                  refine wpAnyH_take (i := 11) (v := ?_) rfl (by kernel_rfl) (by kernel_rfl) (by kernel_rfl) (fun _ _ _ h => h) (Or.inl ⟨by rfl, ?_⟩) (by assumption) ?_
                  rotate_left 1
                  · intro w _; go_simp; try with_reducible rfl
                  try simp only [Act.put, List.getElem_toArray, List.getElem_cons_zero, List.getElem_cons_succ, List.setIfInBounds_toArray, List.set_cons_zero, List.set_cons_succ]
                  refine wpAnyH_take (i := 12) (v := ?_) rfl (by kernel_rfl) (by kernel_rfl) (by kernel_rfl) (fun _ _ _ h => h) (Or.inl ⟨by rfl, ?_⟩) (by assumption) ?_
                  rotate_left 1
                  · intro w _; go_simp; try with_reducible rfl
                  try simp only [Act.put, List.getElem_toArray, List.getElem_cons_zero, List.getElem_cons_succ, List.setIfInBounds_toArray, List.set_cons_zero, List.set_cons_succ]
                  refine wpAnyH_take (i := 13) (v := ?_) rfl (by kernel_rfl) (by kernel_rfl) (by kernel_rfl) (fun _ _ _ h => h) (Or.inl ⟨by rfl, ?_⟩) (by assumption) ?_
                  rotate_left 1
                  · intro w _; go_simp; try with_reducible rfl
                  try simp only [Act.put, List.getElem_toArray, List.getElem_cons_zero, List.getElem_cons_succ, List.setIfInBounds_toArray, List.set_cons_zero, List.set_cons_succ]
                  refine wpAnyH_take (i := 14) (v := ?_) rfl (by kernel_rfl) (by kernel_rfl) (by kernel_rfl) (fun _ _ _ h => h) (Or.inl ⟨by rfl, ?_⟩) (by assumption) ?_
                  rotate_left 1
                  · intro w _; go_simp; try with_reducible rfl
                  try simp only [Act.put, List.getElem_toArray, List.getElem_cons_zero, List.getElem_cons_succ, List.setIfInBounds_toArray, List.set_cons_zero, List.set_cons_succ]
                  refine wpAnyH_take (i := 15) (v := ?_) rfl (by kernel_rfl) (by kernel_rfl) (by kernel_rfl) (fun _ _ _ h => h) (Or.inl ⟨by rfl, ?_⟩) (by assumption) ?_
                  rotate_left 1
                  · intro w _; go_simp; try with_reducible rfl
                  try simp only [Act.put, List.getElem_toArray, List.getElem_cons_zero, List.getElem_cons_succ, List.setIfInBounds_toArray, List.set_cons_zero, List.set_cons_succ]
                  refine wpAnyH_take (i := 16) (v := ?_) rfl (by kernel_rfl) (by kernel_rfl) (by kernel_rfl) (fun _ _ _ h => h) (Or.inl ⟨by rfl, ?_⟩) (by assumption) ?_
                  rotate_left 1
                  · intro w hSw; (try dsimp only at hSw); obtain ⟨-, s0, s1, s2, s3, -⟩ := hSw.out; dsimp only at s0 s1 s2 s3; go_simp; try with_reducible rfl
                  try simp only [Act.put, List.getElem_toArray, List.getElem_cons_zero, List.getElem_cons_succ, List.setIfInBounds_toArray, List.set_cons_zero, List.set_cons_succ]
                  refine wpAnyH_take (i := 17) (v := ?_) rfl (by kernel_rfl) (by kernel_rfl) (by kernel_rfl) (fun _ _ _ h => h) (Or.inl ⟨by rfl, ?_⟩) (by assumption) ?_
                  rotate_left 1
                  · intro w _; go_simp; try with_reducible rfl
                  try simp only [Act.put, List.getElem_toArray, List.getElem_cons_zero, List.getElem_cons_succ, List.setIfInBounds_toArray, List.set_cons_zero, List.set_cons_succ]
                  refine wpAnyH_take (i := 18) (v := ?_) rfl (by kernel_rfl) (by kernel_rfl) (by kernel_rfl) (fun _ _ _ h => h) (Or.inl ⟨by rfl, ?_⟩) (by assumption) ?_
                  rotate_left 1
                  · intro w _; go_simp; try with_reducible rfl
                  try simp only [Act.put, List.getElem_toArray, List.getElem_cons_zero, List.getElem_cons_succ, List.setIfInBounds_toArray, List.set_cons_zero, List.set_cons_succ]
                  refine wpAnyH_take (i := 19) (v := ?_) rfl (by kernel_rfl) (by kernel_rfl) (by kernel_rfl) (fun _ _ _ h => h) (Or.inl ⟨by rfl, ?_⟩) (by assumption) ?_
                  rotate_left 1
                  · intro w _; go_simp; try with_reducible rfl
                  try simp only [Act.put, List.getElem_toArray, List.getElem_cons_zero, List.getElem_cons_succ, List.setIfInBounds_toArray, List.set_cons_zero, List.set_cons_succ]
                  refine wpAnyH_take (i := 20) (v := ?_) rfl (by kernel_rfl) (by kernel_rfl) (by kernel_rfl) (fun _ _ _ h => h) (Or.inl ⟨by rfl, ?_⟩) (by assumption) ?_
                  rotate_left 1
                  · intro w _; go_simp; try with_reducible rfl
                  try simp only [Act.put, List.getElem_toArray, List.getElem_cons_zero, List.getElem_cons_succ, List.setIfInBounds_toArray, List.set_cons_zero, List.set_cons_succ]
                  refine wpAnyH_take (i := 21) (v := ?_) rfl (by kernel_rfl) (by kernel_rfl) (by kernel_rfl) (fun _ _ _ h => h) (Or.inl ⟨by rfl, ?_⟩) (by assumption) ?_
                  rotate_left 1
                  · intro w hSw; (try dsimp only at hSw); obtain ⟨-, s0, s1, s2, s3, -⟩ := hSw.out; dsimp only at s0 s1 s2 s3; go_simp; try with_reducible rfl
                  try simp only [Act.put, List.getElem_toArray, List.getElem_cons_zero, List.getElem_cons_succ, List.setIfInBounds_toArray, List.set_cons_zero, List.set_cons_succ]
                  refine wpAnyH_ready (rs := [22]) (by kernel_rfl) (by simp) ?_
                  refine AllReadyH.cons rfl (fun K hK => ?_) AllReadyH.nil
                  go_simp
                  refine (r7same_v C1 C2 b1 b2 K1.length K1.length K1 K1 true _ hHeld.out.2.2.2.2.2.1 hHeld.out.2.2.2.2.2.2.1 rfl rfl (by simp)).mono ?_
                  rintro r w9 ⟨rfl, hb⟩
                  go_wp2_with fail
                  refine hK.out _ _ (Hsx.call hb hHeld) (fun hHeld => ?_)
                  clear hK K
                  try simp only [Act.put, List.getElem_toArray, List.getElem_cons_zero, List.getElem_cons_succ, List.setIfInBounds_toArray, List.set_cons_zero, List.set_cons_succ]
                  refine wpAnyH_take (i := 23) (v := ?_) rfl (by kernel_rfl) (by kernel_rfl) (by kernel_rfl) (fun _ _ _ h => h) (Or.inl ⟨by rfl, ?_⟩) (by assumption) ?_
                  rotate_left 1
                  · intro w _; go_simp; try with_reducible rfl
                  try simp only [Act.put, List.getElem_toArray, List.getElem_cons_zero, List.getElem_cons_succ, List.setIfInBounds_toArray, List.set_cons_zero, List.set_cons_succ]
                  refine wpAnyH_take (i := 24) (v := ?_) rfl (by kernel_rfl) (by kernel_rfl) (by kernel_rfl) (fun _ _ _ h => h) (Or.inl ⟨by rfl, ?_⟩) (by assumption) ?_
                  rotate_left 1
                  · intro w _; go_simp; try with_reducible rfl
                  try simp only [Act.put, List.getElem_toArray, List.getElem_cons_zero, List.getElem_cons_succ, List.setIfInBounds_toArray, List.set_cons_zero, List.set_cons_succ]
                  refine wpAnyH_done (by kernel_rfl) ?_ _
                  have SN : Hid (Sx w w9 [fRw (some a1) c R, fRw (some a2) c8 R2]) := Lib.hid ⟨hHeld.out.1, hHeld.out.2.2.2.2.2.2.2⟩
                  clear hHeld
                  go_wp2_with fail
                  go_roundw
                  case rel => exact ⟨i + 1, by omega, by go_num, SN⟩
                  case measure => simp [intOf]; omega
                · obtain rfl : mm = i := by omega
                  go_wp2_with fail
                  go_ret
                  exact ⟨rfl, SQ.out.1⟩
end Go.Proofs.Ytplgmdbocmfbcaa
