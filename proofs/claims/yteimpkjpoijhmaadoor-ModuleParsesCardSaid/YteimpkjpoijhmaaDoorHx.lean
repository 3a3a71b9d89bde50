/-
  What the reference's Read of heads answers.
-/
import Derived.Test.YteimpkjpoijhmaaDoorLk
import Derived.Test.YteimpkjpoijhmaaDoorLb
namespace Go.Proofs.YteimpkjpoijhmaaDoor
open Go.RowKit
set_option maxRecDepth 100000
set_option linter.unusedSimpArgs false
set_option linter.unusedVariables false

theorem fs_at {j : Nat} (h : j < 5) : ∃ W lo hi : Int, fs7.drop j = (W, lo, hi) :: fs7.drop (j + 1) ∧ ([1, 1, 3, 2, 2] : List Int)[j]? = some W ∧ ([1, 0, 0, 0, 0] : List Int)[j]? = some lo ∧ ([2, 1, 1048576, 256, 1024] : List Int)[j]? = some hi ∧ (1 ≤ W ∧ W ≤ 7) ∧ (0 ≤ lo ∧ hi ≤ 1048576) ∧ (j = 0 → 1 ≤ lo ∧ hi ≤ 2) := by
  match j, h with
  | 0, _ => exact ⟨1, 1, 2, rfl, rfl, rfl, rfl, by decide, by decide, fun _ => by decide⟩
  | 1, _ => exact ⟨1, 0, 1, rfl, rfl, rfl, rfl, by decide, by decide, fun h => by omega⟩
  | 2, _ => exact ⟨3, 0, 1048576, rfl, rfl, rfl, rfl, by decide, by decide, fun h => by omega⟩
  | 3, _ => exact ⟨2, 0, 256, rfl, rfl, rfl, rfl, by decide, by decide, fun h => by omega⟩
  | 4, _ => exact ⟨2, 0, 1024, rfl, rfl, rfl, rfl, by decide, by decide, fun h => by omega⟩
theorem rF_yes {l : List Int} {W lo hi q : Int} {r : List (Int × Int × Int)} (K : List Int) (h : nE l q W lo hi = 0) : apK K (rF l ((W, lo, hi) :: r) (q, 0)) = apK (K ++ [getV l q W]) (rF l r (getN l q W, 0)) := by
  rw [rF, rN_yes h]; simp [apK]
theorem rF_no {l : List Int} {W lo hi q e : Int} {r : List (Int × Int × Int)} (K : List Int) (h : nE l q W lo hi = e) (he : e ≠ 0) : (apK K (rF l ((W, lo, hi) :: r) (q, 0))).2.2 = e := by
  rw [apK, rF, rN_no (by rw [h]; exact he), h, rF_err he]
/-- Its rows lie from a block on. -/
def Fr7 (w : World) (lo : Nat) (x : Mc) (m : Mh) : Prop := w.ownsRow lo 5 1 (.slice x.A m.a.length x.c) m.a.length (cel m.a) ∧ w.ownsRow lo 5 1 (.slice x.B m.l.length x.d) m.l.length (cel m.l) ∧ x.D = none ∧ x.k = 0 ∧ x.e = 0
theorem Fr7.zero (w : World) (lo : Nat) : Fr7 w lo Mc.zero Mh.zero := ⟨World.ownsRow_nil _ _ _ _, World.ownsRow_nil _ _ _ _, rfl, rfl, rfl⟩
theorem fr7_own {w : World} {lo base e n c : Nat} {A : Option Addr} {xs : List Value} (hl : lo ≤ base) (h : w.ownsRow base e 1 (.slice A n c) n xs) : ∀ ad, A = some ad → 0 < n → lo ≤ ad.block := by
  intro ad ha hn
  obtain ⟨g, hg, hb⟩ := own_some h hn
  rw [hg] at ha
  obtain rfl := Option.some.inj ha
  exact Nat.le_trans hl hb
/-- A world that the reference's Read has left its answer in. -/
theorem x7_end (tm : Array Value) (w w' : World) (T : Nat) (x : Mc) (m : Mh) (n e : Int) (hT : tm[4]?.getD undef = .pointer (some ⟨T, 0, none⟩)) (h5 : tm[5]?.getD undef = .int .i64 n) (h6 : tm[6]?.getD undef = .int .i64 e) (hM : Mb w' T x m) (R : Ending → World → Prop)
    (hR : R (.returned (.tuple #[mv x m, .int .i64 n, .int .i64 e])) w') : bodyPost Tryd.prog Tryd.f45 R .ret { tmps := tm, defers := [] } w' := by
  obtain ⟨h0, c1, c2, c3, c4, c5, c6, c7, c8⟩ := hM
  exact bodyPost_ret (v := .tuple #[mv x m, .int .i64 n, .int .i64 e]) (by simp [results, Tryd.results45, go_sem, hT, h5, h6, c1, c2, c3, c4, c5, c6, c7, c8]) rfl hR
set_option maxHeartbeats 4000000 in
theorem r7readw_v (A : Option Addr) (c n : Nat) (l : List Int) (p : Int) (R : Mh × Int × Int) (w : World) (hr : Rd w A c l) (hn : l.length = n) (hl : l.length ≤ 2000) (hR : rdQ l p = R) :
    Calls Tryd.prog 45 #[.slice A n c, .int .i64 p] w fun e w' => ∃ x, e = .returned (.tuple #[mv x R.1, .int .i64 R.2.1, .int .i64 R.2.2]) ∧ Hd w' x R.1 ∧ Fr7 w' w.heap.size x R.1 ∧ Below w.heap.size w w' := by
  subst hn
  have hlen := hr.len
  have HRR := Lib.hid hR
  have HBY := Lib.hid hr.byt
  have HA0 : Hid (∀ ad, A = some ad → 0 < l.length → ∀ i, ad.block ≠ w.heap.size + i) := fun ad ha h0 i => by
    obtain ⟨ad', e', hc⟩ := hr.at_ (i := 0) h0
    obtain rfl : ad = ad' := by rw [ha] at e'; simpa using e'
    have := cell_lt hc
    have hb : (ad.add 0).block = ad.block := by unfold Addr.add; split <;> rfl
    omega
  have S0 := Lib.hid (((Sx.start w).add (fR A c l) hr).mkMF Mc.zero Mh.zero)
  clear hR hr
  by_cases hp : p < 0 ∨ (l.length : Int) < p
  · have HN := Lib.hid (rdQ_arg hp)
    obtain ⟨-, F0, ⟨b0, z1, z2, z3, z4, z5, z6, z7, z8⟩, -⟩ := S0.out
    have f0 := F0.2 0
    have f1 := F0.2 1
    have f2 := F0.2 2
    have f3 := F0.2 3
    have f4 := F0.2 4
    have f5 := F0.2 5
    have f6 := F0.2 6
    have f7 := F0.2 7
    clear F0
    by_cases hp0 : p < 0
    · clear hp
      go_enter Tryd.func45, Tryd.ntmps45
      go_wp2_with fail
      rw [← HRR.out, HN.out]
      exact x7_end _ w _ w.heap.size Mc.zero Mh.zero 0 2 rfl rfl rfl S0.out.2.2.1 _ ⟨Mc.zero, rfl, Hd.zero _, Fr7.zero _ _, S0.out.1⟩
    · have hp1 : (l.length : Int) < p := by omega
      clear hp
      go_enter Tryd.func45, Tryd.ntmps45
      go_wp2_with fail
      rw [← HRR.out, HN.out]
      exact x7_end _ w _ w.heap.size Mc.zero Mh.zero 0 2 rfl rfl rfl S0.out.2.2.1 _ ⟨Mc.zero, rfl, Hd.zero _, Fr7.zero _ _, S0.out.1⟩
  · obtain ⟨q, rfl⟩ : ∃ q : Nat, p = q := ⟨p.toNat, by omega⟩
    have hq : q ≤ l.length := by omega
    have S1 := Lib.hid (S0.out.mkMF Mc.zero Mh.zero)
    rw [size1] at S1
    clear S0 hp
    obtain ⟨K1, n1, e1, hk1⟩ : ∃ K1 n1 e1, rK l 4 (q, 0) = (K1, n1, e1) := ⟨_, _, _, rfl⟩
    have P1 := fun w hr => Lib.hid (r7row_v A c _ l q 4 _ w hr rfl hl hq (by decide) rfl)
    rw [hk1] at P1
    have HK1 := Lib.hid hk1
    clear hk1
    go_enter Tryd.func45, Tryd.ntmps45
    go_wp2_with fail
    refine (P1 _ S1.out.2.2.2.2.2.1).out.mono ?_
    rintro e w1 ⟨A1, c1, rfl, hr1, hy1, hb1⟩
    rw [size1, size1] at hr1
    have S2 := Lib.hid ((S1.out.call hb1).add (fO (w.heap.size + 1 + 1) A1 c1 (rw7 (K1, n1, e1)).1) ⟨hr1, hy1⟩)
    have hs2 : w.heap.size + 1 + 1 ≤ w1.heap.size := by have := hb1.size; rwa [size1, size1] at this
    clear hr1 hb1 hy1 S1 P1
    by_cases he1 : e1 = 0
    · subst he1
      have ok1 := rK_ok HBY.out hq HK1.out
      obtain ⟨m1, m2, m3, m4, m5⟩ := ok1
      have HM1 := Lib.hid (And.intro m4 m5)
      subst m1
      clear m4 m5
      have ew : rw7 (K1, ((q + (1 + K1.length) : Nat) : Int), 0) = (K1, ((q + (1 + K1.length) : Nat) : Int), 0) := rfl
      rw [ew] at S2 ⊢
      clear ew
      obtain ⟨K2, n2, e2, hk2⟩ : ∃ K2 n2 e2, rK l (16 - K1.length) (((q + (1 + K1.length) : Nat) : Int), 0) = (K2, n2, e2) := ⟨_, _, _, rfl⟩
      have P2 := fun w hr => Lib.hid (r7row_v A c _ l (q + (1 + K1.length)) (16 - K1.length) _ w hr rfl hl m2 (by omega) rfl)
      rw [hk2] at P2
      have HK2 := Lib.hid hk2
      clear hk2
      have hsub : wrap64 (16 - (K1.length : Int)) = 16 - K1.length := by unfold wrap64; omega
      have hx : ∀ x : Int, wrap64 (16 - (K1.length : Int)) = x → x = 16 - (K1.length : Int) := fun x h => by omega
      clear hx
      generalize hQ : q + (1 + K1.length) = q2 at *
      go_wp2_with fail
      refine (P2 _ S2.out.2.2.2.2.2.2.1).out.mono ?_
      rintro e w2 ⟨A2, c2, rfl, hr2, hy2, hb2⟩
      have S3 := Lib.hid ((S2.out.call hb2).add (fO (w.heap.size + 1 + 1) A2 c2 (rw7 (K2, n2, e2)).1) ⟨own_base hr2 hs2, hy2⟩)
      clear hr2 hb2 hy2 S2 P2
      by_cases he2 : e2 = 0
      · subst he2
        obtain ⟨m1, m4, m5, m6, m7⟩ := rK_ok HBY.out m2 HK2.out
        have HM2 := Lib.hid (And.intro m6 m7)
        subst m1
        clear m6 m7
        have ew : rw7 (K2, ((q2 + (1 + K2.length) : Nat) : Int), 0) = (K2, ((q2 + (1 + K2.length) : Nat) : Int), 0) := rfl
        rw [ew] at S3 ⊢
        clear ew
        have HI := Lib.hid (rdQ_3 HK1.out HK2.out)
        generalize hQ2 : q2 + (1 + K2.length) = q3 at *
        obtain ⟨X, hX⟩ : ∃ X, rF l fs7 ((q3 : Int), 0) = X := ⟨_, rfl⟩
        rw [hX] at HI
        have HX0 : Hid (X = apK [] (rF l (fs7.drop 0) ((q3 : Int), 0))) := by rw [Hid, ← hX]; simp [apK]
        clear hX HK1 HK2
        obtain ⟨-, -, -, FU, ⟨b0, z1, z2, z3, z4, z5, z6, z7, z8⟩, -⟩ := S3.out
        obtain ⟨f0, f1, f2, f3, f4, f5, f6, f7⟩ := FU.keepM
        go_wp2_with fail
        have W3 : Hid (Sx w ((w2.setCell ⟨w.heap.size + 1, 0, none⟩ (.slice A1 K1.length c1)).setCell ⟨w.heap.size + 1, 1, none⟩ (.slice A2 K2.length c2))
            [fF (w.heap.size + 1), fM (w.heap.size + 1) ⟨A1, c1, A2, c2, none, 0, 0⟩ ⟨K1, K2, 0, false, 0, 0, 0⟩, fF w.heap.size, fM w.heap.size Mc.zero Mh.zero, fO (w.heap.size + 1 + 1) A1 c1 K1, fO (w.heap.size + 1 + 1) A2 c2 K2, fR A c l]) := by
          obtain ⟨a1, a2, a3, a4, a5, a6, a7, a8, -⟩ := S3.out
          refine ⟨(a1.setCell (p := ⟨w.heap.size + 1, 0, none⟩) (by simp) _).setCell (p := ⟨w.heap.size + 1, 1, none⟩) (by simp) _, (a4.set _ _).set _ _, ((a5.setA A1 c1 K1 _ rfl).setB A2 c2 K2 _ rfl), (a6.set _ _).set _ _, (a7.other (by simp) _).other (by simp) _, ⟨ownsRow_setCell_below (ownsRow_setCell_below a3.1 (by simp) _) (by simp) _, a3.2⟩, ⟨ownsRow_setCell_below (ownsRow_setCell_below a2.1 (by simp) _) (by simp) _, a2.2⟩, (a8.setc (fun ad h0 h1 => HA0.out ad h0 h1 1) _).setc (fun ad h0 h1 => HA0.out ad h0 h1 1) _, trivial⟩
        have hz3 : ((w2.setCell ⟨w.heap.size + 1, 0, none⟩ (.slice A1 K1.length c1)).setCell ⟨w.heap.size + 1, 1, none⟩ (.slice A2 K2.length c2)).heap.size = w2.heap.size := by simp
        generalize (w2.setCell ⟨w.heap.size + 1, 0, none⟩ (.slice A1 K1.length c1)).setCell ⟨w.heap.size + 1, 1, none⟩ (.slice A2 K2.length c2) = w3 at W3 hz3 ⊢
        have S4 := (W3.out.mk1 (.cells (ci [1, 1, 3, 2, 2]).toArray 3)).add (fIa _ _) (Ia.new w3 [1, 1, 3, 2, 2] 3)
        have S4 := (S4.mk1 (.cells (ci [1, 0, 0, 0, 0]).toArray 3)).add (fIa _ _) (Ia.new _ [1, 0, 0, 0, 0] 3)
        have S4 := Lib.hid ((S4.mk1 (.cells (ci [2, 1, 1048576, 256, 1024]).toArray 3)).add (fIa _ _) (Ia.new _ [2, 1, 1048576, 256, 1024] 3))
        rw [size1, size1] at S4
        have S5 : Hid (Sx w (((w3.alloc (.cells #[.int .i64 1, .int .i64 1, .int .i64 3, .int .i64 2, .int .i64 2] 3)).alloc (.cells #[.int .i64 1, .int .i64 0, .int .i64 0, .int .i64 0, .int .i64 0] 3)).alloc (.cells #[.int .i64 2, .int .i64 1, .int .i64 1048576, .int .i64 256, .int .i64 1024] 3)) _) := S4
        clear S4 W3 S3 FU b0 z1 z2 z3 z4 z5 z6 z7 z8 f0 f1 f2 f3 f4 f5 f6 f7
        generalize (((w3.alloc (.cells #[.int .i64 1, .int .i64 1, .int .i64 3, .int .i64 2, .int .i64 2] 3)).alloc (.cells #[.int .i64 1, .int .i64 0, .int .i64 0, .int .i64 0, .int .i64 0] 3)).alloc (.cells #[.int .i64 2, .int .i64 1, .int .i64 1048576, .int .i64 256, .int .i64 1024] 3)) = w4 at S5 ⊢
        rw [hz3] at S5
        clear hz3
        generalize w2.heap.size = g at S5 ⊢
        obtain ⟨i0, hi', hz⟩ := Option.map_eq_some_iff.1 Tryd.infoN
        simp only [Prod.mk.injEq] at hz
        obtain ⟨hz0, hz1, hz2⟩ := hz
        go_loopw [9, 15, 16] (fun nx o i wr => ∃ (j q' : Nat) (K : List Int) (A' : Option Addr) (c' : Nat), j ≤ 5 ∧ q' ≤ l.length ∧ nx = .int .i64 q' ∧ i = .int .i64 j ∧ o = .slice A' j c' ∧ Hid (X = apK K (rF l (fs7.drop j) ((q' : Int), 0)) ∧ K.length = j ∧ (∀ z ∈ K, 0 ≤ z ∧ z ≤ 1048576) ∧ (∀ z, K[0]? = some z → 1 ≤ z ∧ z ≤ 2)) ∧ Hid (wr.ownsRow w4.heap.size 3 1 (.slice A' j c') j (ci K)) ∧ Hid (Below w4.heap.size w4 wr)) (fun _ _ i _ => 5 - (intOf i).toNat)
        case atStart => exact ⟨0, q3, [], none, 0, by omega, by omega, rfl, rfl, rfl, Lib.hid ⟨HX0.out, rfl, fun x hx => (by cases hx), fun z hz => (by cases hz)⟩, Lib.hid (World.ownsRow_nil _ _ _ _), Lib.hid (Below.refl _ _)⟩
        case round =>
          obtain ⟨j, q', K, A', c', hj, hq', rfl, rfl, rfl, HX, HO, HB⟩ := hrel
          clear HX0
          have S6 := Lib.hid (S5.out.call HB.out)
          by_cases h1 : j < 5
          · obtain ⟨W, lo, hi, hfs, hw1, hw2, hw3, hW, hlo, h00⟩ := fs_at h1
            obtain ⟨-, I3, I2, I1, -⟩ := S6.out
            have i1 := I1.2 j W hw1
            have i2 := I2.2 j lo hw2
            have i3 := I3.2 j hi hw3
            clear I1 I2 I3 hw1 hw2 hw3
            have HG := Lib.hid (rget_any A c l q' W wr S6.out.2.2.2.2.2.2.2.2.2.2.1 hl)
            by_cases hlong : (q' : Int) + W ≤ l.length
            · obtain ⟨g1, g2, g3⟩ := getB_long HBY.out (q := q') (by omega) hW.1 hW.2 hlong
              have HNE : Hid (nE l q' W lo hi = if lo ≤ getV l q' W ∧ getV l q' W ≤ hi then 0 else 70) := by rw [Hid, nE, if_pos g1]
              have HY : Hid (lo ≤ getV l q' W ∧ getV l q' W ≤ hi → X = apK (K ++ [getV l q' W]) (rF l (fs7.drop (j + 1)) ((((q' + W.toNat : Nat) : Int)), 0))) := fun h => by
                have e := HNE.out
                rw [if_pos h] at e
                rw [HX.out.1, hfs, rF_yes K e, g3]
                congr 3
                omega
              have HZ : Hid (¬ (lo ≤ getV l q' W ∧ getV l q' W ≤ hi) → X.2.2 = 70) := fun h => by
                have e := HNE.out
                rw [if_neg h] at e
                rw [HX.out.1, hfs, rF_no K e (by decide)]
              rw [g1, g3, show (q' : Int) + W = ((q' + W.toNat : Nat) : Int) by omega] at HG
              have hq7 : q' + W.toNat ≤ l.length := by omega
              generalize q' + W.toNat = q7 at *
              generalize getV l q' W = V at *
              clear g1 g2 g3 hfs HNE
              go_wp2_with fail
              refine HG.out.mono ?_
              rintro e w7 ⟨rfl, rfl⟩
              clear HG
              by_cases hx1 : V < lo
              · have HN := Lib.hid (mk7_no (A := K1) (B := K2) (HZ.out (by omega)) (by decide))
                obtain ⟨-, -, -, -, -, -, F0, ⟨b0, z1, z2, z3, z4, z5, z6, z7, z8⟩, -⟩ := S6.out
                obtain ⟨f0, f1, f2, f3, f4, f5, f6, f7⟩ := F0.keepM
                clear F0 HY HZ HX HO
                go_wp2_with fail
                rw [← HRR.out, HI.out, HN.out]
                exact x7_end _ w _ w.heap.size Mc.zero Mh.zero 0 70 rfl rfl rfl (put8_mb S6.out.2.2.2.2.2.2.2.1 Mc.zero Mh.zero) _ ⟨Mc.zero, rfl, Hd.zero _, Fr7.zero _ _, put8_below S6.out.1 (Nat.le_refl _) _ _⟩
              · by_cases hx2 : hi < V
                · have HN := Lib.hid (mk7_no (A := K1) (B := K2) (HZ.out (by omega)) (by decide))
                  obtain ⟨-, -, -, -, -, -, F0, ⟨b0, z1, z2, z3, z4, z5, z6, z7, z8⟩, -⟩ := S6.out
                  obtain ⟨f0, f1, f2, f3, f4, f5, f6, f7⟩ := F0.keepM
                  clear F0 HY HZ HX HO
                  go_wp2_with fail
                  rw [← HRR.out, HI.out, HN.out]
                  exact x7_end _ w _ w.heap.size Mc.zero Mh.zero 0 70 rfl rfl rfl (put8_mb S6.out.2.2.2.2.2.2.2.1 Mc.zero Mh.zero) _ ⟨Mc.zero, rfl, Hd.zero _, Fr7.zero _ _, put8_below S6.out.1 (Nat.le_refl _) _ _⟩
                · have HN := Lib.hid (HY.out (by omega))
                  have HL := Lib.hid HX.out.2.1
                  have HV : Hid ((∀ z ∈ K ++ [V], 0 ≤ z ∧ z ≤ 1048576) ∧ (∀ z, (K ++ [V])[0]? = some z → 1 ≤ z ∧ z ≤ 2)) := by
                    refine ⟨fun z hz => ?_, fun z hz => ?_⟩
                    · rcases List.mem_append.1 hz with hz | hz
                      · exact HX.out.2.2.1 z hz
                      · rw [List.mem_singleton.1 hz]; omega
                    · by_cases hj0 : j = 0
                      · have hK : K = [] := List.eq_nil_of_length_eq_zero (by rw [HL.out, hj0])
                        rw [hK] at hz
                        obtain rfl : V = z := by simpa using hz
                        have := h00 hj0
                        omega
                      · rw [List.getElem?_append_left (by rw [HL.out]; omega)] at hz
                        exact HX.out.2.2.2 z hz
                  have HO1 := Lib.hid (own_below HO.out (new1 (a := .cells #[.int .i64 V] 3)) (Nat.le_refl _))
                  have HB1 := Lib.hid (HB.out.alloc HB.out.size (.cells #[.int .i64 V] 3))
                  clear HY HZ HX HO
                  go_wp2_with (at_builtin; go_loud (refine wpList_append_own_at _ rfl _ _ 110 rfl w4.heap.size 3 i0 _ 1 8 Tryd.underlying110 hi' hz0 hz1 hz2 rfl (by decide) _ j (ci K) rfl HO1.out ⟨wr.heap.size, 0, none⟩ 1 1 [.int .i64 V] rfl rfl (cell_one_new _ _ _) (by simp [Value.oneCell']) (by unfold maxLen; omega) (by omega) HB1.out.size ?_))
                  intro v8 w8 ho8 hg8 _ _
                  have HB8 := Lib.hid (HB1.out.grown hg8 HB1.out.size (fun j hj => (HO1.out.lt j hj).1))
                  obtain ⟨g8, c8, rfl⟩ := own_succ ho8
                  have HO8 := Lib.hid ho8
                  clear ho8 hg8 HO1 HB1
                  go_wp2_with fail
                  go_roundw
                  case rel => exact ⟨j + 1, q7, K ++ [V], _, c8, by omega, hq7, rfl, by go_num, rfl, Lib.hid ⟨HN.out, by rw [List.length_append, HL.out]; rfl, HV.out⟩, Lib.hid (by have := HO8.out; rw [ci_append]; exact this), HB8⟩
                  case measure => simp [intOf]; omega
            · have g1 := getB_short HBY.out (q := q') (by omega) (by omega) hW.1 hW.2 (by omega)
              have e : nE l q' W lo hi = 10 := by rw [nE, if_neg (by rw [g1]; decide), g1]
              have HN : Hid (mk7 K1 K2 X = (Mh.zero, 0, 10)) := by
                refine mk7_no ?_ (by decide)
                rw [HX.out.1, hfs, rF_no K e (by decide)]
              rw [g1] at HG
              generalize getV l q' W = V at *
              generalize getN l q' W = N at *
              clear g1 e hfs HX HO
              go_wp2_with fail
              refine HG.out.mono ?_
              rintro e w7 ⟨rfl, rfl⟩
              clear HG
              obtain ⟨-, -, -, -, -, -, F0, ⟨b0, z1, z2, z3, z4, z5, z6, z7, z8⟩, -⟩ := S6.out
              obtain ⟨f0, f1, f2, f3, f4, f5, f6, f7⟩ := F0.keepM
              clear F0
              go_wp2_with fail
              rw [← HRR.out, HI.out, HN.out]
              exact x7_end _ w _ w.heap.size Mc.zero Mh.zero 0 10 rfl rfl rfl (put8_mb S6.out.2.2.2.2.2.2.2.1 Mc.zero Mh.zero) _ ⟨Mc.zero, rfl, Hd.zero _, Fr7.zero _ _, put8_below S6.out.1 (Nat.le_refl _) _ _⟩
          · obtain rfl : j = 5 := by omega
            obtain ⟨h2, h3, h4, h5⟩ := HX.out
            obtain ⟨v0, v1, v2, v3, v4, rfl⟩ : ∃ v0 v1 v2 v3 v4, K = [v0, v1, v2, v3, v4] := by
              match K, h3 with
              | [v0, v1, v2, v3, v4], _ => exact ⟨v0, v1, v2, v3, v4, rfl⟩
            have b0 := h5 v0 rfl
            have b1 := h4 v1 (by simp)
            have b2 := h4 v2 (by simp)
            have b3 := h4 v3 (by simp)
            have b4 := h4 v4 (by simp)
            have HN : Hid (mk7 K1 K2 X = (⟨K1, K2, v0, v1 == 1, v2, v3, v4⟩, (q' : Int), 0)) := by
              rw [Hid, h2]
              rfl
            clear h2 h3 h4 h5 HX
            obtain ⟨g8, c8, hgc⟩ := own_succ HO.out
            simp only [Value.slice.injEq] at hgc
            obtain ⟨rfl, -, rfl⟩ := hgc
            have c0 := HO.out.cellAt 0 (by simp [ci])
            have c1' := HO.out.cellAt 1 (by simp [ci])
            have c2' := HO.out.cellAt 2 (by simp [ci])
            have c3 := HO.out.cellAt 3 (by simp [ci])
            have c4 := HO.out.cellAt 4 (by simp [ci])
            simp [ci] at c0 c1' c2' c3 c4
            obtain ⟨-, -, -, -, FU, ⟨y0, y1, y2, y3, y4, y5, y6, y7, y8⟩, F0, ⟨b0', z1, z2, z3, z4, z5, z6, z7, z8⟩, -⟩ := S6.out
            obtain ⟨f0, f1, f2, f3, f4, f5, f6, f7⟩ := F0.keepM
            obtain ⟨u0, u1, u2, u3, u4, u5, u6, u7⟩ := FU.keepM
            clear F0 FU
            have hU := HB.out.size
            have hgU : g8 ≠ w.heap.size + 1 := by
              have := (HO.out.lt g8 rfl).1
              have := S5.out.2.2.2.2.2.1.1
              omega
            have W7 : Hid ((Below w.heap.size w ((wr.setCell ⟨w.heap.size + 1, 2, none⟩ (.int .u8 v0)).setCell ⟨w.heap.size + 1, 3, none⟩ (.bool (v1 == 1))) ∧ Mf ((wr.setCell ⟨w.heap.size + 1, 2, none⟩ (.int .u8 v0)).setCell ⟨w.heap.size + 1, 3, none⟩ (.bool (v1 == 1))) (w.heap.size + 1) ∧ Mf ((wr.setCell ⟨w.heap.size + 1, 2, none⟩ (.int .u8 v0)).setCell ⟨w.heap.size + 1, 3, none⟩ (.bool (v1 == 1))) w.heap.size) ∧
                Mb ((wr.setCell ⟨w.heap.size + 1, 2, none⟩ (.int .u8 v0)).setCell ⟨w.heap.size + 1, 3, none⟩ (.bool (v1 == 1))) (w.heap.size + 1) ⟨A1, c1, A2, c2, none, 0, 0⟩ ⟨K1, K2, v0, v1 == 1, 0, 0, 0⟩ ∧ Mb ((wr.setCell ⟨w.heap.size + 1, 2, none⟩ (.int .u8 v0)).setCell ⟨w.heap.size + 1, 3, none⟩ (.bool (v1 == 1))) w.heap.size Mc.zero Mh.zero ∧
                (fO (w.heap.size + 1 + 1) A1 c1 K1).p ((wr.setCell ⟨w.heap.size + 1, 2, none⟩ (.int .u8 v0)).setCell ⟨w.heap.size + 1, 3, none⟩ (.bool (v1 == 1))) ∧ (fO (w.heap.size + 1 + 1) A2 c2 K2).p ((wr.setCell ⟨w.heap.size + 1, 2, none⟩ (.int .u8 v0)).setCell ⟨w.heap.size + 1, 3, none⟩ (.bool (v1 == 1)))) := by
              obtain ⟨a1, -, -, -, a4, a5, a6, a7, a8, a9, -⟩ := S6.out
              exact ⟨⟨(a1.setCell (p := ⟨w.heap.size + 1, 2, none⟩) (by simp) _).setCell (p := ⟨w.heap.size + 1, 3, none⟩) (by simp) _, (a4.set _ _).set _ _, (a6.set _ _).set _ _⟩, (a5.setR v0).setQ (v1 == 1), (a7.other (by simp) _).other (by simp) _,
                ⟨ownsRow_setCell_below (ownsRow_setCell_below a8.1 (by simp) _) (by simp) _, a8.2⟩, ⟨ownsRow_setCell_below (ownsRow_setCell_below a9.1 (by simp) _) (by simp) _, a9.2⟩⟩
            have d2 : ((wr.setCell ⟨w.heap.size + 1, 2, none⟩ (.int .u8 v0)).setCell ⟨w.heap.size + 1, 3, none⟩ (.bool (v1 == 1))).cell? ⟨g8, 2, none⟩ = some (.int .i64 v2) := by
              rw [World.cell?_setCell_other _ _ _ _ (fun e => hgU (by injection e with e; exact e.symm)), World.cell?_setCell_other _ _ _ _ (fun e => hgU (by injection e with e; exact e.symm))]; exact c2'
            have d3 : ((wr.setCell ⟨w.heap.size + 1, 2, none⟩ (.int .u8 v0)).setCell ⟨w.heap.size + 1, 3, none⟩ (.bool (v1 == 1))).cell? ⟨g8, 3, none⟩ = some (.int .i64 v3) := by
              rw [World.cell?_setCell_other _ _ _ _ (fun e => hgU (by injection e with e; exact e.symm)), World.cell?_setCell_other _ _ _ _ (fun e => hgU (by injection e with e; exact e.symm))]; exact c3
            have d4 : ((wr.setCell ⟨w.heap.size + 1, 2, none⟩ (.int .u8 v0)).setCell ⟨w.heap.size + 1, 3, none⟩ (.bool (v1 == 1))).cell? ⟨g8, 4, none⟩ = some (.int .i64 v4) := by
              rw [World.cell?_setCell_other _ _ _ _ (fun e => hgU (by injection e with e; exact e.symm)), World.cell?_setCell_other _ _ _ _ (fun e => hgU (by injection e with e; exact e.symm))]; exact c4
            have D2 := Lib.hid d2
            have D3 := Lib.hid d3
            have D4 := Lib.hid d4
            clear d2 d3 d4 hU
            go_upto_region 28 with (fail)
            generalize (wr.setCell ⟨w.heap.size + 1, 2, none⟩ (.int .u8 v0)).setCell ⟨w.heap.size + 1, 3, none⟩ (.bool (v1 == 1)) = w7 at W7 D2 D3 D4 ⊢
            clear S6 HO HB c0 c1' c2' c3 c4 y0 y1 y2 y3 y4 y5 y6 y7 y8 b0' z1 z2 z3 z4 z5 z6 z7 z8 f0 f1 f2 f3 f4 f5 f6 f7 u0 u1 u2 u3 u4 u5 u6 u7
            have d2 := D2.out
            have d3 := D3.out
            have d4 := D4.out
            have hgU' : ¬ (w.heap.size + 1 = g8) := fun e => hgU e.symm
            obtain ⟨⟨-, FU, F0⟩, ⟨y0, y1, y2, y3, y4, y5, y6, y7, y8⟩, ⟨b0', z1, z2, z3, z4, z5, z6, z7, z8⟩, -⟩ := W7.out
            obtain ⟨f0, f1, f2, f3, f4, f5, f6, f7⟩ := F0.keepM
            obtain ⟨u0, u1, u2, u3, u4, u5, u6, u7⟩ := FU.keepM
            clear F0 FU
            go_region
            go_wp2_with fail
            obtain ⟨⟨a1, a2, a3⟩, a4, a5, a6, a7⟩ := W7.out
            have E1 := (put8_mb (((a5.other (p := ⟨w.heap.size + 1, 4, none⟩) (by simp) (.int .i64 v2)).other (p := ⟨w.heap.size + 1, 5, none⟩) (by simp) (.int .i64 v3)).other (p := ⟨w.heap.size + 1, 6, none⟩) (by simp) (.int .i64 v4)) ⟨A1, c1, A2, c2, none, 0, 0⟩ ⟨K1, K2, v0, v1 == 1, v2, v3, v4⟩).drew
            have E2 := (put8_below (((a1.setCell (p := ⟨w.heap.size + 1, 4, none⟩) (by simp) (.int .i64 v2)).setCell (p := ⟨w.heap.size + 1, 5, none⟩) (by simp) (.int .i64 v3)).setCell (p := ⟨w.heap.size + 1, 6, none⟩) (by simp) (.int .i64 v4)) (Nat.le_refl _) ⟨A1, c1, A2, c2, none, 0, 0⟩ ⟨K1, K2, v0, v1 == 1, v2, v3, v4⟩).drew
            have E3o := (put8_own (B := w.heap.size) (ownsRow_setCell_below (ownsRow_setCell_below (ownsRow_setCell_below a6.1 (show (⟨w.heap.size + 1, 4, none⟩ : Addr).block < _ by simp) (.int .i64 v2)) (show (⟨w.heap.size + 1, 5, none⟩ : Addr).block < _ by simp) (.int .i64 v3)) (show (⟨w.heap.size + 1, 6, none⟩ : Addr).block < _ by simp) (.int .i64 v4)) (by omega) ⟨A1, c1, A2, c2, none, 0, 0⟩ ⟨K1, K2, v0, v1 == 1, v2, v3, v4⟩).drew
            have E3 := own_rd E3o a6.2
            have E4o := (put8_own (B := w.heap.size) (ownsRow_setCell_below (ownsRow_setCell_below (ownsRow_setCell_below a7.1 (show (⟨w.heap.size + 1, 4, none⟩ : Addr).block < _ by simp) (.int .i64 v2)) (show (⟨w.heap.size + 1, 5, none⟩ : Addr).block < _ by simp) (.int .i64 v3)) (show (⟨w.heap.size + 1, 6, none⟩ : Addr).block < _ by simp) (.int .i64 v4)) (by omega) ⟨A1, c1, A2, c2, none, 0, 0⟩ ⟨K1, K2, v0, v1 == 1, v2, v3, v4⟩).drew
            have E4 := own_rd E4o a7.2
            rw [← HRR.out, HI.out, HN.out]
            exact x7_end _ w _ w.heap.size ⟨A1, c1, A2, c2, none, 0, 0⟩ ⟨K1, K2, v0, v1 == 1, v2, v3, v4⟩ q' 0 rfl rfl rfl E1 _ ⟨⟨A1, c1, A2, c2, none, 0, 0⟩, rfl, ⟨E3, E4, by unfold Mh.nums; dsimp only; omega⟩, ⟨own_base E3o (by omega), own_base E4o (by omega), rfl, rfl, rfl⟩, E2⟩
      · have HN := Lib.hid (rdQ_2 HK1.out HK2.out he2)
        rw [rw7_no (r := (K2, n2, e2)) rfl he2]
        obtain ⟨-, -, -, -, -, F0, ⟨b0, z1, z2, z3, z4, z5, z6, z7, z8⟩, -⟩ := S3.out
        obtain ⟨f0, f1, f2, f3, f4, f5, f6, f7⟩ := F0.keepM
        clear F0
        go_wp2_with fail
        rw [← HRR.out, HN.out]
        exact x7_end _ w _ w.heap.size Mc.zero Mh.zero 0 e2 rfl rfl rfl (put8_mb S3.out.2.2.2.2.2.2.1 Mc.zero Mh.zero) _ ⟨Mc.zero, rfl, Hd.zero _, Fr7.zero _ _, put8_below S3.out.1 (Nat.le_refl _) _ _⟩
    · have HN := Lib.hid (rdQ_1 HK1.out he1)
      rw [rw7_no (r := (K1, n1, e1)) rfl he1]
      obtain ⟨-, -, -, -, F0, ⟨b0, z1, z2, z3, z4, z5, z6, z7, z8⟩, -⟩ := S2.out
      obtain ⟨f0, f1, f2, f3, f4, f5, f6, f7⟩ := F0.keepM
      clear F0
      go_wp2_with fail
      rw [← HRR.out, HN.out]
      exact x7_end _ w _ w.heap.size Mc.zero Mh.zero 0 e1 rfl rfl rfl (put8_mb S2.out.2.2.2.2.2.1 Mc.zero Mh.zero) _ ⟨Mc.zero, rfl, Hd.zero _, Fr7.zero _ _, put8_below S2.out.1 (Nat.le_refl _) _ _⟩
theorem r7read_v (A : Option Addr) (c n : Nat) (l : List Int) (p : Int) (R : Mh × Int × Int) (w : World) (hr : Rd w A c l) (hn : l.length = n) (hl : l.length ≤ 2000) (hR : rdQ l p = R) :
    Calls Tryd.prog 45 #[.slice A n c, .int .i64 p] w fun e w' => ∃ x, e = .returned (.tuple #[mv x R.1, .int .i64 R.2.1, .int .i64 R.2.2]) ∧ Hd w' x R.1 ∧ Below w.heap.size w w' := by
  refine (r7readw_v A c n l p R w hr hn hl hR).mono ?_
  rintro e w' ⟨x, rfl, h1, -, hb⟩
  exact ⟨x, rfl, h1, hb⟩
end Go.Proofs.YteimpkjpoijhmaaDoor
