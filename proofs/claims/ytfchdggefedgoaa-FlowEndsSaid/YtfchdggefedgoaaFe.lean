/-
  Law FlowEnds: whichever way is gone, code that flows well ends, and comes to each place at most so often.
-/
import Derived.Test.YtfchdggefedgoaaFx
import Derived.Test.YtfchdggefedgoaaFs
namespace Go.Proofs.Ytfchdggefedgoaa
open Go.RowKit
set_option maxRecDepth 100000
set_option linter.unusedSimpArgs false
set_option linter.unusedVariables false

/-- The slice at A, of capacity c, reads as the Booleans W. -/
def Rb9 (w : World) (A : Option Addr) (c : Nat) (W : List Bool) : Prop := W.length ≤ c ∧ c ≤ maxLen ∧ ((A = none ∧ c = 0) ∨ ∃ ad : Addr, A = some ad ∧ ∀ i x, W[i]? = some x → w.cell? (ad.add i) = some (.bool x))
theorem Rb9.keep {w w' : World} {A : Option Addr} {c : Nat} {W : List Bool} (h : Rb9 w A c W) (hb : Below w.heap.size w w') : Rb9 w' A c W := by
  refine ⟨h.1, h.2.1, ?_⟩
  rcases h.2.2 with hn | ⟨ad, ha, hc⟩
  · exact .inl hn
  · exact .inr ⟨ad, ha, fun i x hx => (hb.cell (cell_lt (hc i x hx))).trans (hc i x hx)⟩
theorem Rb9.at_ {w : World} {A : Option Addr} {c : Nat} {W : List Bool} (h : Rb9 w A c W) {i : Nat} (hi : i < W.length) : ∃ ad y, A = some ad ∧ w.cell? (ad.add i) = some (.bool y) := by
  rcases h.2.2 with ⟨-, hc⟩ | ⟨ad, ha, hc⟩
  · have := h.1; omega
  · exact ⟨ad, _, ha, hc i _ (List.getElem?_eq_getElem hi)⟩
/-- The two arrays that count, in blocks made since. -/
def I9 (w2 w : World) (B : Nat) (came lf : Nat → Nat) : Prop := Below B w2 w ∧ Ar9 w B came ∧ Ar9 w (B + 1) lf
section
variable {w2 w w' : World} {B : Nat} {came lf : Nat → Nat}
theorem I9.start (w : World) : I9 w ((w.alloc (.cells (fc9 fun _ => 0) 50)).alloc (.cells (fc9 fun _ => 0) 50)) w.heap.size (fun _ => 0) (fun _ => 0) :=
  ⟨new1.trans (new1.mono (by simp)), (Ar9.new w _).keep new1, by have := Ar9.new (w.alloc (.cells (fc9 fun _ => 0) 50)) (fun _ => 0); simpa using this⟩
theorem I9.call (h : I9 w2 w B came lf) (hb : Below w.heap.size w w') : I9 w2 w' B came lf :=
  ⟨h.1.trans (hb.mono (Nat.le_of_lt h.2.1.lt)), h.2.1.keep hb, h.2.2.keep hb⟩
theorem I9.putc (h : I9 w2 w B came lf) (p v : Nat) : I9 w2 (w.setCell ⟨B, p, none⟩ (.int .i64 v)) B (put9 came p v) lf :=
  ⟨h.1.setCell (Nat.le_refl _) _, h.2.1.put p v, h.2.2.other (by simp) _⟩
theorem I9.putl (h : I9 w2 w B came lf) (p v : Nat) : I9 w2 (w.setCell ⟨B + 1, p, none⟩ (.int .i64 v)) B came (put9 lf p v) :=
  ⟨h.1.setCell (by simp) _, h.2.1.other (by simp) _, h.2.2.put p v⟩
end
set_option maxHeartbeats 8000000 in
theorem ends9_v (KT : KFTimes) (KL : KFLoops) (KW : KFWays) (KC : KFCheck) (A A2 : Option Addr) (c m c2 m2 : Nat) (L : List Ins) (W : List Bool) (w : World) (hr : Ri w A c L) (hm : L.length = m) (hr2 : Rb9 w A2 c2 W) (hm2 : W.length = m2) :
    Calls Try.prog 5 #[.slice A m c, .slice A2 m2 c2] w fun r w' => r = .returned (.bool true) ∧ Below w.heap.size w w' := by
  have HW := Lib.hid (flows9_v KT A c m L)
  have HR := Lib.hid hr
  have HLm := Lib.hid hm
  have HRb := Lib.hid hr2
  have HWm := Lib.hid hm2
  have hm2l : m2 ≤ 9223372036854775807 := by have := hr2.1; have := hr2.2.1; unfold maxLen at this; omega
  clear hr hm hr2 hm2
  obtain ⟨Z, hZ⟩ : ∃ Z, fc9 (fun _ => 0) = Z := ⟨_, rfl⟩
  have HZ := Lib.hid hZ
  have hz0 : ∀ w, (zeroValue 50).run Try.prog w = .ok (.agg Z) w := by
    have := (zero_of_info Try.infoA9).1
    rw [fc9_zero, hZ] at this
    exact this
  clear hZ
  go_enter Try.func5, Try.ntmps5
  go_wp2_with fail
  refine (awake9_any KL KT KW KC _).mono ?_
  rintro r w1 ⟨rfl, hb⟩
  have HB1 := Lib.hid hb
  clear hb
  go_wp2_with fail
  refine (HW.out _ (HR.out.keep HB1.out) HLm.out).mono ?_
  rintro r w2 ⟨A', c', rfl, hc, hb2⟩
  have HB2 := Lib.hid (HB1.out.trans (hb2.mono HB1.out.size))
  have HC := Lib.hid hc
  clear hc hb2 HB1 HW
  by_cases hf : fs9 L = true
  · rw [hf] at HC ⊢
    obtain ⟨g, hg, hcl⟩ := HC.out rfl
    subst hg
    have HCL := Lib.hid hcl
    clear HC hcl
    go_upto_region 6 with (fail)
    go_upto_region 7 with (fail)
    obtain ⟨he0, hsum⟩ : flE9 L = 0 ∧ (flT9 L).sum ≤ 20000 := by simpa [fs9] using hf
    have hfT : fsT9 L = flT9 L := by rw [fsT9, if_pos hf]
    obtain ⟨hTl, hTa⟩ := flT9_zero he0
    have HWl := Lib.hid (wl9 he0)
    have hall := codM_all (flE9_zero he0).1
    have hm200 : m ≤ 200 := by rw [← HLm.out]; exact hall.2.1
    have HSU : Hid (sm9 (fun q => pr9 (lq9 (lpU9 L L.length) q)) L.length ≤ 20000) := by
      have h1 := sum9_sm HWl.out L.length
      rw [flT9, if_pos he0, h1] at hsum
      unfold Hid
      omega
    rw [hfT, hTl, HLm.out]
    obtain ⟨T, hT⟩ : ∃ T, flT9 L = T := ⟨_, rfl⟩
    rw [hT] at HCL hTa
    have HTA : Hid (∀ p, p < m → T[p]? = some (pr9 (lq9 (lpU9 L L.length) p) : Int) ∧ pr9 (lq9 (lpU9 L L.length) p) ≤ 100000000) := Lib.hid fun p hp => by
      have h1 := hTa p (by rw [HLm.out]; exact hp)
      have h2 := (tm9_bd he0 (p := p) (by rw [HLm.out]; exact hp)).2
      rw [tm9_pr HWl.out] at h1 h2
      exact ⟨h1, by omega⟩
    have HTL : Hid (T.length = m) := Lib.hid (by rw [← hT, hTl, HLm.out])
    have I0 := Lib.hid (I9.start w2)
    rw [Hid, HZ.out] at I0
    have I0 := Lib.hid I0
    generalize (w2.alloc (Obj.cells Z 50)).alloc (Obj.cells Z 50) = w3 at I0 ⊢
    obtain ⟨B, hB⟩ : ∃ B, w2.heap.size = B := ⟨_, rfl⟩
    have HBB := Lib.hid hB
    rw [hB] at I0 ⊢
    generalize lpU9 L L.length = out at HWl HSU HTA
    clear hf he0 hsum hfT hTl hTa hall hT hB hz0
    have hm1 : 1 ≤ m := by rw [← HLm.out]; exact HWl.out.pos
    go_wp2_with fail
    go_loopw [9, 10, 11, 12] (fun pc n sv sc wr => ∃ (p j s : Nat) (b : Bool) (came lf : Nat → Nat), pc = .int .i64 p ∧ n = .int .i64 j ∧ sv = .bool b ∧ sc = .int .i64 s ∧ Hid (s = sm9 came L.length) ∧ j ≤ s ∧ Hid (In9 L out p came lf b) ∧ Hid (I9 w2 wr B came lf)) (fun _ _ _ sc _ => 20000 - (intOf sc).toNat)
    case atStart => exact ⟨0, 0, 0, true, _, _, rfl, rfl, rfl, rfl, Lib.hid (sm9_zero _).symm, Nat.le_refl _, Lib.hid (In9.start HWl.out), I0⟩
    case round =>
      obtain ⟨p, j, s, b, came, lf, rfl, rfl, rfl, rfl, HS, hjs, HIn, HI⟩ := hrel
      clear I0
      have hp : p < m := by rw [← HLm.out]; exact HIn.out.lt
      have hs20 : s + 1 ≤ 20000 := by rw [HS.out]; exact HIn.out.steps HSU.out
      obtain ⟨t, ht⟩ : ∃ t, pr9 (lq9 out p) = t := ⟨_, rfl⟩
      obtain ⟨cp, hcp⟩ : ∃ cp, came p = cp := ⟨_, rfl⟩
      have hct : cp + 1 ≤ t := by
        have := HIn.out.enough p
        rw [if_pos rfl, ht, hcp] at this
        exact this
      obtain ⟨HTp, htb⟩ := HTA.out p hp
      rw [ht] at HTp htb
      have hS2 : sm9 (put9 came p (came p + 1)) L.length = s + 1 := by rw [sm9_put came _ HIn.out.lt, HS.out]
      have HS2 := Lib.hid hS2
      have hc7 : wr.cell? ⟨B, p, none⟩ = some (.int .i64 cp) := by rw [HI.out.2.1.cell (by omega), hcp]
      have hf7 : wr.frozen? ⟨B, p, none⟩ = false := HI.out.2.1.froz p
      have I3 : Hid (I9 w2 (wr.setCell ⟨B, p, none⟩ (.int .i64 ((cp : Int) + 1))) B (put9 came p (came p + 1)) lf) := by
        have h := HI.out.putc p (cp + 1)
        rw [hcp]
        unfold Hid
        simpa using h
      have HTp := Lib.hid HTp
      have HCp : Hid (put9 came p (came p + 1) p = cp + 1) := Lib.hid (by simp [put9, hcp])
      have hs300 : (p : Int) < 300 := by omega
      clear hS2 ht hcp
      go_upto_region 14 with (fail)
      generalize wr.setCell ⟨B, p, none⟩ (.int .i64 ((cp : Int) + 1)) = w4 at I3 ⊢
      clear hc7 hf7
      have SR : Hid (w4.drew.cell? ⟨B, p, none⟩ = some (.int .i64 ((cp : Int) + 1)) ∧ w4.drew.cell? ⟨g, p, none⟩ = some (.int .i64 t) ∧ True) :=
        Lib.hid ⟨(I3.out.2.1.cell (i := p) (by omega)).trans (by rw [HCp.out]; simp), (HCL.out.keep (I3.out.1.mono (by rw [HBB.out]; exact Nat.le_refl _))).2 p _ (by simp [ci9, HTp.out]), trivial⟩
      refine wp_region_held_drew (S := fun w' => Hid (w'.cell? ⟨B, p, none⟩ = some (.int .i64 ((cp : Int) + 1)) ∧ w'.cell? ⟨g, p, none⟩ = some (.int .i64 t) ∧ True)) (by kernel_rfl) (SR) (fun hHeld => ?_)
      refine wpAnyH_take (i := 0) (v := ?_) rfl (by kernel_rfl) (by kernel_rfl) (by kernel_rfl) (fun _ _ _ h => h) (Or.inl ⟨by rfl, ?_⟩) (by assumption) ?_
      rotate_left 1
      · intro w _; go_simp; try with_reducible rfl
      try simp only [Act.put, List.getElem_toArray, List.getElem_cons_zero, List.getElem_cons_succ, List.setIfInBounds_toArray, List.set_cons_zero, List.set_cons_succ]
      refine wpAnyH_take (i := 1) (v := ?_) rfl (by kernel_rfl) (by kernel_rfl) (by kernel_rfl) (fun _ _ _ h => h) (Or.inl ⟨by rfl, ?_⟩) (by assumption) ?_
      rotate_left 1
      · intro w _; go_simp; try with_reducible rfl
      try simp only [Act.put, List.getElem_toArray, List.getElem_cons_zero, List.getElem_cons_succ, List.setIfInBounds_toArray, List.set_cons_zero, List.set_cons_succ]
      refine wpAnyH_take (i := 2) (v := ?_) rfl (by kernel_rfl) (by kernel_rfl) (by kernel_rfl) (fun _ _ _ h => h) (Or.inl ⟨by rfl, ?_⟩) (by assumption) ?_
      rotate_left 1
      · intro w hSw; (try dsimp only at hSw); obtain ⟨s0, s1, -⟩ := hSw.out; go_simp; try with_reducible rfl
      try simp only [Act.put, List.getElem_toArray, List.getElem_cons_zero, List.getElem_cons_succ, List.setIfInBounds_toArray, List.set_cons_zero, List.set_cons_succ]
      refine wpAnyH_take (i := 3) (v := ?_) rfl (by kernel_rfl) (by kernel_rfl) (by kernel_rfl) (fun _ _ _ h => h) (Or.inl ⟨by rfl, ?_⟩) (by assumption) ?_
      rotate_left 1
      · intro w _; go_simp; try with_reducible rfl
      try simp only [Act.put, List.getElem_toArray, List.getElem_cons_zero, List.getElem_cons_succ, List.setIfInBounds_toArray, List.set_cons_zero, List.set_cons_succ]
      refine wpAnyH_take (i := 4) (v := ?_) rfl (by kernel_rfl) (by kernel_rfl) (by kernel_rfl) (fun _ _ _ h => h) (Or.inl ⟨by rfl, ?_⟩) (by assumption) ?_
      rotate_left 1
      · intro w _; go_simp; try with_reducible rfl
      try simp only [Act.put, List.getElem_toArray, List.getElem_cons_zero, List.getElem_cons_succ, List.setIfInBounds_toArray, List.set_cons_zero, List.set_cons_succ]
      refine wpAnyH_take (i := 5) (v := ?_) rfl (by kernel_rfl) (by kernel_rfl) (by kernel_rfl) (fun _ _ _ h => h) (Or.inl ⟨by rfl, ?_⟩) (by assumption) ?_
      rotate_left 1
      · intro w _; go_simp; try with_reducible rfl
      try simp only [Act.put, List.getElem_toArray, List.getElem_cons_zero, List.getElem_cons_succ, List.setIfInBounds_toArray, List.set_cons_zero, List.set_cons_succ]
      refine wpAnyH_take (i := 6) (v := ?_) rfl (by kernel_rfl) (by kernel_rfl) (by kernel_rfl) (fun _ _ _ h => h) (Or.inl ⟨by rfl, ?_⟩) (by assumption) ?_
      rotate_left 1
      · intro w hSw; (try dsimp only at hSw); obtain ⟨s0, s1, -⟩ := hSw.out; go_simp; try with_reducible rfl
      try simp only [Act.put, List.getElem_toArray, List.getElem_cons_zero, List.getElem_cons_succ, List.setIfInBounds_toArray, List.set_cons_zero, List.set_cons_succ]
      refine wpAnyH_take (i := 7) (v := ?_) rfl (by kernel_rfl) (by kernel_rfl) (by kernel_rfl) (fun _ _ _ h => h) (Or.inl ⟨by rfl, ?_⟩) (by assumption) ?_
      rotate_left 1
      · intro w _; go_simp; try with_reducible rfl
      try simp only [Act.put, List.getElem_toArray, List.getElem_cons_zero, List.getElem_cons_succ, List.setIfInBounds_toArray, List.set_cons_zero, List.set_cons_succ]
      refine wpAnyH_done (by kernel_rfl) ?_ _
      clear hHeld
      obtain ⟨⟨o, a, z⟩, hx⟩ : ∃ x, L[p]? = some x := ⟨_, List.getElem?_eq_getElem HIn.out.lt⟩
      have HO : Hid (iO9 L p = o ∧ iA9 L p = a) := Lib.hid ⟨by simp [iO9, hx], by simp [iA9, hx]⟩
      obtain ⟨⟨o1, o2⟩, ⟨a1, a2⟩, -⟩ : InOk (o, a, z) := HR.out.1 _ (List.mem_of_getElem? hx)
      have hBd : Below B w2 w4.drew := below_draws I3.out.1 1
      have I4 : Hid (I9 w2 w4.drew B (put9 came p (came p + 1)) lf) := Lib.hid ⟨hBd, I3.out.2.1, I3.out.2.2⟩
      have HB4 : Hid (Below w.heap.size w w4.drew) := Lib.hid (HB2.out.trans (hBd.mono (by rw [← HBB.out]; exact HB2.out.size)))
      obtain ⟨ad, hA, k1, k2, k3⟩ := (HR.out.keep HB4.out).at_ (i := p) (by rw [HLm.out]; exact hp)
      have hxe : L[p]'(by rw [HLm.out]; exact hp) = (o, a, z) := by
        have h := List.getElem?_eq_getElem (l := L) (i := p) (by rw [HLm.out]; exact hp)
        rw [hx] at h
        injection h with h
        exact h.symm
      rw [hxe] at k1 k2 k3
      subst hA
      clear hxe hx hBd I3 SR
      generalize w4.drew = w5 at I4 HB4 k1 k2 k3 ⊢
      go_upto_region 17 with (fail)
      obtain ⟨D, hD⟩ : ∃ D, w5.heap.size = D := ⟨_, rfl⟩
      have I6 : Hid (I9 w2 (w5.alloc (.cells #[.int .u8 o, .int .i64 a, .int .i64 z] 52)) B (put9 came p (came p + 1)) lf) := Lib.hid (I4.out.call new1)
      have HB6 : Hid (Below w.heap.size w (w5.alloc (.cells #[.int .u8 o, .int .i64 a, .int .i64 z] 52))) := Lib.hid (HB4.out.trans (new1.mono HB4.out.size))
      obtain ⟨hD6, q1, q2, -⟩ := In.new w5 o a z
      rw [hD] at hD6 q1 q2 ⊢
      have hBD : B + 1 < D := by rw [← hD]; exact I4.out.2.2.lt
      generalize w5.alloc (.cells #[.int .u8 o, .int .i64 a, .int .i64 z] 52) = w6 at I6 HB6 hD6 q1 q2 ⊢
      clear k1 k2 k3 I4 HB4 hD hD6
      by_cases hret : o = 31 ∨ o = 32
      · have hret := Lib.hid hret
        cases b with
        | false =>
          rcases hret.out with rfl | rfl
          · go_wp2_with fail
            go_ret
            exact ⟨rfl, HB6.out⟩
          · go_wp2_with fail
            go_ret
            exact ⟨rfl, HB6.out⟩
        | true =>
          have HC6 : Hid (Cl9 w6 g (ci9 T)) := Lib.hid (HCL.out.keep (I6.out.1.mono (by rw [HBB.out]; exact Nat.le_refl _)))
          have HEX : Hid (T[p]? = some 1 → ∀ q, q < p → T[q]? = some ((put9 came p (came p + 1) q : Nat) : Int)) := Lib.hid fun h q hq => by
            have h1 : pr9 (lq9 out p) = 1 := by
              rw [(HTA.out p hp).1] at h
              injection h with h
              omega
            rw [(HTA.out q (by omega)).1, ← HIn.out.exact h1 hq]
            unfold put9
            rw [if_neg (by omega)]
          generalize put9 came p (came p + 1) = f6 at I6 HEX
          rcases hret.out with rfl | rfl
          · go_upto_region 18 with (fail)
            go_wp2_with fail
            refine wp_load_row 50 (.tmp 7) rfl B rfl 50 (fc9 f6) (0, 0) _ I6.out.2.1 Try.underlying50 rfl (by rw [fc9_size]; exact (zero_of_info Try.infoA9).2) ?_
            go_wp2_with fail
            refine (exact9_v _ _ _ _ _ _ T f6 p g _ rfl HC6.out HTL.out hp hm200 HEX.out).mono ?_
            rintro r w7 ⟨rfl, hb7⟩
            have HB7 := Lib.hid (HB6.out.trans (hb7.mono HB6.out.size))
            clear hb7
            go_wp2_with fail
            go_ret
            exact ⟨rfl, HB7.out⟩
          · go_upto_region 18 with (fail)
            go_wp2_with fail
            refine wp_load_row 50 (.tmp 7) rfl B rfl 50 (fc9 f6) (0, 0) _ I6.out.2.1 Try.underlying50 rfl (by rw [fc9_size]; exact (zero_of_info Try.infoA9).2) ?_
            go_wp2_with fail
            refine (exact9_v _ _ _ _ _ _ T f6 p g _ rfl HC6.out HTL.out hp hm200 HEX.out).mono ?_
            rintro r w7 ⟨rfl, hb7⟩
            have HB7 := Lib.hid (HB6.out.trans (hb7.mono HB6.out.size))
            clear hb7
            go_wp2_with fail
            go_ret
            exact ⟨rfl, HB7.out⟩
      by_cases hloop : o = 28
      · subst hloop
        obtain ⟨g1, g2, g3, g4⟩ := HIn.out.go_loop HWl.out HO.out.1
        rw [HO.out.2] at g2 g3 g4
        obtain ⟨k, rfl⟩ : ∃ k : Nat, a = k := ⟨a.toNat, by omega⟩
        rw [Int.toNat_natCast] at g4
        have GN := Lib.hid g4
        obtain ⟨v, hv⟩ : ∃ v, lf p = v := ⟨_, rfl⟩
        have c8 : w6.cell? ⟨B + 1, p, none⟩ = some (.int .i64 v) := by rw [I6.out.2.2.cell (by omega), hv]
        clear hv
        have hf8 : w6.frozen? ⟨B + 1, p, none⟩ = false := I6.out.2.2.froz p
        have I7 := Lib.hid (I6.out.putl p k)
        clear g4 hret
        go_wp2_with fail
        go_roundw
        case rel => exact ⟨p + 1, j, s + 1, b, _, _, by go_num, by go_num, rfl, by go_num, Lib.hid HS2.out.symm, by omega, GN, I7⟩
        case measure => simp [intOf]; omega
      by_cases hag : o = 29
      · subst hag
        obtain ⟨f, g1, g2, g3, g4, g5, g6⟩ := HIn.out.go_again HWl.out HO.out.1
        rw [HO.out.2] at g1
        subst g1
        have GN1 := Lib.hid g5
        have GN2 := Lib.hid g6
        obtain ⟨v, hv⟩ : ∃ v, lf f = v := ⟨_, rfl⟩
        rw [hv] at g3 g4 GN1 GN2
        have c8 : w6.cell? ⟨B + 1, f, none⟩ = some (.int .i64 v) := by rw [I6.out.2.2.cell (by omega), hv]
        have hf8 : w6.frozen? ⟨B + 1, f, none⟩ = false := I6.out.2.2.froz f
        have I7 : Hid (I9 w2 (w6.setCell ⟨B + 1, f, none⟩ (.int .i64 ((v : Int) - 1))) B (put9 came p (came p + 1)) (put9 lf f (v - 1))) := by
          have h := I6.out.putl f (v - 1)
          rw [show ((v - 1 : Nat) : Int) = (v : Int) - 1 by omega] at h
          exact h
        have hf300 : (f : Int) < 300 := by omega
        have hfm : f < m := by omega
        clear g5 g6 hret hloop hv
        by_cases h2 : 2 ≤ v
        · have hgt : 0 < (v : Int) - 1 := by omega
          go_wp2_with fail
          go_roundw
          case rel => exact ⟨f + 1, j, s + 1, b, _, _, by go_num, by go_num, rfl, by go_num, Lib.hid HS2.out.symm, by omega, Lib.hid (GN1.out h2), I7⟩
          case measure => simp [intOf]; omega
        · obtain rfl : v = 1 := by omega
          obtain ⟨g7, g8⟩ := GN2.out rfl
          have GN := Lib.hid g8
          clear g8
          go_wp2_with fail
          go_roundw
          case rel => exact ⟨p + 1, j, s + 1, b, _, _, by go_num, by go_num, rfl, by go_num, Lib.hid HS2.out.symm, by omega, GN, I7⟩
          case measure => simp [intOf]; omega
      by_cases hj : o = 26
      · subst hj
        obtain ⟨k, g1, g2, g3⟩ := HIn.out.go_jump HWl.out (.inl HO.out.1)
        rw [HO.out.2] at g1
        subst g1
        have GN := Lib.hid g3
        clear g3 hret hloop hag
        go_wp2_with fail
        go_roundw
        case rel => exact ⟨k, j, s + 1, false, _, lf, by go_num, by go_num, rfl, by go_num, Lib.hid HS2.out.symm, by omega, GN, I6⟩
        case measure => simp [intOf]; omega
      by_cases hzr : o = 27
      · subst hzr
        have GO : Hid (In9 L out (p + 1) (put9 came p (came p + 1)) lf false) :=
          Lib.hid (HIn.out.go_on HWl.out (by rw [HO.out.1]; omega) (by rw [HO.out.1]; omega) (by rw [HO.out.1]; omega) (by rw [HO.out.1]; omega) (st' := false) (fun h => by cases h)).2
        obtain ⟨k, g1, g2, g3⟩ := HIn.out.go_jump HWl.out (.inr HO.out.1)
        rw [HO.out.2] at g1
        subst g1
        have GJ := Lib.hid g3
        clear g3 hret hloop hag hj
        by_cases hn : j < m2
        · obtain ⟨ad2, y, hA2, hy⟩ := (HRb.out.keep HB6.out).at_ (i := j) (by rw [HWm.out]; exact hn)
          subst hA2
          cases y with
          | false =>
            go_wp2_with fail
            go_roundw
            case rel => exact ⟨p + 1, j + 1, s + 1, false, _, lf, by go_num, by go_num, rfl, by go_num, Lib.hid HS2.out.symm, by omega, GO, I6⟩
            case measure => simp [intOf]; omega
          | true =>
            go_wp2_with fail
            go_roundw
            case rel => exact ⟨k, j + 1, s + 1, false, _, lf, by go_num, by go_num, rfl, by go_num, Lib.hid HS2.out.symm, by omega, GJ, I6⟩
            case measure => simp [intOf]; omega
        · have hn2 : m2 ≤ j := by omega
          go_wp2_with fail
          go_roundw
          case rel => exact ⟨p + 1, j + 1, s + 1, false, _, lf, by go_num, by go_num, rfl, by go_num, Lib.hid HS2.out.symm, by omega, GO, I6⟩
          case measure => simp [intOf]; omega
      obtain ⟨g1, g2⟩ := HIn.out.go_on HWl.out (by rw [HO.out.1]; omega) (by rw [HO.out.1]; omega) (by rw [HO.out.1]; omega) (by rw [HO.out.1]; omega) (st' := b) id
      have GN := Lib.hid g2
      have e31 : (o == 31) = false := by simp; omega
      have e32 : (o == 32) = false := by simp; omega
      have e28 : (o == 28) = false := by simp; omega
      have e29 : (o == 29) = false := by simp; omega
      have e26 : (o == 26) = false := by simp; omega
      have e27 : (o == 27) = false := by simp; omega
      clear g2
      go_wp2_with fail
      go_roundw
      case rel => exact ⟨p + 1, j, s + 1, b, _, lf, by go_num, by go_num, rfl, by go_num, Lib.hid HS2.out.symm, by omega, GN, I6⟩
      case measure => simp [intOf]; omega
  · rw [Bool.not_eq_true] at hf
    rw [hf] at HC ⊢
    go_wp2_with fail
    go_ret
    exact ⟨rfl, HB2.out⟩
end Go.Proofs.Ytfchdggefedgoaa
