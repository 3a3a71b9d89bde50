/-
  The walk of PoolOnce over its contracts: for all values it returns true; nothing that was there has changed.
-/
import Derived.Test.YtohbndjfnakelaaDoorPawake
namespace Go.Proofs.YtohbndjfnakelaaDoor
open Go.RowKit
set_option maxRecDepth 100000
set_option linter.unusedSimpArgs false
set_option linter.unusedVariables false

/-- A pool whose values are each first where they stand. -/
def onP (P : List Vlu) : Prop := poM P = true ∧ ∀ i (h : i < P.length), fdK P P[i] = i
theorem fdK_app_lt {R : List Vlu} {y : Vlu} : ∀ {P : List Vlu}, fdK P y < P.length → fdK (P ++ R) y = fdK P y
  | [], h => by simp at h
  | z :: P, h => by
    rw [List.cons_append, fdK, fdK]
    by_cases e : z = y
    · rw [if_pos e, if_pos e]
    · rw [if_neg e, if_neg e, fdK_app_lt (P := P) (by rw [fdK, if_neg e] at h; simpa using h)]
theorem fdK_app_miss {x : Vlu} : ∀ {P : List Vlu}, ¬ fdK P x < P.length → fdK (P ++ [x]) x = P.length
  | [], _ => by simp [fdK]
  | z :: P, h => by
    rw [List.cons_append, fdK]
    by_cases e : z = x
    · rw [fdK, if_pos e] at h; simp at h
    · rw [if_neg e, fdK_app_miss (P := P) (by rw [fdK, if_neg e] at h; simpa using h)]
      rfl
theorem onP_nil : onP [] := ⟨by decide, fun i h => by simp at h⟩
theorem onP_app {P : List Vlu} {x : Vlu} (h : onP P) (hx : ¬ fdK P x < P.length) (hv : poM (P ++ [x]) = true) : onP (P ++ [x]) := by
  refine ⟨hv, fun i hi => ?_⟩
  by_cases h1 : i < P.length
  · rw [List.getElem_append_left h1]
    have := h.2 i h1
    rw [fdK_app_lt (by omega), this]
  · have e : i = P.length := by simp at hi; omega
    subst e
    simp only [List.getElem_append_right (Nat.le_refl _), Nat.sub_self, List.getElem_singleton]
    exact fdK_app_miss hx
theorem fdK_hit {P : List Vlu} {x : Vlu} (h : fdK P x < P.length) : P[fdK P x]? = some x := by
  rw [List.getElem?_eq_getElem h, (fdK_at (Nat.le_refl _) h).2 rfl]
theorem Rv.atx {w : World} {ad : Addr} {c i : Nat} {L : List Vlu} {k a b : Int} (h : Rv w (some ad) c L) (hx : L[i]? = some (k, a, b)) :
    w.cell? (ad.add (i * 3)) = some (.int .u8 k) ∧ w.cell? ⟨(ad.add (i * 3)).block, (ad.add (i * 3)).off + 1, none⟩ = some (.int .i64 a) ∧ w.cell? ⟨(ad.add (i * 3)).block, (ad.add (i * 3)).off + 2, none⟩ = some (.int .i64 b) := by
  rcases h.2.2.2 with ⟨h1, _⟩ | ⟨ad', h1, h2⟩
  · cases h1
  · injection h1 with h1
    subst h1
    exact h2 i _ hx
theorem Rv.some_ {w : World} {A : Option Addr} {c i : Nat} {L : List Vlu} (h : Rv w A c L) (hi : i < L.length) : ∃ ad, A = some ad := by
  obtain ⟨ad, h, _⟩ := h.at_ hi
  exact ⟨ad, h⟩
theorem Rv.take {w : World} {A : Option Addr} {c : Nat} {L : List Vlu} (h : Rv w A c L) (n : Nat) : Rv w A c (L.take n) := by
  refine ⟨fun x hx => h.1 x (List.mem_of_mem_take hx), by have := h.2.1; rw [List.length_take]; omega, h.2.2.1, ?_⟩
  rcases h.2.2.2 with hn | ⟨ad, ha, hc⟩
  · exact .inl hn
  · exact .inr ⟨ad, ha, fun i x hx => hc i x (by rw [List.getElem?_take] at hx; split at hx; exact hx; cases hx)⟩
set_option maxHeartbeats 8000000 in
theorem ponce_walk (F : Fct) (KM : KPMay F) (KF : KPFind F) (KB : KPBytes F) (KR : KPRead F) (KA : KPAdd F) (A : Option Addr) (c n : Nat) (L : List Vlu) (w : World) (hw : F.p w) (hr : Rv w A c L) (hn : L.length = n) :
    Calls Tryd.prog 6 #[.slice A n c] w fun e w' => e = .returned (.bool true) ∧ Below w.heap.size w w' := by
  subst hn
  have hlen := hr.len
  have HOL := Lib.hid hr.1
  have S0 := Lib.hid (((Sx.start w).add F hw).add (fW A c L) hr)
  clear hw hr
  go_enter Tryd.func6, Tryd.ntmps6
  go_wp2_with fail
  refine (pawake_any F KB KR KA _ S0.out.2.2.1).mono ?_
  rintro e w1 ⟨rfl, hb1⟩
  have S1 := Lib.hid (S0.out.call hb1)
  clear S0 hb1
  by_cases hl : L.length ≤ 100
  · go_wp2_with fail
    go_loopw [3, 4, 5, 6, 7, 8] (fun p i _ _ _ _ wr => ∃ (j : Nat) (P : List Vlu) (A3 : Option Addr) (c3 : Nat), j ≤ L.length ∧ i = .int .i64 j ∧ p = .slice A3 P.length c3 ∧ Hid (onP P) ∧ Hid (Sx w wr [fW A3 c3 P, fW A c L, F])) (fun _ i _ _ _ _ _ => L.length - (intOf i).toNat)
    case atStart => exact ⟨0, [], none, 0, by omega, rfl, rfl, Lib.hid onP_nil, Lib.hid ⟨S1.out.1, Rv.none_ _, S1.out.2⟩⟩
    case round =>
      obtain ⟨j, P, A3, c3, hj, rfl, rfl, HON, S2⟩ := hrel
      clear S1
      have hP2 := poM_le HON.out.1
      by_cases h1 : j < L.length
      · obtain ⟨⟨k, a, b⟩, hx⟩ : ∃ x, L[j]? = some x := ⟨_, List.getElem?_eq_getElem h1⟩
        have HLj := Lib.hid hx
        have HX := Lib.hid (HOL.out _ (List.mem_of_getElem? hx))
        have HOP := Lib.hid S2.out.2.1.1
        obtain ⟨ad, rfl⟩ := S2.out.2.2.1.some_ h1
        obtain ⟨s1, s2, s3⟩ := Rv.atx S2.out.2.2.1 hx
        clear hx
        go_wp2_with fail
        refine (KF A3 c3 P.length P k a b _ S2.out.2.2.2.1 S2.out.2.1 rfl (by omega) HX.out).mono ?_
        rintro e w3 ⟨rfl, hb3⟩
        have T2 := Lib.hid (S2.out.call hb3)
        clear S2 hb3 s1 s2 s3
        obtain ⟨s1, s2, s3⟩ := Rv.atx T2.out.2.2.1 HLj.out
        go_wp2_with fail
        refine (KA A3 c3 P.length P k a b _ T2.out.2.2.2.1 T2.out.2.1 rfl (by omega) HX.out).mono ?_
        rintro e w2 ⟨A6, c6, rfl, ho6, hb6⟩
        have S2 := Lib.hid (T2.out.call hb6)
        clear T2 s1 s2 s3 hb6
        by_cases h3 : ¬ fdK P (k, a, b) < P.length ∧ poM (P ++ [(k, a, b)]) = false
        · have HV := Lib.hid h3.2
          have hR : adP P (k, a, b) = ([], 0, 60) := by rw [adP, if_pos HON.out.1, if_neg h3.1, if_neg (by rw [h3.2]; decide)]
          have hI : fdI P (k, a, b) = -1 := by rw [fdI, if_neg h3.1]
          rw [hR, hI]
          clear ho6 h3 hR hI
          rw [show ([] : List Vlu).length = 0 from rfl]
          go_upto_region 12 with (fail)
          refine wp_region_held_drew (S := fun w' => Hid (Below w2.heap.size w2 w')) (by kernel_rfl) (Lib.hid (below_draws (Below.refl _ _) 1)) (fun hHeld => ?_)
          refine wpAnyH_take (i := 0) (v := ?_) rfl (by kernel_rfl) (by kernel_rfl) (by kernel_rfl) (fun _ _ _ h => h) (Or.inl ⟨by rfl, ?_⟩) (by assumption) ?_
          rotate_left 1
          · intro w _; go_simp; try with_reducible rfl
          try simp only [Act.put, List.getElem_toArray, List.getElem_cons_zero, List.getElem_cons_succ, List.setIfInBounds_toArray, List.set_cons_zero, List.set_cons_succ]
          refine wpAnyH_take (i := 1) (v := ?_) rfl (by kernel_rfl) (by kernel_rfl) (by kernel_rfl) (fun _ _ _ h => h) (Or.inl ⟨by rfl, ?_⟩) (by assumption) ?_
          rotate_left 1
          · intro w _; go_simp; try with_reducible rfl
          try simp only [Act.put, List.getElem_toArray, List.getElem_cons_zero, List.getElem_cons_succ, List.setIfInBounds_toArray, List.set_cons_zero, List.set_cons_succ]
          refine wpAnyH_take (i := 2) (v := ?_) rfl (by kernel_rfl) (by kernel_rfl) (by kernel_rfl) (fun _ _ _ h => h) (Or.inl ⟨by rfl, ?_⟩) (by assumption) ?_
          rotate_left 1
          · intro w _; go_simp; try with_reducible rfl
          try simp only [Act.put, List.getElem_toArray, List.getElem_cons_zero, List.getElem_cons_succ, List.setIfInBounds_toArray, List.set_cons_zero, List.set_cons_succ]
          refine wpAnyH_take (i := 3) (v := ?_) rfl (by kernel_rfl) (by kernel_rfl) (by kernel_rfl) (fun _ _ _ h => h) (Or.inl ⟨by rfl, ?_⟩) (by assumption) ?_
          rotate_left 1
          · intro w _; go_simp; try with_reducible rfl
          try simp only [Act.put, List.getElem_toArray, List.getElem_cons_zero, List.getElem_cons_succ, List.setIfInBounds_toArray, List.set_cons_zero, List.set_cons_succ]
          refine wpAnyH_take (i := 4) (v := ?_) rfl (by kernel_rfl) (by kernel_rfl) (by kernel_rfl) (fun _ _ _ h => h) (Or.inl ⟨by rfl, ?_⟩) (by assumption) ?_
          rotate_left 1
          · intro w _; go_simp; try with_reducible rfl
          try simp only [Act.put, List.getElem_toArray, List.getElem_cons_zero, List.getElem_cons_succ, List.setIfInBounds_toArray, List.set_cons_zero, List.set_cons_succ]
          refine wpAnyH_take (i := 5) (v := ?_) rfl (by kernel_rfl) (by kernel_rfl) (by kernel_rfl) (fun _ _ _ h => h) (Or.inl ⟨by rfl, ?_⟩) (by assumption) ?_
          rotate_left 1
          · intro w _; go_simp; try with_reducible rfl
          try simp only [Act.put, List.getElem_toArray, List.getElem_cons_zero, List.getElem_cons_succ, List.setIfInBounds_toArray, List.set_cons_zero, List.set_cons_succ]
          refine wpAnyH_take (i := 6) (v := ?_) rfl (by kernel_rfl) (by kernel_rfl) (by kernel_rfl) (fun _ _ _ h => h) (Or.inl ⟨by rfl, ?_⟩) (by assumption) ?_
          rotate_left 1
          · intro w _; go_simp; try with_reducible rfl
          try simp only [Act.put, List.getElem_toArray, List.getElem_cons_zero, List.getElem_cons_succ, List.setIfInBounds_toArray, List.set_cons_zero, List.set_cons_succ]
          refine wpAnyH_take (i := 7) (v := ?_) rfl (by kernel_rfl) (by kernel_rfl) (by kernel_rfl) (fun _ _ _ h => h) (Or.inl ⟨by rfl, ?_⟩) (by assumption) ?_
          rotate_left 1
          · intro w _; go_simp; try with_reducible rfl
          try simp only [Act.put, List.getElem_toArray, List.getElem_cons_zero, List.getElem_cons_succ, List.setIfInBounds_toArray, List.set_cons_zero, List.set_cons_succ]
          refine wpAnyH_take (i := 8) (v := ?_) rfl (by kernel_rfl) (by kernel_rfl) (by kernel_rfl) (fun _ _ _ h => h) (Or.inl ⟨by rfl, ?_⟩) (by assumption) ?_
          rotate_left 1
          · intro w _; go_simp; try with_reducible rfl
          try simp only [Act.put, List.getElem_toArray, List.getElem_cons_zero, List.getElem_cons_succ, List.setIfInBounds_toArray, List.set_cons_zero, List.set_cons_succ]
          refine wpAnyH_take (i := 10) (v := ?_) rfl (by kernel_rfl) (by kernel_rfl) (by kernel_rfl) (fun _ _ _ h => h) (Or.inl ⟨by rfl, ?_⟩) (by assumption) ?_
          rotate_left 1
          · intro w _; go_simp; try with_reducible rfl
          try simp only [Act.put, List.getElem_toArray, List.getElem_cons_zero, List.getElem_cons_succ, List.setIfInBounds_toArray, List.set_cons_zero, List.set_cons_succ]
          refine wpAnyH_take (i := 11) (v := ?_) rfl (by kernel_rfl) (by kernel_rfl) (by kernel_rfl) (fun _ _ _ h => h) (Or.inl ⟨by rfl, ?_⟩) (by assumption) ?_
          rotate_left 1
          · intro w _; go_simp; try with_reducible rfl
          try simp only [Act.put, List.getElem_toArray, List.getElem_cons_zero, List.getElem_cons_succ, List.setIfInBounds_toArray, List.set_cons_zero, List.set_cons_succ]
          refine wpAnyH_take (i := 12) (v := ?_) rfl (by kernel_rfl) (by kernel_rfl) (by kernel_rfl) (fun _ _ _ h => h) (Or.inl ⟨by rfl, ?_⟩) (by assumption) ?_
          rotate_left 1
          · intro w _; go_simp; try with_reducible rfl
          try simp only [Act.put, List.getElem_toArray, List.getElem_cons_zero, List.getElem_cons_succ, List.setIfInBounds_toArray, List.set_cons_zero, List.set_cons_succ]
          refine wpAnyH_take (i := 13) (v := ?_) rfl (by kernel_rfl) (by kernel_rfl) (by kernel_rfl) (fun _ _ _ h => h) (Or.inl ⟨by rfl, ?_⟩) (by assumption) ?_
          rotate_left 1
          · intro w hSw; (try dsimp only at hSw); obtain ⟨s1, s2, s3⟩ := Rv.atx (S2.out.call hSw.out).2.2.1 HLj.out; clear hSw; go_simp; try with_reducible rfl
          try simp only [Act.put, List.getElem_toArray, List.getElem_cons_zero, List.getElem_cons_succ, List.setIfInBounds_toArray, List.set_cons_zero, List.set_cons_succ]
          refine wpAnyH_ready (rs := [9, 14]) (by kernel_rfl) (by simp) ?_
          refine AllReadyH.cons rfl (fun K hK => ?_) ?_
          · skip
            go_simp
            refine (r3copy_any A3 c3 P.length P _ (S2.out.call hHeld.out).2.1 rfl (by omega)).mono ?_
            rintro e wb ⟨Ab, cb, rfl, hob, hb⟩
            have O1 := Lib.hid hob
            clear hob
            go_wp2_with fail
            refine hK.out _ _ (Lib.hid (below_on hHeld.out hb)) (fun hHeld => ?_)
            clear hK K
            try simp only [Act.put, List.getElem_toArray, List.getElem_cons_zero, List.getElem_cons_succ, List.setIfInBounds_toArray, List.set_cons_zero, List.set_cons_succ]
            refine wpAnyH_ready (rs := [14]) (by kernel_rfl) (by simp) ?_
            refine AllReadyH.cons rfl (fun K hK => ?_) AllReadyH.nil
            go_simp
            have R2 := Lib.hid (rv_new wb (k, a, b) HX.out)
            have O2 := Lib.hid (own_below (own_base O1.out (show w2.heap.size ≤ _ from Nat.le_refl _)) (new1 (a := .cells #[.int .u8 k, .int .i64 a, .int .i64 b] 24)) (Nat.le_refl _))
            refine hK.out _ _ (Lib.hid (below_on hHeld.out new1)) (fun hHeld => ?_)
            clear hK K
            try simp only [Act.put, List.getElem_toArray, List.getElem_cons_zero, List.getElem_cons_succ, List.setIfInBounds_toArray, List.set_cons_zero, List.set_cons_succ]
            refine wpAnyH_ready (rs := [15]) (by kernel_rfl) (by simp) ?_
            refine AllReadyH.cons rfl (fun K hK => ?_) AllReadyH.nil
            refine step_append_rvg (by rfl) (.tmp 48) (.tmp 53) rfl w2.heap.size _ P.length P rfl O2.out _ 1 1 [(k, a, b)] rfl R2.out rfl (by omega) hHeld.out.size ?_
            intro A9 c9 w9 ho9 hg9 hb9
            have R9 := Lib.hid (Rv.of_own ho9 (by intro u hu; rcases List.mem_append.1 hu with hu | hu; exact HOP.out u hu; rw [List.mem_singleton.1 hu]; exact HX.out)).1
            clear ho9 hg9
            refine hK.out _ _ (Lib.hid (hHeld.out.trans hb9)) (fun hHeld => ?_)
            clear hK K
            try simp only [Act.put, List.getElem_toArray, List.getElem_cons_zero, List.getElem_cons_succ, List.setIfInBounds_toArray, List.set_cons_zero, List.set_cons_succ]
            refine wpAnyH_ready (rs := [16]) (by kernel_rfl) (by simp) ?_
            refine AllReadyH.cons rfl (fun K hK => ?_) AllReadyH.nil
            go_simp
            refine (KM A9 c9 (P.length + 1) (P ++ [(k, a, b)]) _ (S2.out.call hHeld.out).2.2.2.1 R9.out (by simp) (by omega)).mono ?_
            rintro e w10 ⟨rfl, hb10⟩
            rw [HV.out]
            go_wp2_with fail
            refine hK.out _ _ (Lib.hid (below_on hHeld.out hb10)) (fun hHeld => ?_)
            clear hK K
            try simp only [Act.put, List.getElem_toArray, List.getElem_cons_zero, List.getElem_cons_succ, List.setIfInBounds_toArray, List.set_cons_zero, List.set_cons_succ]
            refine wpAnyH_take (i := 17) (v := ?_) rfl (by kernel_rfl) (by kernel_rfl) (by kernel_rfl) (fun _ _ _ h => h) (Or.inl ⟨by rfl, ?_⟩) (by assumption) ?_
            rotate_left 1
            · intro w _; go_simp; try with_reducible rfl
            try simp only [Act.put, List.getElem_toArray, List.getElem_cons_zero, List.getElem_cons_succ, List.setIfInBounds_toArray, List.set_cons_zero, List.set_cons_succ]
            refine wpAnyH_done (by kernel_rfl) ?_ _
            go_wp2_with fail
            go_roundw
            case rel => exact ⟨j + 1, P, A3, c3, by omega, by go_num, rfl, HON, Lib.hid (S2.out.call hHeld.out)⟩
            case measure => simp [intOf]; omega
          refine AllReadyH.cons rfl (fun K hK => ?_) AllReadyH.nil
          go_simp
          have R1 := Lib.hid (rv_new w2.drew (k, a, b) HX.out)
          refine hK.out _ _ (Lib.hid (below_on hHeld.out new1)) (fun hHeld => ?_)
          clear hK K
          try simp only [Act.put, List.getElem_toArray, List.getElem_cons_zero, List.getElem_cons_succ, List.setIfInBounds_toArray, List.set_cons_zero, List.set_cons_succ]
          refine wpAnyH_ready (rs := [9]) (by kernel_rfl) (by simp) ?_
          refine AllReadyH.cons rfl (fun K hK => ?_) AllReadyH.nil
          go_simp
          refine (r3copy_any A3 c3 P.length P _ (S2.out.call hHeld.out).2.1 rfl (by omega)).mono ?_
          rintro e wb ⟨Ab, cb, rfl, hob, hb⟩
          have O1 := Lib.hid hob
          clear hob
          have R2 := Lib.hid (R1.out.keep hb)
          have O2 := Lib.hid (own_base O1.out hHeld.out.size)
          go_wp2_with fail
          refine hK.out _ _ (Lib.hid (below_on hHeld.out hb)) (fun hHeld => ?_)
          clear hK K
          try simp only [Act.put, List.getElem_toArray, List.getElem_cons_zero, List.getElem_cons_succ, List.setIfInBounds_toArray, List.set_cons_zero, List.set_cons_succ]
          refine wpAnyH_ready (rs := [15]) (by kernel_rfl) (by simp) ?_
          refine AllReadyH.cons rfl (fun K hK => ?_) AllReadyH.nil
          refine step_append_rvg (by rfl) (.tmp 48) (.tmp 53) rfl w2.heap.size _ P.length P rfl O2.out _ 1 1 [(k, a, b)] rfl R2.out rfl (by omega) hHeld.out.size ?_
          intro A9 c9 w9 ho9 hg9 hb9
          have R9 := Lib.hid (Rv.of_own ho9 (by intro u hu; rcases List.mem_append.1 hu with hu | hu; exact HOP.out u hu; rw [List.mem_singleton.1 hu]; exact HX.out)).1
          clear ho9 hg9
          refine hK.out _ _ (Lib.hid (hHeld.out.trans hb9)) (fun hHeld => ?_)
          clear hK K
          try simp only [Act.put, List.getElem_toArray, List.getElem_cons_zero, List.getElem_cons_succ, List.setIfInBounds_toArray, List.set_cons_zero, List.set_cons_succ]
          refine wpAnyH_ready (rs := [16]) (by kernel_rfl) (by simp) ?_
          refine AllReadyH.cons rfl (fun K hK => ?_) AllReadyH.nil
          go_simp
          refine (KM A9 c9 (P.length + 1) (P ++ [(k, a, b)]) _ (S2.out.call hHeld.out).2.2.2.1 R9.out (by simp) (by omega)).mono ?_
          rintro e w10 ⟨rfl, hb10⟩
          rw [HV.out]
          go_wp2_with fail
          refine hK.out _ _ (Lib.hid (below_on hHeld.out hb10)) (fun hHeld => ?_)
          clear hK K
          try simp only [Act.put, List.getElem_toArray, List.getElem_cons_zero, List.getElem_cons_succ, List.setIfInBounds_toArray, List.set_cons_zero, List.set_cons_succ]
          refine wpAnyH_take (i := 17) (v := ?_) rfl (by kernel_rfl) (by kernel_rfl) (by kernel_rfl) (fun _ _ _ h => h) (Or.inl ⟨by rfl, ?_⟩) (by assumption) ?_
          rotate_left 1
          · intro w _; go_simp; try with_reducible rfl
          try simp only [Act.put, List.getElem_toArray, List.getElem_cons_zero, List.getElem_cons_succ, List.setIfInBounds_toArray, List.set_cons_zero, List.set_cons_succ]
          refine wpAnyH_done (by kernel_rfl) ?_ _
          go_wp2_with fail
          go_roundw
          case rel => exact ⟨j + 1, P, A3, c3, by omega, by go_num, rfl, HON, Lib.hid (S2.out.call hHeld.out)⟩
          case measure => simp [intOf]; omega
        · have hex : ∃ (M : List Vlu) (q : Nat) (was : Int), adP P (k, a, b) = (M, (q : Int), 0) ∧ fdI P (k, a, b) = was ∧ poM M = true ∧ M[q]? = some (k, a, b) ∧ fdI M (k, a, b) = q ∧ q < M.length ∧ ((was = q ∧ M.length = P.length) ∨ (was = -1 ∧ (q = P.length ∧ M.length = P.length + 1))) ∧ decide (M.take P.length = P) = true ∧ onP M ∧ ∀ x ∈ M, VlOk x := by
            by_cases hf : fdK P (k, a, b) < P.length
            · refine ⟨P, fdK P (k, a, b), fdK P (k, a, b), ?_, ?_, HON.out.1, fdK_hit hf, ?_, hf, .inl ⟨rfl, rfl⟩, by simp, HON.out, HOP.out⟩
              · rw [adP, if_pos HON.out.1, if_pos hf]
              · rw [fdI, if_pos hf]
              · rw [fdI, if_pos hf]
            · have hv : poM (P ++ [(k, a, b)]) = true := by
                cases hv : poM (P ++ [(k, a, b)]) with
                | true => rfl
                | false => exact absurd ⟨hf, hv⟩ h3
              refine ⟨P ++ [(k, a, b)], P.length, -1, ?_, ?_, hv, by simp, ?_, by simp, .inr ⟨rfl, rfl, by simp⟩, by simp, onP_app HON.out hf hv, ?_⟩
              · rw [adP, if_pos HON.out.1, if_neg hf, if_pos hv]
              · rw [fdI, if_neg hf]
              · rw [fdI, fdK_app_miss hf, if_pos (by simp)]
              · intro u hu
                rcases List.mem_append.1 hu with hu | hu
                · exact HOP.out u hu
                · rw [List.mem_singleton.1 hu]; exact HX.out
          obtain ⟨M, q, was, hR, hI, hMv, hMq, hFq, hq, hW, hTk, hONM, hOKM⟩ := hex
          rw [hR] at ho6 ⊢
          rw [hI]
          have HMv := Lib.hid hMv
          have HMq := Lib.hid hMq
          have HFq := Lib.hid hFq
          have HW := Lib.hid hW
          have HTk := Lib.hid hTk
          have HONM := Lib.hid hONM
          have hM2 := poM_le hMv
          have h6 := (Rv.of_own ho6 hOKM).1
          obtain ⟨ad6, rfl⟩ := h6.some_ hq
          have S3 := Lib.hid (S2.out.add (fW (some ad6) c6 M) h6)
          have hMc := h6.len
          have hq0 : (0 : Int) ≤ q := by omega
          have hq1 : ¬ M.length ≤ q := by omega
          have hq2 : ¬ (M.length : Int) ≤ (q : Int) := by omega
          have hq3 : ¬ (q : Int) < 0 := by omega
          have qeq := eq_val 9998 k a b k a b true (by simp)
          clear hR hI hMv hMq hFq hW hTk hONM hOKM h3 ho6 h6 S2 HON
          go_upto_region 14 with (fail)
          refine wp_region_held_drew (S := fun w' => Hid (Sx w w' [fW (some ad6) c6 M, fW A3 c3 P, fW (some ad) c L, F])) (by kernel_rfl) (Hsx.drew S3) (fun hHeld => ?_)
          refine wpAnyH_take (i := 0) (v := ?_) rfl (by kernel_rfl) (by kernel_rfl) (by kernel_rfl) (fun _ _ _ h => h) (Or.inl ⟨by rfl, ?_⟩) (by assumption) ?_
          rotate_left 1
          · intro w _; go_simp; try with_reducible rfl
          try simp only [Act.put, List.getElem_toArray, List.getElem_cons_zero, List.getElem_cons_succ, List.setIfInBounds_toArray, List.set_cons_zero, List.set_cons_succ]
          refine wpAnyH_ready (rs := [1]) (by kernel_rfl) (by simp) ?_
          refine AllReadyH.cons rfl (fun K hK => ?_) AllReadyH.nil
          go_simp
          refine (KM (some ad6) c6 M.length M _ hHeld.out.2.2.2.2.1 hHeld.out.2.1 rfl (by omega)).mono ?_
          rintro e wb ⟨rfl, hb⟩
          rw [HMv.out]
          go_wp2_with fail
          refine hK.out _ _ (Lib.hid (hHeld.out.call hb)) (fun hHeld => ?_)
          clear hK K
          try simp only [Act.put, List.getElem_toArray, List.getElem_cons_zero, List.getElem_cons_succ, List.setIfInBounds_toArray, List.set_cons_zero, List.set_cons_succ]
          refine wpAnyH_take (i := 2) (v := ?_) rfl (by kernel_rfl) (by kernel_rfl) (by kernel_rfl) (fun _ _ _ h => h) (Or.inl ⟨by rfl, ?_⟩) (by assumption) ?_
          rotate_left 1
          · intro w _; go_simp; try with_reducible rfl
          try simp only [Act.put, List.getElem_toArray, List.getElem_cons_zero, List.getElem_cons_succ, List.setIfInBounds_toArray, List.set_cons_zero, List.set_cons_succ]
          refine wpAnyH_take (i := 3) (v := ?_) rfl (by kernel_rfl) (by kernel_rfl) (by kernel_rfl) (fun _ _ _ h => h) (Or.inl ⟨by rfl, ?_⟩) (by assumption) ?_
          rotate_left 1
          · intro w _; go_simp; try with_reducible rfl
          try simp only [Act.put, List.getElem_toArray, List.getElem_cons_zero, List.getElem_cons_succ, List.setIfInBounds_toArray, List.set_cons_zero, List.set_cons_succ]
          refine wpAnyH_take (i := 4) (v := ?_) rfl (by kernel_rfl) (by kernel_rfl) (by kernel_rfl) (fun _ _ _ h => h) (Or.inl ⟨by rfl, ?_⟩) (by assumption) ?_
          rotate_left 1
          · intro w _; go_simp; try with_reducible rfl
          try simp only [Act.put, List.getElem_toArray, List.getElem_cons_zero, List.getElem_cons_succ, List.setIfInBounds_toArray, List.set_cons_zero, List.set_cons_succ]
          refine wpAnyH_take (i := 5) (v := ?_) rfl (by kernel_rfl) (by kernel_rfl) (by kernel_rfl) (fun _ _ _ h => h) (Or.inl ⟨by rfl, ?_⟩) (by assumption) ?_
          rotate_left 1
          · intro w _; go_simp; try with_reducible rfl
          try simp only [Act.put, List.getElem_toArray, List.getElem_cons_zero, List.getElem_cons_succ, List.setIfInBounds_toArray, List.set_cons_zero, List.set_cons_succ]
          refine wpAnyH_take (i := 6) (v := ?_) rfl (by kernel_rfl) (by kernel_rfl) (by kernel_rfl) (fun _ _ _ h => h) (Or.inl ⟨by rfl, ?_⟩) (by assumption) ?_
          rotate_left 1
          · intro w _; go_simp; try with_reducible rfl
          try simp only [Act.put, List.getElem_toArray, List.getElem_cons_zero, List.getElem_cons_succ, List.setIfInBounds_toArray, List.set_cons_zero, List.set_cons_succ]
          refine wpAnyH_take (i := 7) (v := ?_) rfl (by kernel_rfl) (by kernel_rfl) (by kernel_rfl) (fun _ _ _ h => h) (Or.inl ⟨by rfl, ?_⟩) (by assumption) ?_
          rotate_left 1
          · intro w _; go_simp; try with_reducible rfl
          try simp only [Act.put, List.getElem_toArray, List.getElem_cons_zero, List.getElem_cons_succ, List.setIfInBounds_toArray, List.set_cons_zero, List.set_cons_succ]
          refine wpAnyH_take (i := 8) (v := ?_) rfl (by kernel_rfl) (by kernel_rfl) (by kernel_rfl) (fun _ _ _ h => h) (Or.inl ⟨by rfl, ?_⟩) (by assumption) ?_
          rotate_left 1
          · intro w _; go_simp; try with_reducible rfl
          try simp only [Act.put, List.getElem_toArray, List.getElem_cons_zero, List.getElem_cons_succ, List.setIfInBounds_toArray, List.set_cons_zero, List.set_cons_succ]
          refine wpAnyH_take (i := 9) (v := ?_) rfl (by kernel_rfl) (by kernel_rfl) (by kernel_rfl) (fun _ _ _ h => h) (Or.inl ⟨by rfl, ?_⟩) (by assumption) ?_
          rotate_left 1
          · intro w _; go_simp; try with_reducible rfl
          try simp only [Act.put, List.getElem_toArray, List.getElem_cons_zero, List.getElem_cons_succ, List.setIfInBounds_toArray, List.set_cons_zero, List.set_cons_succ]
          refine wpAnyH_take (i := 10) (v := ?_) rfl (by kernel_rfl) (by kernel_rfl) (by kernel_rfl) (fun _ _ _ h => h) (Or.inl ⟨by rfl, ?_⟩) (by assumption) ?_
          rotate_left 1
          · intro w _; go_simp; try with_reducible rfl
          try simp only [Act.put, List.getElem_toArray, List.getElem_cons_zero, List.getElem_cons_succ, List.setIfInBounds_toArray, List.set_cons_zero, List.set_cons_succ]
          refine wpAnyH_take (i := 11) (v := ?_) rfl (by kernel_rfl) (by kernel_rfl) (by kernel_rfl) (fun _ _ _ h => h) (Or.inl ⟨by rfl, ?_⟩) (by assumption) ?_
          rotate_left 1
          · intro w _; go_simp; try with_reducible rfl
          try simp only [Act.put, List.getElem_toArray, List.getElem_cons_zero, List.getElem_cons_succ, List.setIfInBounds_toArray, List.set_cons_zero, List.set_cons_succ]
          refine wpAnyH_take (i := 12) (v := ?_) rfl (by kernel_rfl) (by kernel_rfl) (by kernel_rfl) (fun _ _ _ h => h) (Or.inl ⟨by rfl, ?_⟩) (by assumption) ?_
          rotate_left 1
          · intro w _; go_simp; try with_reducible rfl
          try simp only [Act.put, List.getElem_toArray, List.getElem_cons_zero, List.getElem_cons_succ, List.setIfInBounds_toArray, List.set_cons_zero, List.set_cons_succ]
          refine wpAnyH_take (i := 13) (v := ?_) rfl (by kernel_rfl) (by kernel_rfl) (by kernel_rfl) (fun _ _ _ h => h) (Or.inl ⟨by rfl, ?_⟩) (by assumption) ?_
          rotate_left 1
          · intro w _; go_simp; try with_reducible rfl
          try simp only [Act.put, List.getElem_toArray, List.getElem_cons_zero, List.getElem_cons_succ, List.setIfInBounds_toArray, List.set_cons_zero, List.set_cons_succ]
          refine wpAnyH_take (i := 14) (v := ?_) rfl (by kernel_rfl) (by kernel_rfl) (by kernel_rfl) (fun _ _ _ h => h) (Or.inl ⟨by rfl, ?_⟩) (by assumption) ?_
          rotate_left 1
          · intro w _; go_simp; try with_reducible rfl
          try simp only [Act.put, List.getElem_toArray, List.getElem_cons_zero, List.getElem_cons_succ, List.setIfInBounds_toArray, List.set_cons_zero, List.set_cons_succ]
          refine wpAnyH_take (i := 15) (v := ?_) rfl (by kernel_rfl) (by kernel_rfl) (by kernel_rfl) (fun _ _ _ h => h) (Or.inl ⟨by rfl, ?_⟩) (by assumption) ?_
          rotate_left 1
          · intro w _; go_simp; try with_reducible rfl
          try simp only [Act.put, List.getElem_toArray, List.getElem_cons_zero, List.getElem_cons_succ, List.setIfInBounds_toArray, List.set_cons_zero, List.set_cons_succ]
          refine wpAnyH_take (i := 16) (v := ?_) rfl (by kernel_rfl) (by kernel_rfl) (by kernel_rfl) (fun _ _ _ h => h) (Or.inl ⟨by rfl, ?_⟩) (by assumption) ?_
          rotate_left 1
          · intro w _; go_simp; try with_reducible rfl
          try simp only [Act.put, List.getElem_toArray, List.getElem_cons_zero, List.getElem_cons_succ, List.setIfInBounds_toArray, List.set_cons_zero, List.set_cons_succ]
          refine wpAnyH_take (i := 17) (v := ?_) rfl (by kernel_rfl) (by kernel_rfl) (by kernel_rfl) (fun _ _ _ h => h) (Or.inl ⟨by rfl, ?_⟩) (by assumption) ?_
          rotate_left 1
          · intro w hSw; (try dsimp only at hSw); obtain ⟨s1, s2, s3⟩ := Rv.atx hSw.out.2.1 HMq.out; clear hSw; go_simp; try with_reducible rfl
          try simp only [Act.put, List.getElem_toArray, List.getElem_cons_zero, List.getElem_cons_succ, List.setIfInBounds_toArray, List.set_cons_zero, List.set_cons_succ]
          refine wpAnyH_take (i := 18) (v := ?_) rfl (by kernel_rfl) (by kernel_rfl) (by kernel_rfl) (fun _ _ _ h => h) (Or.inl ⟨by rfl, ?_⟩) (by assumption) ?_
          rotate_left 1
          · intro w _; go_simp; try with_reducible rfl
          try simp only [Act.put, List.getElem_toArray, List.getElem_cons_zero, List.getElem_cons_succ, List.setIfInBounds_toArray, List.set_cons_zero, List.set_cons_succ]
          refine wpAnyH_take (i := 19) (v := ?_) rfl (by kernel_rfl) (by kernel_rfl) (by kernel_rfl) (fun _ _ _ h => h) (Or.inl ⟨by rfl, ?_⟩) (by assumption) ?_
          rotate_left 1
          · intro w _; go_simp; try with_reducible rfl
          try simp only [Act.put, List.getElem_toArray, List.getElem_cons_zero, List.getElem_cons_succ, List.setIfInBounds_toArray, List.set_cons_zero, List.set_cons_succ]
          refine wpAnyH_take (i := 20) (v := ?_) rfl (by kernel_rfl) (by kernel_rfl) (by kernel_rfl) (fun _ _ _ h => h) (Or.inl ⟨by rfl, ?_⟩) (by assumption) ?_
          rotate_left 1
          · intro w _; go_simp; try with_reducible rfl
          try simp only [Act.put, List.getElem_toArray, List.getElem_cons_zero, List.getElem_cons_succ, List.setIfInBounds_toArray, List.set_cons_zero, List.set_cons_succ]
          refine wpAnyH_take (i := 21) (v := ?_) rfl (by kernel_rfl) (by kernel_rfl) (by kernel_rfl) (fun _ _ _ h => h) (Or.inl ⟨by rfl, ?_⟩) (by assumption) ?_
          rotate_left 1
          · intro w hSw; (try dsimp only at hSw); obtain ⟨s1, s2, s3⟩ := Rv.atx hSw.out.2.2.2.1 HLj.out; clear hSw; go_simp; try with_reducible rfl
          try simp only [Act.put, List.getElem_toArray, List.getElem_cons_zero, List.getElem_cons_succ, List.setIfInBounds_toArray, List.set_cons_zero, List.set_cons_succ]
          refine wpAnyH_take (i := 22) (v := ?_) rfl (by kernel_rfl) (by kernel_rfl) (by kernel_rfl) (fun _ _ _ h => h) (Or.inl ⟨by rfl, ?_⟩) (by assumption) ?_
          rotate_left 1
          · intro w _; go_simp; try with_reducible rfl
          try simp only [Act.put, List.getElem_toArray, List.getElem_cons_zero, List.getElem_cons_succ, List.setIfInBounds_toArray, List.set_cons_zero, List.set_cons_succ]
          refine wpAnyH_take (i := 23) (v := ?_) rfl (by kernel_rfl) (by kernel_rfl) (by kernel_rfl) (fun _ _ _ h => h) (Or.inl ⟨by rfl, ?_⟩) (by assumption) ?_
          rotate_left 1
          · intro w _; go_simp; try with_reducible rfl
          try simp only [Act.put, List.getElem_toArray, List.getElem_cons_zero, List.getElem_cons_succ, List.setIfInBounds_toArray, List.set_cons_zero, List.set_cons_succ]
          refine wpAnyH_take (i := 24) (v := ?_) rfl (by kernel_rfl) (by kernel_rfl) (by kernel_rfl) (fun _ _ _ h => h) (Or.inl ⟨by rfl, ?_⟩) (by assumption) ?_
          rotate_left 1
          · intro w _; go_simp; try with_reducible rfl
          try simp only [Act.put, List.getElem_toArray, List.getElem_cons_zero, List.getElem_cons_succ, List.setIfInBounds_toArray, List.set_cons_zero, List.set_cons_succ]
          refine wpAnyH_take (i := 25) (v := ?_) rfl (by kernel_rfl) (by kernel_rfl) (by kernel_rfl) (fun _ _ _ h => h) (Or.inl ⟨by rfl, ?_⟩) (by assumption) ?_
          rotate_left 1
          · intro w _; go_simp; try with_reducible rfl
          try simp only [Act.put, List.getElem_toArray, List.getElem_cons_zero, List.getElem_cons_succ, List.setIfInBounds_toArray, List.set_cons_zero, List.set_cons_succ]
          refine wpAnyH_take (i := 26) (v := ?_) rfl (by kernel_rfl) (by kernel_rfl) (by kernel_rfl) (fun _ _ _ h => h) (Or.inl ⟨by rfl, ?_⟩) (by assumption) ?_
          rotate_left 1
          · intro w _; go_simp; try with_reducible rfl
          try simp only [Act.put, List.getElem_toArray, List.getElem_cons_zero, List.getElem_cons_succ, List.setIfInBounds_toArray, List.set_cons_zero, List.set_cons_succ]
          refine wpAnyH_take (i := 27) (v := ?_) rfl (by kernel_rfl) (by kernel_rfl) (by kernel_rfl) (fun _ _ _ h => h) (Or.inl ⟨by rfl, ?_⟩) (by assumption) ?_
          rotate_left 1
          · intro w _; go_simp; try with_reducible rfl
          try simp only [Act.put, List.getElem_toArray, List.getElem_cons_zero, List.getElem_cons_succ, List.setIfInBounds_toArray, List.set_cons_zero, List.set_cons_succ]
          refine wpAnyH_take (i := 28) (v := ?_) rfl (by kernel_rfl) (by kernel_rfl) (by kernel_rfl) (fun _ _ _ h => h) (Or.inl ⟨by rfl, ?_⟩) (by assumption) ?_
          rotate_left 1
          · intro w _; go_simp; try with_reducible rfl
          try simp only [Act.put, List.getElem_toArray, List.getElem_cons_zero, List.getElem_cons_succ, List.setIfInBounds_toArray, List.set_cons_zero, List.set_cons_succ]
          refine wpAnyH_take (i := 29) (v := ?_) rfl (by kernel_rfl) (by kernel_rfl) (by kernel_rfl) (fun _ _ _ h => h) (Or.inl ⟨by rfl, ?_⟩) (by assumption) ?_
          rotate_left 1
          · intro w hSw; (try dsimp only at hSw); obtain ⟨s1, s2, s3⟩ := Rv.atx hSw.out.2.2.2.1 HLj.out; clear hSw; go_simp; try with_reducible rfl
          try simp only [Act.put, List.getElem_toArray, List.getElem_cons_zero, List.getElem_cons_succ, List.setIfInBounds_toArray, List.set_cons_zero, List.set_cons_succ]
          refine wpAnyH_take (i := 31) (v := ?_) rfl (by kernel_rfl) (by kernel_rfl) (by kernel_rfl) (fun _ _ _ h => h) (Or.inl ⟨by rfl, ?_⟩) (by assumption) ?_
          rotate_left 1
          · intro w _; go_simp; try with_reducible rfl
          try simp only [Act.put, List.getElem_toArray, List.getElem_cons_zero, List.getElem_cons_succ, List.setIfInBounds_toArray, List.set_cons_zero, List.set_cons_succ]
          refine wpAnyH_ready (rs := [30]) (by kernel_rfl) (by simp) ?_
          refine AllReadyH.cons rfl (fun K hK => ?_) AllReadyH.nil
          go_simp
          refine (KF (some ad6) c6 M.length M k a b _ hHeld.out.2.2.2.2.1 hHeld.out.2.1 rfl (by omega) HX.out).mono ?_
          rintro e wc ⟨rfl, hb⟩
          rw [HFq.out]
          go_wp2_with fail
          refine hK.out _ _ (Lib.hid (hHeld.out.call hb)) (fun hHeld => ?_)
          clear hK K
          try simp only [Act.put, List.getElem_toArray, List.getElem_cons_zero, List.getElem_cons_succ, List.setIfInBounds_toArray, List.set_cons_zero, List.set_cons_succ]
          refine wpAnyH_take (i := 32) (v := ?_) rfl (by kernel_rfl) (by kernel_rfl) (by kernel_rfl) (fun _ _ _ h => h) (Or.inl ⟨by rfl, ?_⟩) (by assumption) ?_
          rotate_left 1
          · intro w _; go_simp; try with_reducible rfl
          try simp only [Act.put, List.getElem_toArray, List.getElem_cons_zero, List.getElem_cons_succ, List.setIfInBounds_toArray, List.set_cons_zero, List.set_cons_succ]
          refine wpAnyH_take (i := 33) (v := ?_) rfl (by kernel_rfl) (by kernel_rfl) (by kernel_rfl) (fun _ _ _ h => h) (Or.inl ⟨by rfl, ?_⟩) (by assumption) ?_
          rotate_left 1
          · intro w _; go_simp; try with_reducible rfl
          try simp only [Act.put, List.getElem_toArray, List.getElem_cons_zero, List.getElem_cons_succ, List.setIfInBounds_toArray, List.set_cons_zero, List.set_cons_succ]
          refine wpAnyH_done (by kernel_rfl) ?_ _
          have S4 := hHeld
          clear hHeld
          have hPc := S4.out.2.1.le
          rcases HW.out with ⟨rfl, hML⟩ | ⟨rfl, hq4, hML⟩
          · go_wp2_with fail
            refine (r3same_any (some ad6) A3 c6 c3 P.length P.length (M.take P.length) P _ (Rv.take S4.out.2.1 _) S4.out.2.2.1 (by rw [List.length_take]; omega) rfl).mono ?_
            rintro e w5 ⟨rfl, hb5⟩
            rw [HTk.out]
            have S5 := Lib.hid (S4.out.call hb5)
            clear S4 hb5
            go_wp2_with fail
            go_roundw
            case rel => exact ⟨j + 1, M, some ad6, c6, by omega, by go_num, by rw [hML], HONM, Lib.hid ⟨S5.out.1, S5.out.2.1, S5.out.2.2.2⟩⟩
            case measure => simp [intOf]; omega
          · go_wp2_with fail
            refine (r3same_any (some ad6) A3 c6 c3 P.length P.length (M.take P.length) P _ (Rv.take S4.out.2.1 _) S4.out.2.2.1 (by rw [List.length_take]; omega) rfl).mono ?_
            rintro e w5 ⟨rfl, hb5⟩
            rw [HTk.out]
            have S5 := Lib.hid (S4.out.call hb5)
            clear S4 hb5
            go_wp2_with fail
            go_roundw
            case rel => exact ⟨j + 1, M, some ad6, c6, by omega, by go_num, by rw [hML], HONM, Lib.hid ⟨S5.out.1, S5.out.2.1, S5.out.2.2.2⟩⟩
            case measure => simp [intOf]; omega
      · obtain rfl : j = L.length := by omega
        go_wp2_with fail
        go_loopw [9] (fun i wr => ∃ j : Nat, j ≤ P.length ∧ i = .int .i64 j ∧ Hid (Sx w wr [fW A3 c3 P, fW A c L, F])) (fun i _ => P.length - (intOf i).toNat)
        case atStart => exact ⟨0, by omega, rfl, S2⟩
        case round =>
          obtain ⟨j, hj, rfl, S3⟩ := hrel
          clear S2
          by_cases h1 : j < P.length
          · obtain ⟨⟨k, a, b⟩, hx⟩ : ∃ x, P[j]? = some x := ⟨_, List.getElem?_eq_getElem h1⟩
            have HX := Lib.hid (S3.out.2.1.1 _ (List.mem_of_getElem? hx))
            obtain ⟨ad, rfl⟩ := S3.out.2.1.some_ h1
            obtain ⟨s1, s2, s3⟩ := Rv.atx S3.out.2.1 hx
            have HFj : Hid (fdI P (k, a, b) = (j : Int)) := by
              have e := HON.out.2 j h1
              rw [List.getElem?_eq_getElem h1] at hx
              injection hx with hx
              rw [hx] at e
              rw [Hid, fdI, e, if_pos h1]
            clear hx
            go_wp2_with fail
            refine (KF _ c3 P.length P k a b _ S3.out.2.2.2.1 S3.out.2.1 rfl (by omega) HX.out).mono ?_
            rintro e w3 ⟨rfl, hb3⟩
            rw [HFj.out]
            have S4 := Lib.hid (S3.out.call hb3)
            clear S3 hb3 s1 s2 s3
            go_wp2_with fail
            go_roundw
            case rel => exact ⟨j + 1, by omega, by go_num, S4⟩
            case measure => simp [intOf]; omega
          · go_wp2_with fail
            go_ret
            exact ⟨rfl, S3.out.1⟩
  · go_wp2_with fail
    go_ret
    exact ⟨rfl, S1.out.1⟩
end Go.Proofs.YtohbndjfnakelaaDoor
