/-
  The walk of CodeCut over its contracts; nothing that was there has changed.
-/
import Derived.Test.YthmfjdafmnmgiaaDoorCback
namespace Go.Proofs.YthmfjdafmnmgiaaDoor
open Go.RowKit
set_option maxRecDepth 100000
set_option linter.unusedSimpArgs false
set_option linter.unusedVariables false

theorem Rd.cz {w : World} {ad : Addr} {c : Nat} {l : List Int} (h : Rd w (some ad) c l) (hi : 0 < l.length) : w.cell? ad = some (.int .u8 (l[0]?.getD 0)) := by
  obtain ⟨ad', e, h1⟩ := h.at_ hi
  injection e with e
  subst e
  simpa [Addr.add] using h1
theorem Rd.cn {w : World} {ad : Addr} {c : Nat} {l : List Int} (h : Rd w (some ad) c l) (i : Nat) (hi : i < l.length) : w.cell? (ad.add i) = some (.int .u8 (l[i]?.getD 0)) := by
  obtain ⟨ad', e, h1⟩ := h.at_ hi
  injection e with e
  subst e
  exact h1
/-- A part cut out from a place on. -/
theorem slice_run_l (A : Option Addr) (c : Nat) (l : List Int) (a : Nat) (h1 : a ≤ l.length) (hlc : l.length ≤ c) :
    ∃ A' c', (∀ wx : World, (Instr.slice 24 (.slice A l.length c) (some (.int .i64 (a : Int))) none none).run Tryd.prog wx = .ok (.slice A' (l.length - a) c') wx) ∧
      ∀ w : World, Rd w A c l → Rd w A' c' (l.drop a) := by
  refine ⟨if c = a then A else A.map (·.add a), c - a, fun wx => ?_, fun w hr => ?_⟩
  · have := run_slice_l (P := Tryd.prog) wx 24 A l.length c Tryd.underlying24 .i64 (a : Int) (by omega) (by omega)
    simp at this
    have hsz : (sizeOf (Tryd.prog.elem 24)).run Tryd.prog wx = .ok 1 wx := by kernel_rfl
    rw [this, hsz]
    simp [Result.andThen, sliced]
  · have := hr.sub a l.length h1 (Nat.le_refl _)
    rwa [List.take_of_length_le (by simp)] at this
theorem nameW {K : Act → World → Prop} {a : Act} {w : World} (h : ∀ W, W = w → K a W) : K a w := h w rfl
set_option maxRecDepth 100000 in
set_option maxHeartbeats 4000000 in
theorem ccut_f (F : Fct) (KM : KMay F) (KB : KBytes F) (KR : KRead F) (KT : KText F) (A : Option Addr) (c : Nat) (L : List Ins) (k a b : Int) (w : World) (hw : F.p w) (hr : Ri w A c L) (hl : L.length ≤ 199) (hv : codM L = true) (hx : InOk (k, a, b)) (hC : byL (L ++ [(k, a, b)]) = [] ∧ cdE (L ++ [(k, a, b)]) = 40 ∧ Byt ([] : List Int)) (hv2 : codM (L ++ [(k, a, b)]) = false) :
    Calls Tryd.prog 7 #[.slice A L.length c, .agg #[.int .u8 k, .int .i64 a, .int .i64 b]] w fun e w' => e = .returned (.bool true) ∧ Below w.heap.size w w' := by
  have cap0 := hr.len
  have HV := Lib.hid hv
  have HC := Lib.hid hC
  have HV2 := Lib.hid hv2
  have HX := Lib.hid hx
  have HOK := Lib.hid hr.1
  have HE : Hid (byL L = codB L ∧ cdE L = 0 ∧ Byt (codB L)) := Lib.hid ⟨by rw [byL, if_pos hv], by rw [cdE, if_pos hv], codB_byt hv hr.1⟩
  have HCU : Hid (rdC ((codB L).take ((codB L).length - 1)) 0 = (10, [], 0)) := by
    have := rdC_cut hv
    rw [List.dropLast_eq_take] at this
    exact this
  have hl1 := (codM_parts hv).1
  have hBl := codB_len L
  have HBD : Hid (codB L = (L.length : Int) :: L.flatMap opr) := rfl
  have S0 := Lib.hid ((((Sx.start w).add F hw).add (fT A c L) hr).mk1 (.cells #[.int .u8 k, .int .i64 a, .int .i64 b] 47))
  have S1 := Lib.hid (S0.out.add (fI w.heap.size k a b) (In.new w k a b))
  clear hv hx hw hr S0 hC hv2
  generalize codB L = B at *
  go_enter Tryd.func7, Tryd.ntmps7
  go_wp2_with fail
  refine (cawake_any F KB KT KR _ S1.out.2.2.2.1).mono ?_
  rintro e w2 ⟨rfl, hb2⟩
  have S2 := Lib.hid (S1.out.call hb2)
  clear S1 hb2
  go_wp2_with fail
  refine (KM _ _ _ L _ S2.out.2.2.2.1 S2.out.2.2.1 rfl).mono ?_
  rintro e w3 ⟨rfl, hb3⟩
  rw [HV.out]
  have S3 := Lib.hid (S2.out.call hb3)
  clear S2 hb3
  go_wp2_with fail
  refine (KB _ _ _ L _ S3.out.2.2.2.1 S3.out.2.2.1 rfl (by omega)).mono ?_
  rintro e w4 ⟨A3, c3, rfl, ho4, hb4⟩
  rw [HE.out.1] at ho4 ⊢
  rw [HE.out.2.1]
  have S4 := Lib.hid ((S3.out.call hb4).add (fR A3 c3 B) (own_rd ho4 HE.out.2.2))
  clear S3 ho4 hb4
  have cp3 := S4.out.2.1.le
  have cq3 := S4.out.2.1.cap
  go_wp2_with fail
  have e1 : (B.take (B.length - 1)).length = B.length - 1 := by simp
  refine (ctold_t F KR A3 (B.length - 1) c3 (B.take (B.length - 1)) 10 _ S4.out.2.2.2.2.1 (S4.out.2.1.pre _) e1 HCU.out).mono ?_
  rintro e w5 ⟨rfl, hb5⟩
  have S5 := Lib.hid (S4.out.call hb5)
  clear S4 hb5 e1
  obtain ⟨-, -, ⟨z0, z1, z2, z3, z4, z5, z6⟩, -⟩ := S5.out
  go_upto_region 8 with (fail)
  clear z0 z1 z2 z3 z4 z5 z6
  have S6 := S5
  clear S5
  generalize w5 = w6 at *
  refine wp_region_held_drew (S := fun w' => Hid (Sx w w' [fR A3 c3 B, fI w.heap.size k a b, fT A c L, F])) (by kernel_rfl) (Hsx.drew S6) (fun hHeld => ?_)
  refine wpAnyH_take (i := 1) (v := ?_) rfl (by kernel_rfl) (by kernel_rfl) (by kernel_rfl) (fun _ _ _ h => h) (Or.inl ⟨by rfl, ?_⟩) (by assumption) ?_
  rotate_left 1
  · intro w _; go_simp; try with_reducible rfl
  try simp only [Act.put, List.getElem_toArray, List.getElem_cons_zero, List.getElem_cons_succ, List.setIfInBounds_toArray, List.set_cons_zero, List.set_cons_succ]
  refine wpAnyH_take (i := 3) (v := ?_) rfl (by kernel_rfl) (by kernel_rfl) (by kernel_rfl) (fun _ _ _ h => h) (Or.inl ⟨by rfl, ?_⟩) (by assumption) ?_
  rotate_left 1
  · intro w hSw; (try dsimp only at hSw); obtain ⟨-, -, ⟨s0, s1, s2, s3, s4, s5, s6⟩, -⟩ := hSw.out; go_simp; try with_reducible rfl
  try simp only [Act.put, List.getElem_toArray, List.getElem_cons_zero, List.getElem_cons_succ, List.setIfInBounds_toArray, List.set_cons_zero, List.set_cons_succ]
  refine wpAnyH_ready (rs := [0, 4]) (by kernel_rfl) (by simp) ?_
  refine AllReadyH.cons rfl (fun K hK => ?_) ?_
  · skip
    go_simp
    refine nameW (fun w60 hW => ?_)
    have O0 : Hid (w60.ownsRow w6.heap.size 47 3 (.slice (some ⟨w6.heap.size, 0, none⟩) 0 0) 0 (cei [])) := by
      rw [hW]; exact World.ownsRow_lit (base := w6.heap.size) (e := 47) (size := 3) w6 #[] 0 (Nat.le_refl _) (Nat.zero_le _) rfl
    have B0 : Hid (Below w6.heap.size w6 w60) := by
      rw [hW]; exact below_draws new1 1
    have h60 : w6.heap.size < w60.heap.size := by rw [hW]; show w6.heap.size < (w6.alloc _).heap.size; simp
    clear hW
    refine hK.out _ _ (Lib.hid (S6.out.call B0.out)) (fun hHeld => ?_)
    clear hK K
    try simp only [Act.put, List.getElem_toArray, List.getElem_cons_zero, List.getElem_cons_succ, List.setIfInBounds_toArray, List.set_cons_zero, List.set_cons_succ]
    refine wpAnyH_ready (rs := [2, 4]) (by kernel_rfl) (by simp) ?_
    refine AllReadyH.cons rfl (fun K hK => ?_) ?_
    · skip
      refine step_append_ri rfl (.tmp 41) (.tmp 42) rfl w6.heap.size _ 0 [] rfl O0.out _ L.length c L rfl hHeld.out.2.2.2.1 rfl (by omega) B0.out.size ?_
      intro A7 c7 w602 ho hg hb
      simp only [Nat.zero_add, List.nil_append] at ho ⊢
      have O2 := Lib.hid ho
      have B2 := Lib.hid (B0.out.trans hb)
      clear ho hg hb
      refine hK.out _ _ (Lib.hid (S6.out.call B2.out)) (fun hHeld => ?_)
      clear hK K
      try simp only [Act.put, List.getElem_toArray, List.getElem_cons_zero, List.getElem_cons_succ, List.setIfInBounds_toArray, List.set_cons_zero, List.set_cons_succ]
      refine wpAnyH_ready (rs := [4]) (by kernel_rfl) (by simp) ?_
      refine AllReadyH.cons rfl (fun K hK => ?_) AllReadyH.nil
      go_simp
      refine nameW (fun w6024 hW => ?_)
      have R4 : Hid (Ri w6024 (some ⟨w602.heap.size, 0, none⟩) 1 [(k, a, b)]) := by
        rw [hW]; exact ri_new w602 (k, a, b) HX.out
      have B4 : Hid (Below w6.heap.size w6 w6024) := by
        rw [hW]; exact B2.out.alloc B2.out.size _
      have O2 : Hid (w6024.ownsRow w6.heap.size 47 3 (.slice A7 L.length c7) L.length (cei L)) := by
        rw [hW]; exact own_below O2.out new1 (Nat.le_refl _)
      clear hW
      refine hK.out _ _ (Lib.hid (S6.out.call B4.out)) (fun hHeld => ?_)
      clear hK K
      try simp only [Act.put, List.getElem_toArray, List.getElem_cons_zero, List.getElem_cons_succ, List.setIfInBounds_toArray, List.set_cons_zero, List.set_cons_succ]
      refine wpAnyH_ready (rs := [5]) (by kernel_rfl) (by simp) ?_
      refine AllReadyH.cons rfl (fun K hK => ?_) AllReadyH.nil
      refine step_append_ri rfl (.tmp 43) (.tmp 45) rfl w6.heap.size _ L.length L rfl O2.out _ 1 1 [(k, a, b)] rfl R4.out rfl (by omega) B4.out.size ?_
      intro A9 c9 w9 ho hg hb
      have O9 := Lib.hid ho
      have B9 := Lib.hid (B4.out.trans hb)
      clear ho hg hb
      refine hK.out _ _ (Lib.hid (S6.out.call B9.out)) (fun hHeld => ?_)
      clear hK K
      try simp only [Act.put, List.getElem_toArray, List.getElem_cons_zero, List.getElem_cons_succ, List.setIfInBounds_toArray, List.set_cons_zero, List.set_cons_succ]
      refine wpAnyH_take (i := 6) (v := ?_) rfl (by kernel_rfl) (by kernel_rfl) (by kernel_rfl) (fun _ _ _ h => h) (Or.inl ⟨by rfl, ?_⟩) (by assumption) ?_
      rotate_left 1
      · intro w _; go_simp; try with_reducible rfl
      try simp only [Act.put, List.getElem_toArray, List.getElem_cons_zero, List.getElem_cons_succ, List.setIfInBounds_toArray, List.set_cons_zero, List.set_cons_succ]
      refine wpAnyH_done (by kernel_rfl) ?_ _
      have R9 := Lib.hid (Ri.of_own O9.out (fun u hu => by
        rcases List.mem_append.1 hu with hu | hu
        · exact HOK.out u hu
        · rw [List.mem_singleton.1 hu]; exact HX.out)).1
      have S9 := Lib.hid ((hHeld.out).add (fT A9 c9 (L ++ [(k, a, b)])) R9.out)
      clear hHeld O9 B9 R9
      go_wp2_with fail
      refine (KB _ _ (L.length + 1) (L ++ [(k, a, b)]) _ S9.out.2.2.2.2.2.1 S9.out.2.1 (by simp) (by omega)).mono ?_
      rintro e w10 ⟨A10, c10, rfl, ho10, hb10⟩
      rw [HC.out.1] at ho10 ⊢
      rw [HC.out.2.1]
      have S10 := Lib.hid ((S9.out.call hb10).add (fR A10 c10 []) (own_rd ho10 HC.out.2.2))
      clear S9 ho10 hb10
      have cq10 := S10.out.2.1.le
      rw [show ([] : List Int).length = 0 from rfl]
      go_wp2_with fail
      refine (KM _ _ (L.length + 1) (L ++ [(k, a, b)]) _ S10.out.2.2.2.2.2.2.1 S10.out.2.2.1 (by simp)).mono ?_
      rintro e w11 ⟨rfl, hb11⟩
      rw [HV2.out]
      have S11 := Lib.hid (S10.out.call hb11)
      clear S10 hb11
      go_wp2_with fail
      go_ret
      exact ⟨rfl, S11.out.1⟩
    refine AllReadyH.cons rfl (fun K hK => ?_) AllReadyH.nil
    go_simp
    refine nameW (fun w604 hW => ?_)
    have R4 : Hid (Ri w604 (some ⟨w60.heap.size, 0, none⟩) 1 [(k, a, b)]) := by
      rw [hW]; exact ri_new w60 (k, a, b) HX.out
    have B4 : Hid (Below w6.heap.size w6 w604) := by
      rw [hW]; exact B0.out.alloc B0.out.size _
    have O0 : Hid (w604.ownsRow w6.heap.size 47 3 (.slice (some ⟨w6.heap.size, 0, none⟩) 0 0) 0 (cei [])) := by
      rw [hW]; exact own_below O0.out new1 (Nat.le_refl _)
    have hlt : w6.heap.size < w60.heap.size := h60
    clear hW
    refine hK.out _ _ (Lib.hid (S6.out.call B4.out)) (fun hHeld => ?_)
    clear hK K
    try simp only [Act.put, List.getElem_toArray, List.getElem_cons_zero, List.getElem_cons_succ, List.setIfInBounds_toArray, List.set_cons_zero, List.set_cons_succ]
    refine wpAnyH_ready (rs := [2]) (by kernel_rfl) (by simp) ?_
    refine AllReadyH.cons rfl (fun K hK => ?_) AllReadyH.nil
    refine step_append_ri rfl (.tmp 41) (.tmp 42) rfl w6.heap.size _ 0 [] rfl O0.out _ L.length c L rfl hHeld.out.2.2.2.1 rfl (by omega) B4.out.size ?_
    intro A7 c7 w6042 ho hg hb
    simp only [Nat.zero_add, List.nil_append] at ho ⊢
    have O2 := Lib.hid ho
    have B2 := Lib.hid (B4.out.trans hb)
    have R4 := Lib.hid (R4.out.grown hg (fun z hz => by injection hz with hz; subst hz; intro h; injection h with h; (try dsimp only at h); omega))
    clear ho hg hb
    refine hK.out _ _ (Lib.hid (S6.out.call B2.out)) (fun hHeld => ?_)
    clear hK K
    try simp only [Act.put, List.getElem_toArray, List.getElem_cons_zero, List.getElem_cons_succ, List.setIfInBounds_toArray, List.set_cons_zero, List.set_cons_succ]
    refine wpAnyH_ready (rs := [5]) (by kernel_rfl) (by simp) ?_
    refine AllReadyH.cons rfl (fun K hK => ?_) AllReadyH.nil
    refine step_append_ri rfl (.tmp 43) (.tmp 45) rfl w6.heap.size _ L.length L rfl O2.out _ 1 1 [(k, a, b)] rfl R4.out rfl (by omega) B2.out.size ?_
    intro A9 c9 w9 ho hg hb
    have O9 := Lib.hid ho
    have B9 := Lib.hid (B2.out.trans hb)
    clear ho hg hb
    refine hK.out _ _ (Lib.hid (S6.out.call B9.out)) (fun hHeld => ?_)
    clear hK K
    try simp only [Act.put, List.getElem_toArray, List.getElem_cons_zero, List.getElem_cons_succ, List.setIfInBounds_toArray, List.set_cons_zero, List.set_cons_succ]
    refine wpAnyH_take (i := 6) (v := ?_) rfl (by kernel_rfl) (by kernel_rfl) (by kernel_rfl) (fun _ _ _ h => h) (Or.inl ⟨by rfl, ?_⟩) (by assumption) ?_
    rotate_left 1
    · intro w _; go_simp; try with_reducible rfl
    try simp only [Act.put, List.getElem_toArray, List.getElem_cons_zero, List.getElem_cons_succ, List.setIfInBounds_toArray, List.set_cons_zero, List.set_cons_succ]
    refine wpAnyH_done (by kernel_rfl) ?_ _
    have R9 := Lib.hid (Ri.of_own O9.out (fun u hu => by
      rcases List.mem_append.1 hu with hu | hu
      · exact HOK.out u hu
      · rw [List.mem_singleton.1 hu]; exact HX.out)).1
    have S9 := Lib.hid ((hHeld.out).add (fT A9 c9 (L ++ [(k, a, b)])) R9.out)
    clear hHeld O9 B9 R9
    go_wp2_with fail
    refine (KB _ _ (L.length + 1) (L ++ [(k, a, b)]) _ S9.out.2.2.2.2.2.1 S9.out.2.1 (by simp) (by omega)).mono ?_
    rintro e w10 ⟨A10, c10, rfl, ho10, hb10⟩
    rw [HC.out.1] at ho10 ⊢
    rw [HC.out.2.1]
    have S10 := Lib.hid ((S9.out.call hb10).add (fR A10 c10 []) (own_rd ho10 HC.out.2.2))
    clear S9 ho10 hb10
    have cq10 := S10.out.2.1.le
    rw [show ([] : List Int).length = 0 from rfl]
    go_wp2_with fail
    refine (KM _ _ (L.length + 1) (L ++ [(k, a, b)]) _ S10.out.2.2.2.2.2.2.1 S10.out.2.2.1 (by simp)).mono ?_
    rintro e w11 ⟨rfl, hb11⟩
    rw [HV2.out]
    have S11 := Lib.hid (S10.out.call hb11)
    clear S10 hb11
    go_wp2_with fail
    go_ret
    exact ⟨rfl, S11.out.1⟩
  refine AllReadyH.cons rfl (fun K hK => ?_) AllReadyH.nil
  go_simp
  refine nameW (fun w64 hW => ?_)
  have R4 : Hid (Ri w64 (some ⟨w6.heap.size, 0, none⟩) 1 [(k, a, b)]) := by
    rw [hW]; exact ri_new w6 (k, a, b) HX.out
  have B4 : Hid (Below w6.heap.size w6 w64) := by
    rw [hW]; exact below_draws new1 1
  have h64 : w6.heap.size < w64.heap.size := by rw [hW]; show w6.heap.size < (w6.alloc _).heap.size; simp
  clear hW
  refine hK.out _ _ (Lib.hid (S6.out.call B4.out)) (fun hHeld => ?_)
  clear hK K
  try simp only [Act.put, List.getElem_toArray, List.getElem_cons_zero, List.getElem_cons_succ, List.setIfInBounds_toArray, List.set_cons_zero, List.set_cons_succ]
  refine wpAnyH_ready (rs := [0]) (by kernel_rfl) (by simp) ?_
  refine AllReadyH.cons rfl (fun K hK => ?_) AllReadyH.nil
  go_simp
  refine nameW (fun w640 hW => ?_)
  have O0 : Hid (w640.ownsRow w6.heap.size 47 3 (.slice (some ⟨w64.heap.size, 0, none⟩) 0 0) 0 (cei [])) := by
    rw [hW]; exact own_base (World.ownsRow_lit (base := w64.heap.size) (e := 47) (size := 3) w64 #[] 0 (Nat.le_refl _) (Nat.zero_le _) rfl) B4.out.size
  have B0 : Hid (Below w6.heap.size w6 w640) := by
    rw [hW]; exact B4.out.alloc B4.out.size _
  have R4 : Hid (Ri w640 (some ⟨w6.heap.size, 0, none⟩) 1 [(k, a, b)]) := by
    rw [hW]; exact R4.out.keep new1
  have hlt : w6.heap.size < w64.heap.size := h64
  clear hW
  refine hK.out _ _ (Lib.hid (S6.out.call B0.out)) (fun hHeld => ?_)
  clear hK K
  try simp only [Act.put, List.getElem_toArray, List.getElem_cons_zero, List.getElem_cons_succ, List.setIfInBounds_toArray, List.set_cons_zero, List.set_cons_succ]
  refine wpAnyH_ready (rs := [2]) (by kernel_rfl) (by simp) ?_
  refine AllReadyH.cons rfl (fun K hK => ?_) AllReadyH.nil
  refine step_append_ri rfl (.tmp 41) (.tmp 42) rfl w6.heap.size _ 0 [] rfl O0.out _ L.length c L rfl hHeld.out.2.2.2.1 rfl (by omega) B0.out.size ?_
  intro A7 c7 w6402 ho hg hb
  simp only [Nat.zero_add, List.nil_append] at ho ⊢
  have O2 := Lib.hid ho
  have B2 := Lib.hid (B0.out.trans hb)
  have R4 := Lib.hid (R4.out.grown hg (fun z hz => by injection hz with hz; subst hz; intro h; injection h with h; (try dsimp only at h); omega))
  clear ho hg hb
  refine hK.out _ _ (Lib.hid (S6.out.call B2.out)) (fun hHeld => ?_)
  clear hK K
  try simp only [Act.put, List.getElem_toArray, List.getElem_cons_zero, List.getElem_cons_succ, List.setIfInBounds_toArray, List.set_cons_zero, List.set_cons_succ]
  refine wpAnyH_ready (rs := [5]) (by kernel_rfl) (by simp) ?_
  refine AllReadyH.cons rfl (fun K hK => ?_) AllReadyH.nil
  refine step_append_ri rfl (.tmp 43) (.tmp 45) rfl w6.heap.size _ L.length L rfl O2.out _ 1 1 [(k, a, b)] rfl R4.out rfl (by omega) B2.out.size ?_
  intro A9 c9 w9 ho hg hb
  have O9 := Lib.hid ho
  have B9 := Lib.hid (B2.out.trans hb)
  clear ho hg hb
  refine hK.out _ _ (Lib.hid (S6.out.call B9.out)) (fun hHeld => ?_)
  clear hK K
  try simp only [Act.put, List.getElem_toArray, List.getElem_cons_zero, List.getElem_cons_succ, List.setIfInBounds_toArray, List.set_cons_zero, List.set_cons_succ]
  refine wpAnyH_take (i := 6) (v := ?_) rfl (by kernel_rfl) (by kernel_rfl) (by kernel_rfl) (fun _ _ _ h => h) (Or.inl ⟨by rfl, ?_⟩) (by assumption) ?_
  rotate_left 1
  · intro w _; go_simp; try with_reducible rfl
  try simp only [Act.put, List.getElem_toArray, List.getElem_cons_zero, List.getElem_cons_succ, List.setIfInBounds_toArray, List.set_cons_zero, List.set_cons_succ]
  refine wpAnyH_done (by kernel_rfl) ?_ _
  have R9 := Lib.hid (Ri.of_own O9.out (fun u hu => by
    rcases List.mem_append.1 hu with hu | hu
    · exact HOK.out u hu
    · rw [List.mem_singleton.1 hu]; exact HX.out)).1
  have S9 := Lib.hid ((hHeld.out).add (fT A9 c9 (L ++ [(k, a, b)])) R9.out)
  clear hHeld O9 B9 R9
  go_wp2_with fail
  refine (KB _ _ (L.length + 1) (L ++ [(k, a, b)]) _ S9.out.2.2.2.2.2.1 S9.out.2.1 (by simp) (by omega)).mono ?_
  rintro e w10 ⟨A10, c10, rfl, ho10, hb10⟩
  rw [HC.out.1] at ho10 ⊢
  rw [HC.out.2.1]
  have S10 := Lib.hid ((S9.out.call hb10).add (fR A10 c10 []) (own_rd ho10 HC.out.2.2))
  clear S9 ho10 hb10
  have cq10 := S10.out.2.1.le
  rw [show ([] : List Int).length = 0 from rfl]
  go_wp2_with fail
  refine (KM _ _ (L.length + 1) (L ++ [(k, a, b)]) _ S10.out.2.2.2.2.2.2.1 S10.out.2.2.1 (by simp)).mono ?_
  rintro e w11 ⟨rfl, hb11⟩
  rw [HV2.out]
  have S11 := Lib.hid (S10.out.call hb11)
  clear S10 hb11
  go_wp2_with fail
  go_ret
  exact ⟨rfl, S11.out.1⟩
set_option maxRecDepth 100000 in
set_option maxHeartbeats 4000000 in
theorem ccut_t (F : Fct) (KM : KMay F) (KB : KBytes F) (KR : KRead F) (KT : KText F) (A : Option Addr) (c : Nat) (L : List Ins) (k a b : Int) (w : World) (hw : F.p w) (hr : Ri w A c L) (hl : L.length ≤ 199) (hv : codM L = true) (hx : InOk (k, a, b)) (C : List Int) (hC : byL (L ++ [(k, a, b)]) = C ∧ cdE (L ++ [(k, a, b)]) = 0 ∧ Byt C) (hv2 : codM (L ++ [(k, a, b)]) = true) (hCl : C = ((L.length : Int) + 1) :: (L.flatMap opr ++ opr (k, a, b))) :
    Calls Tryd.prog 7 #[.slice A L.length c, .agg #[.int .u8 k, .int .i64 a, .int .i64 b]] w fun e w' => e = .returned (.bool true) ∧ Below w.heap.size w w' := by
  have cap0 := hr.len
  have HV := Lib.hid hv
  have HC := Lib.hid hC
  have HCL := Lib.hid hCl
  clear hCl
  have HV2 := Lib.hid hv2
  have HX := Lib.hid hx
  have HOK := Lib.hid hr.1
  have HE : Hid (byL L = codB L ∧ cdE L = 0 ∧ Byt (codB L)) := Lib.hid ⟨by rw [byL, if_pos hv], by rw [cdE, if_pos hv], codB_byt hv hr.1⟩
  have HCU : Hid (rdC ((codB L).take ((codB L).length - 1)) 0 = (10, [], 0)) := by
    have := rdC_cut hv
    rw [List.dropLast_eq_take] at this
    exact this
  have hl1 := (codM_parts hv).1
  have hBl := codB_len L
  have HBD : Hid (codB L = (L.length : Int) :: L.flatMap opr) := rfl
  have S0 := Lib.hid ((((Sx.start w).add F hw).add (fT A c L) hr).mk1 (.cells #[.int .u8 k, .int .i64 a, .int .i64 b] 47))
  have S1 := Lib.hid (S0.out.add (fI w.heap.size k a b) (In.new w k a b))
  clear hv hx hw hr S0 hC hv2
  generalize codB L = B at *
  go_enter Tryd.func7, Tryd.ntmps7
  go_wp2_with fail
  refine (cawake_any F KB KT KR _ S1.out.2.2.2.1).mono ?_
  rintro e w2 ⟨rfl, hb2⟩
  have S2 := Lib.hid (S1.out.call hb2)
  clear S1 hb2
  go_wp2_with fail
  refine (KM _ _ _ L _ S2.out.2.2.2.1 S2.out.2.2.1 rfl).mono ?_
  rintro e w3 ⟨rfl, hb3⟩
  rw [HV.out]
  have S3 := Lib.hid (S2.out.call hb3)
  clear S2 hb3
  go_wp2_with fail
  refine (KB _ _ _ L _ S3.out.2.2.2.1 S3.out.2.2.1 rfl (by omega)).mono ?_
  rintro e w4 ⟨A3, c3, rfl, ho4, hb4⟩
  rw [HE.out.1] at ho4 ⊢
  rw [HE.out.2.1]
  have S4 := Lib.hid ((S3.out.call hb4).add (fR A3 c3 B) (own_rd ho4 HE.out.2.2))
  clear S3 ho4 hb4
  have cp3 := S4.out.2.1.le
  have cq3 := S4.out.2.1.cap
  go_wp2_with fail
  have e1 : (B.take (B.length - 1)).length = B.length - 1 := by simp
  refine (ctold_t F KR A3 (B.length - 1) c3 (B.take (B.length - 1)) 10 _ S4.out.2.2.2.2.1 (S4.out.2.1.pre _) e1 HCU.out).mono ?_
  rintro e w5 ⟨rfl, hb5⟩
  have S5 := Lib.hid (S4.out.call hb5)
  clear S4 hb5 e1
  obtain ⟨-, -, ⟨z0, z1, z2, z3, z4, z5, z6⟩, -⟩ := S5.out
  go_upto_region 8 with (fail)
  clear z0 z1 z2 z3 z4 z5 z6
  have S6 := S5
  clear S5
  generalize w5 = w6 at *
  refine wp_region_held_drew (S := fun w' => Hid (Sx w w' [fR A3 c3 B, fI w.heap.size k a b, fT A c L, F])) (by kernel_rfl) (Hsx.drew S6) (fun hHeld => ?_)
  refine wpAnyH_take (i := 1) (v := ?_) rfl (by kernel_rfl) (by kernel_rfl) (by kernel_rfl) (fun _ _ _ h => h) (Or.inl ⟨by rfl, ?_⟩) (by assumption) ?_
  rotate_left 1
  · intro w _; go_simp; try with_reducible rfl
  try simp only [Act.put, List.getElem_toArray, List.getElem_cons_zero, List.getElem_cons_succ, List.setIfInBounds_toArray, List.set_cons_zero, List.set_cons_succ]
  refine wpAnyH_take (i := 3) (v := ?_) rfl (by kernel_rfl) (by kernel_rfl) (by kernel_rfl) (fun _ _ _ h => h) (Or.inl ⟨by rfl, ?_⟩) (by assumption) ?_
  rotate_left 1
  · intro w hSw; (try dsimp only at hSw); obtain ⟨-, -, ⟨s0, s1, s2, s3, s4, s5, s6⟩, -⟩ := hSw.out; go_simp; try with_reducible rfl
  try simp only [Act.put, List.getElem_toArray, List.getElem_cons_zero, List.getElem_cons_succ, List.setIfInBounds_toArray, List.set_cons_zero, List.set_cons_succ]
  refine wpAnyH_ready (rs := [0, 4]) (by kernel_rfl) (by simp) ?_
  refine AllReadyH.cons rfl (fun K hK => ?_) ?_
  · skip
    go_simp
    refine nameW (fun w60 hW => ?_)
    have O0 : Hid (w60.ownsRow w6.heap.size 47 3 (.slice (some ⟨w6.heap.size, 0, none⟩) 0 0) 0 (cei [])) := by
      rw [hW]; exact World.ownsRow_lit (base := w6.heap.size) (e := 47) (size := 3) w6 #[] 0 (Nat.le_refl _) (Nat.zero_le _) rfl
    have B0 : Hid (Below w6.heap.size w6 w60) := by
      rw [hW]; exact below_draws new1 1
    have h60 : w6.heap.size < w60.heap.size := by rw [hW]; show w6.heap.size < (w6.alloc _).heap.size; simp
    clear hW
    refine hK.out _ _ (Lib.hid (S6.out.call B0.out)) (fun hHeld => ?_)
    clear hK K
    try simp only [Act.put, List.getElem_toArray, List.getElem_cons_zero, List.getElem_cons_succ, List.setIfInBounds_toArray, List.set_cons_zero, List.set_cons_succ]
    refine wpAnyH_ready (rs := [2, 4]) (by kernel_rfl) (by simp) ?_
    refine AllReadyH.cons rfl (fun K hK => ?_) ?_
    · skip
      refine step_append_ri rfl (.tmp 41) (.tmp 42) rfl w6.heap.size _ 0 [] rfl O0.out _ L.length c L rfl hHeld.out.2.2.2.1 rfl (by omega) B0.out.size ?_
      intro A7 c7 w602 ho hg hb
      simp only [Nat.zero_add, List.nil_append] at ho ⊢
      have O2 := Lib.hid ho
      have B2 := Lib.hid (B0.out.trans hb)
      clear ho hg hb
      refine hK.out _ _ (Lib.hid (S6.out.call B2.out)) (fun hHeld => ?_)
      clear hK K
      try simp only [Act.put, List.getElem_toArray, List.getElem_cons_zero, List.getElem_cons_succ, List.setIfInBounds_toArray, List.set_cons_zero, List.set_cons_succ]
      refine wpAnyH_ready (rs := [4]) (by kernel_rfl) (by simp) ?_
      refine AllReadyH.cons rfl (fun K hK => ?_) AllReadyH.nil
      go_simp
      refine nameW (fun w6024 hW => ?_)
      have R4 : Hid (Ri w6024 (some ⟨w602.heap.size, 0, none⟩) 1 [(k, a, b)]) := by
        rw [hW]; exact ri_new w602 (k, a, b) HX.out
      have B4 : Hid (Below w6.heap.size w6 w6024) := by
        rw [hW]; exact B2.out.alloc B2.out.size _
      have O2 : Hid (w6024.ownsRow w6.heap.size 47 3 (.slice A7 L.length c7) L.length (cei L)) := by
        rw [hW]; exact own_below O2.out new1 (Nat.le_refl _)
      clear hW
      refine hK.out _ _ (Lib.hid (S6.out.call B4.out)) (fun hHeld => ?_)
      clear hK K
      try simp only [Act.put, List.getElem_toArray, List.getElem_cons_zero, List.getElem_cons_succ, List.setIfInBounds_toArray, List.set_cons_zero, List.set_cons_succ]
      refine wpAnyH_ready (rs := [5]) (by kernel_rfl) (by simp) ?_
      refine AllReadyH.cons rfl (fun K hK => ?_) AllReadyH.nil
      refine step_append_ri rfl (.tmp 43) (.tmp 45) rfl w6.heap.size _ L.length L rfl O2.out _ 1 1 [(k, a, b)] rfl R4.out rfl (by omega) B4.out.size ?_
      intro A9 c9 w9 ho hg hb
      have O9 := Lib.hid ho
      have B9 := Lib.hid (B4.out.trans hb)
      clear ho hg hb
      refine hK.out _ _ (Lib.hid (S6.out.call B9.out)) (fun hHeld => ?_)
      clear hK K
      try simp only [Act.put, List.getElem_toArray, List.getElem_cons_zero, List.getElem_cons_succ, List.setIfInBounds_toArray, List.set_cons_zero, List.set_cons_succ]
      refine wpAnyH_take (i := 6) (v := ?_) rfl (by kernel_rfl) (by kernel_rfl) (by kernel_rfl) (fun _ _ _ h => h) (Or.inl ⟨by rfl, ?_⟩) (by assumption) ?_
      rotate_left 1
      · intro w _; go_simp; try with_reducible rfl
      try simp only [Act.put, List.getElem_toArray, List.getElem_cons_zero, List.getElem_cons_succ, List.setIfInBounds_toArray, List.set_cons_zero, List.set_cons_succ]
      refine wpAnyH_done (by kernel_rfl) ?_ _
      have R9 := Lib.hid (Ri.of_own O9.out (fun u hu => by
        rcases List.mem_append.1 hu with hu | hu
        · exact HOK.out u hu
        · rw [List.mem_singleton.1 hu]; exact HX.out)).1
      have S9 := Lib.hid ((hHeld.out).add (fT A9 c9 (L ++ [(k, a, b)])) R9.out)
      clear hHeld O9 B9 R9
      go_wp2_with fail
      refine (KB _ _ (L.length + 1) (L ++ [(k, a, b)]) _ S9.out.2.2.2.2.2.1 S9.out.2.1 (by simp) (by omega)).mono ?_
      rintro e w10 ⟨A10, c10, rfl, ho10, hb10⟩
      rw [HC.out.1] at ho10 ⊢
      rw [HC.out.2.1]
      have S10 := Lib.hid ((S9.out.call hb10).add (fR A10 c10 C) (own_rd ho10 HC.out.2.2))
      clear S9 ho10 hb10
      have cq10 := S10.out.2.1.le
      go_wp2_with fail
      refine (KM _ _ (L.length + 1) (L ++ [(k, a, b)]) _ S10.out.2.2.2.2.2.2.1 S10.out.2.2.1 (by simp)).mono ?_
      rintro e w11 ⟨rfl, hb11⟩
      rw [HV2.out]
      have S11 := Lib.hid (S10.out.call hb11)
      clear S10 hb11
      have l3 : 0 < B.length := by omega
      have hlC : C.length = B.length + (opr (k, a, b)).length := by rw [HCL.out, HBD.out]; simp; omega
      have hox := (opr_len (k, a, b)).1
      have lCB : B.length < C.length := by omega
      have l10 : 0 < C.length := by omega
      obtain ⟨ad10, rfl, -⟩ := S11.out.2.1.at_ l10
      obtain ⟨ad3, rfl, -⟩ := S11.out.2.2.2.1.at_ l3
      have hC0 : (C[0]?.getD 0 : Int) = (L.length : Int) + 1 := by rw [HCL.out]; rfl
      have hB0 : (B[0]?.getD 0 : Int) = (L.length : Int) := by rw [HBD.out]; rfl
      have hCn : (C[B.length]?.getD 0 : Int) = k := by
        rw [HCL.out, HBD.out, List.length_cons, List.getElem?_cons_succ, List.getElem?_append_right (Nat.le_refl _), Nat.sub_self]
        rfl
      have cb10 := S11.out.2.1.le
      have cb3 := S11.out.2.2.2.1.le
      obtain ⟨N, hN⟩ : ∃ N, (L.flatMap opr).length = N := ⟨_, rfl⟩
      have hBN : B.length = N + 1 := by rw [HBD.out, List.length_cons, hN]
      obtain ⟨Ax, cx, hsl1, hr1⟩ := slice_run (some ad10) c10 C 1 B.length (by omega) (by omega) cb10
      obtain ⟨Ay, cy, hsl2, hr2⟩ := slice_run_l (some ad3) c3 B 1 (by omega) cb3
      have e1 : (C.drop 1).take (B.length - 1) = L.flatMap opr := by rw [HCL.out, hBN, ← hN]; simp
      have e2 : B.drop 1 = L.flatMap opr := by rw [HBD.out]; rfl
      rw [e1] at hr1
      rw [e2] at hr2
      have e3 : B.length - 1 = N := by omega
      rw [e3] at hsl1 hsl2
      replace hsl1 : ∀ wx : World, (Instr.slice 24 (.slice (some ad10) C.length c10) (some (.int .i64 1)) (some (.int .i64 (B.length : Int))) none).run Tryd.prog wx = .ok (.slice Ax N cx) wx := hsl1
      replace hsl2 : ∀ wx : World, (Instr.slice 24 (.slice (some ad3) B.length c3) (some (.int .i64 1)) none none).run Tryd.prog wx = .ok (.slice Ay N cy) wx := hsl2
      obtain ⟨s, hs⟩ : ∃ s, strOfNums (L.flatMap opr) = s := ⟨_, rfl⟩
      have HS := Lib.hid hs
      have HN := Lib.hid (And.intro hN trivial)
      have HR1 := Lib.hid hr1
      have HR2 := Lib.hid hr2
      have HSL1 := Lib.hid hsl1
      have HSL2 := Lib.hid hsl2
      have j1 : ((L.length : Int) + 1) ≤ 200 := by omega
      have j2 : (B.length : Int) < (C.length : Int) := by omega
      have j3 : (0 : Int) < (C.length : Int) := by omega
      have j4 : (0 : Int) < (B.length : Int) := by omega
      have j5 : IntKind.i64.wrap (L.length : Int) = (L.length : Int) := IntWalk.i64_in _ (by omega)
      clear hs hN hr1 hr2 e1 e2 e3 hBN hsl1 hsl2 hlC hox
      go_upto_region 12 with (fail)
      have hsl1 := HSL1.out
      have hsl2 := HSL2.out
      refine wp_region_held_drew (S := fun w' => Hid (Sx w w' [fR (some ad10) c10 C, fT A9 c9 (L ++ [(k, a, b)]), fR (some ad3) c3 B, fI w.heap.size k a b, fT A c L, F])) (by kernel_rfl) (Hsx.drew S11) (fun hHeld => ?_)
      refine wpAnyH_take (i := 0) (v := ?_) rfl (by kernel_rfl) (by kernel_rfl) (by kernel_rfl) (fun _ _ _ h => h) (Or.inl ⟨by rfl, ?_⟩) (by assumption) ?_
      rotate_left 1
      · intro w _; go_simp; try with_reducible rfl
      try simp only [Act.put, List.getElem_toArray, List.getElem_cons_zero, List.getElem_cons_succ, List.setIfInBounds_toArray, List.set_cons_zero, List.set_cons_succ]
      refine wpAnyH_take (i := 1) (v := ?_) rfl (by kernel_rfl) (by kernel_rfl) (by kernel_rfl) (fun _ _ _ h => h) (Or.inl ⟨by rfl, ?_⟩) (by assumption) ?_
      rotate_left 1
      · intro w _; go_simp; try with_reducible rfl
      try simp only [Act.put, List.getElem_toArray, List.getElem_cons_zero, List.getElem_cons_succ, List.setIfInBounds_toArray, List.set_cons_zero, List.set_cons_succ]
      refine wpAnyH_take (i := 2) (v := ?_) rfl (by kernel_rfl) (by kernel_rfl) (by kernel_rfl) (fun _ _ _ h => h) (Or.inl ⟨by rfl, ?_⟩) (by assumption) ?_
      rotate_left 1
      · intro w _; go_simp; try with_reducible rfl
      try simp only [Act.put, List.getElem_toArray, List.getElem_cons_zero, List.getElem_cons_succ, List.setIfInBounds_toArray, List.set_cons_zero, List.set_cons_succ]
      refine wpAnyH_take (i := 3) (v := ?_) rfl (by kernel_rfl) (by kernel_rfl) (by kernel_rfl) (fun _ _ _ h => h) (Or.inl ⟨by rfl, ?_⟩) (by assumption) ?_
      rotate_left 1
      · intro w _; go_simp; try with_reducible rfl
      try simp only [Act.put, List.getElem_toArray, List.getElem_cons_zero, List.getElem_cons_succ, List.setIfInBounds_toArray, List.set_cons_zero, List.set_cons_succ]
      refine wpAnyH_take (i := 4) (v := ?_) rfl (by kernel_rfl) (by kernel_rfl) (by kernel_rfl) (fun _ _ _ h => h) (Or.inl ⟨by rfl, ?_⟩) (by assumption) ?_
      rotate_left 1
      · intro w _; go_simp; try with_reducible rfl
      try simp only [Act.put, List.getElem_toArray, List.getElem_cons_zero, List.getElem_cons_succ, List.setIfInBounds_toArray, List.set_cons_zero, List.set_cons_succ]
      refine wpAnyH_take (i := 5) (v := ?_) rfl (by kernel_rfl) (by kernel_rfl) (by kernel_rfl) (fun _ _ _ h => h) (Or.inl ⟨by rfl, ?_⟩) (by assumption) ?_
      rotate_left 1
      · intro w _; go_simp; try with_reducible rfl
      try simp only [Act.put, List.getElem_toArray, List.getElem_cons_zero, List.getElem_cons_succ, List.setIfInBounds_toArray, List.set_cons_zero, List.set_cons_succ]
      refine wpAnyH_take (i := 6) (v := ?_) rfl (by kernel_rfl) (by kernel_rfl) (by kernel_rfl) (fun _ _ _ h => h) (Or.inl ⟨by rfl, ?_⟩) (by assumption) ?_
      rotate_left 1
      · intro w _; go_simp; try with_reducible rfl
      try simp only [Act.put, List.getElem_toArray, List.getElem_cons_zero, List.getElem_cons_succ, List.setIfInBounds_toArray, List.set_cons_zero, List.set_cons_succ]
      refine wpAnyH_take (i := 7) (v := ?_) rfl (by kernel_rfl) (by kernel_rfl) (by kernel_rfl) (fun _ _ _ h => h) (Or.inl ⟨by rfl, ?_⟩) (by assumption) ?_
      rotate_left 1
      · intro w _; go_simp; try with_reducible rfl
      try simp only [Act.put, List.getElem_toArray, List.getElem_cons_zero, List.getElem_cons_succ, List.setIfInBounds_toArray, List.set_cons_zero, List.set_cons_succ]
      refine wpAnyH_take (i := 8) (v := ?_) rfl (by kernel_rfl) (by kernel_rfl) (by kernel_rfl) (fun _ _ _ h => h) (Or.inl ⟨by rfl, ?_⟩) (by assumption) ?_
      rotate_left 1
      · intro w _; go_simp; try with_reducible rfl
      try simp only [Act.put, List.getElem_toArray, List.getElem_cons_zero, List.getElem_cons_succ, List.setIfInBounds_toArray, List.set_cons_zero, List.set_cons_succ]
      refine wpAnyH_take (i := 9) (v := ?_) rfl (by kernel_rfl) (by kernel_rfl) (by kernel_rfl) (fun _ _ _ h => h) (Or.inl ⟨by rfl, ?_⟩) (by assumption) ?_
      rotate_left 1
      · intro w _; go_simp; try with_reducible rfl
      try simp only [Act.put, List.getElem_toArray, List.getElem_cons_zero, List.getElem_cons_succ, List.setIfInBounds_toArray, List.set_cons_zero, List.set_cons_succ]
      refine wpAnyH_take (i := 10) (v := ?_) rfl (by kernel_rfl) (by kernel_rfl) (by kernel_rfl) (fun _ _ _ h => h) (Or.inl ⟨by rfl, ?_⟩) (by assumption) ?_
      rotate_left 1
      · intro w _; go_simp; try with_reducible rfl
      try simp only [Act.put, List.getElem_toArray, List.getElem_cons_zero, List.getElem_cons_succ, List.setIfInBounds_toArray, List.set_cons_zero, List.set_cons_succ]
      refine wpAnyH_take (i := 11) (v := ?_) rfl (by kernel_rfl) (by kernel_rfl) (by kernel_rfl) (fun _ _ _ h => h) (Or.inl ⟨by rfl, ?_⟩) (by assumption) ?_
      rotate_left 1
      · intro w _; go_simp; try with_reducible rfl
      try simp only [Act.put, List.getElem_toArray, List.getElem_cons_zero, List.getElem_cons_succ, List.setIfInBounds_toArray, List.set_cons_zero, List.set_cons_succ]
      refine wpAnyH_take (i := 12) (v := ?_) rfl (by kernel_rfl) (by kernel_rfl) (by kernel_rfl) (fun _ _ _ h => h) (Or.inl ⟨by rfl, ?_⟩) (by assumption) ?_
      rotate_left 1
      · intro w hSw; (try dsimp only at hSw); have s1 := Rd.cz hSw.out.2.1 l10; rw [hC0] at s1; clear hSw; go_simp; try with_reducible rfl
      try simp only [Act.put, List.getElem_toArray, List.getElem_cons_zero, List.getElem_cons_succ, List.setIfInBounds_toArray, List.set_cons_zero, List.set_cons_succ]
      refine wpAnyH_take (i := 13) (v := ?_) rfl (by kernel_rfl) (by kernel_rfl) (by kernel_rfl) (fun _ _ _ h => h) (Or.inl ⟨by rfl, ?_⟩) (by assumption) ?_
      rotate_left 1
      · intro w hSw; (try dsimp only at hSw); obtain ⟨-⟩ := hSw; go_simp; try with_reducible rfl
      try simp only [Act.put, List.getElem_toArray, List.getElem_cons_zero, List.getElem_cons_succ, List.setIfInBounds_toArray, List.set_cons_zero, List.set_cons_succ]
      refine wpAnyH_take (i := 14) (v := ?_) rfl (by kernel_rfl) (by kernel_rfl) (by kernel_rfl) (fun _ _ _ h => h) (Or.inl ⟨by rfl, ?_⟩) (by assumption) ?_
      rotate_left 1
      · intro w _; go_simp; try with_reducible rfl
      try simp only [Act.put, List.getElem_toArray, List.getElem_cons_zero, List.getElem_cons_succ, List.setIfInBounds_toArray, List.set_cons_zero, List.set_cons_succ]
      refine wpAnyH_take (i := 15) (v := ?_) rfl (by kernel_rfl) (by kernel_rfl) (by kernel_rfl) (fun _ _ _ h => h) (Or.inl ⟨by rfl, ?_⟩) (by assumption) ?_
      rotate_left 1
      · intro w _; go_simp; try with_reducible rfl
      try simp only [Act.put, List.getElem_toArray, List.getElem_cons_zero, List.getElem_cons_succ, List.setIfInBounds_toArray, List.set_cons_zero, List.set_cons_succ]
      refine wpAnyH_take (i := 16) (v := ?_) rfl (by kernel_rfl) (by kernel_rfl) (by kernel_rfl) (fun _ _ _ h => h) (Or.inl ⟨by rfl, ?_⟩) (by assumption) ?_
      rotate_left 1
      · intro w _; go_simp; try with_reducible rfl
      try simp only [Act.put, List.getElem_toArray, List.getElem_cons_zero, List.getElem_cons_succ, List.setIfInBounds_toArray, List.set_cons_zero, List.set_cons_succ]
      refine wpAnyH_take (i := 17) (v := ?_) rfl (by kernel_rfl) (by kernel_rfl) (by kernel_rfl) (fun _ _ _ h => h) (Or.inl ⟨by rfl, ?_⟩) (by assumption) ?_
      rotate_left 1
      · intro w _; go_simp; try with_reducible rfl
      try simp only [Act.put, List.getElem_toArray, List.getElem_cons_zero, List.getElem_cons_succ, List.setIfInBounds_toArray, List.set_cons_zero, List.set_cons_succ]
      refine wpAnyH_take (i := 18) (v := ?_) rfl (by kernel_rfl) (by kernel_rfl) (by kernel_rfl) (fun _ _ _ h => h) (Or.inl ⟨by rfl, ?_⟩) (by assumption) ?_
      rotate_left 1
      · intro w _; go_simp; try with_reducible rfl
      try simp only [Act.put, List.getElem_toArray, List.getElem_cons_zero, List.getElem_cons_succ, List.setIfInBounds_toArray, List.set_cons_zero, List.set_cons_succ]
      refine wpAnyH_take (i := 19) (v := ?_) rfl (by kernel_rfl) (by kernel_rfl) (by kernel_rfl) (fun _ _ _ h => h) (Or.inl ⟨by rfl, ?_⟩) (by assumption) ?_
      rotate_left 1
      · intro w _; go_simp; try with_reducible rfl
      try simp only [Act.put, List.getElem_toArray, List.getElem_cons_zero, List.getElem_cons_succ, List.setIfInBounds_toArray, List.set_cons_zero, List.set_cons_succ]
      refine wpAnyH_take (i := 20) (v := ?_) rfl (by kernel_rfl) (by kernel_rfl) (by kernel_rfl) (fun _ _ _ h => h) (Or.inl ⟨by rfl, ?_⟩) (by assumption) ?_
      rotate_left 1
      · intro w _; go_simp; try with_reducible rfl
      try simp only [Act.put, List.getElem_toArray, List.getElem_cons_zero, List.getElem_cons_succ, List.setIfInBounds_toArray, List.set_cons_zero, List.set_cons_succ]
      refine wpAnyH_take (i := 21) (v := ?_) rfl (by kernel_rfl) (by kernel_rfl) (by kernel_rfl) (fun _ _ _ h => h) (Or.inl ⟨by rfl, ?_⟩) (by assumption) ?_
      rotate_left 1
      · intro w _; go_simp; try with_reducible rfl
      try simp only [Act.put, List.getElem_toArray, List.getElem_cons_zero, List.getElem_cons_succ, List.setIfInBounds_toArray, List.set_cons_zero, List.set_cons_succ]
      refine wpAnyH_take (i := 22) (v := ?_) rfl (by kernel_rfl) (by kernel_rfl) (by kernel_rfl) (fun _ _ _ h => h) (Or.inl ⟨by rfl, ?_⟩) (by assumption) ?_
      rotate_left 1
      · intro w hSw; (try dsimp only at hSw); have s1 := Rd.cz hSw.out.2.2.2.1 l3; rw [hB0] at s1; clear hSw; go_simp; try with_reducible rfl
      try simp only [Act.put, List.getElem_toArray, List.getElem_cons_zero, List.getElem_cons_succ, List.setIfInBounds_toArray, List.set_cons_zero, List.set_cons_succ]
      refine wpAnyH_take (i := 23) (v := ?_) rfl (by kernel_rfl) (by kernel_rfl) (by kernel_rfl) (fun _ _ _ h => h) (Or.inl ⟨by rfl, ?_⟩) (by assumption) ?_
      rotate_left 1
      · intro w hSw; (try dsimp only at hSw); obtain ⟨-⟩ := hSw; go_simp; try with_reducible rfl
      try simp only [Act.put, List.getElem_toArray, List.getElem_cons_zero, List.getElem_cons_succ, List.setIfInBounds_toArray, List.set_cons_zero, List.set_cons_succ]
      refine wpAnyH_take (i := 24) (v := ?_) rfl (by kernel_rfl) (by kernel_rfl) (by kernel_rfl) (fun _ _ _ h => h) (Or.inl ⟨by rfl, ?_⟩) (by assumption) ?_
      rotate_left 1
      · intro w _; go_simp; try with_reducible rfl
      try simp only [Act.put, List.getElem_toArray, List.getElem_cons_zero, List.getElem_cons_succ, List.setIfInBounds_toArray, List.set_cons_zero, List.set_cons_succ]
      refine wpAnyH_take (i := 25) (v := ?_) rfl (by kernel_rfl) (by kernel_rfl) (by kernel_rfl) (fun _ _ _ h => h) (Or.inl ⟨by rfl, ?_⟩) (by assumption) ?_
      rotate_left 1
      · intro w _; go_simp; try with_reducible rfl
      try simp only [Act.put, List.getElem_toArray, List.getElem_cons_zero, List.getElem_cons_succ, List.setIfInBounds_toArray, List.set_cons_zero, List.set_cons_succ]
      refine wpAnyH_take (i := 26) (v := ?_) rfl (by kernel_rfl) (by kernel_rfl) (by kernel_rfl) (fun _ _ _ h => h) (Or.inl ⟨by rfl, ?_⟩) (by assumption) ?_
      rotate_left 1
      · intro w _; go_simp; try with_reducible rfl
      try simp only [Act.put, List.getElem_toArray, List.getElem_cons_zero, List.getElem_cons_succ, List.setIfInBounds_toArray, List.set_cons_zero, List.set_cons_succ]
      refine wpAnyH_take (i := 27) (v := ?_) rfl (by kernel_rfl) (by kernel_rfl) (by kernel_rfl) (fun _ _ _ h => h) (Or.inl ⟨by rfl, ?_⟩) (by assumption) ?_
      rotate_left 1
      · intro w _; go_simp; try with_reducible rfl
      try simp only [Act.put, List.getElem_toArray, List.getElem_cons_zero, List.getElem_cons_succ, List.setIfInBounds_toArray, List.set_cons_zero, List.set_cons_succ]
      refine wpAnyH_take (i := 28) (v := ?_) rfl (by kernel_rfl) (by kernel_rfl) (by kernel_rfl) (fun _ _ _ h => h) (Or.inl ⟨by rfl, ?_⟩) (by assumption) ?_
      rotate_left 1
      · intro w _; go_simp; try with_reducible rfl
      try simp only [Act.put, List.getElem_toArray, List.getElem_cons_zero, List.getElem_cons_succ, List.setIfInBounds_toArray, List.set_cons_zero, List.set_cons_succ]
      refine wpAnyH_take (i := 29) (v := ?_) rfl (by kernel_rfl) (by kernel_rfl) (by kernel_rfl) (fun _ _ _ h => h) (Or.inl ⟨by rfl, ?_⟩) (by assumption) ?_
      rotate_left 1
      · intro w _; go_simp; try with_reducible rfl
      try simp only [Act.put, List.getElem_toArray, List.getElem_cons_zero, List.getElem_cons_succ, List.setIfInBounds_toArray, List.set_cons_zero, List.set_cons_succ]
      refine wpAnyH_take (i := 30) (v := ?_) rfl (by kernel_rfl) (by kernel_rfl) (by kernel_rfl) (fun _ _ _ h => h) (Or.inl ⟨by rfl, ?_⟩) (by assumption) ?_
      rotate_left 1
      · intro w _; go_simp; try with_reducible rfl
      try simp only [Act.put, List.getElem_toArray, List.getElem_cons_zero, List.getElem_cons_succ, List.setIfInBounds_toArray, List.set_cons_zero, List.set_cons_succ]
      refine wpAnyH_take (i := 31) (v := ?_) rfl (by kernel_rfl) (by kernel_rfl) (by kernel_rfl) (fun _ _ _ h => h) (Or.inl ⟨by rfl, ?_⟩) (by assumption) ?_
      rotate_left 1
      · intro w _; go_simp; try with_reducible rfl
      try simp only [Act.put, List.getElem_toArray, List.getElem_cons_zero, List.getElem_cons_succ, List.setIfInBounds_toArray, List.set_cons_zero, List.set_cons_succ]
      refine wpAnyH_take (i := 32) (v := ?_) rfl (by kernel_rfl) (by kernel_rfl) (by kernel_rfl) (fun _ _ _ h => h) (Or.inl ⟨by rfl, ?_⟩) (by assumption) ?_
      rotate_left 1
      · intro w _; go_simp; try with_reducible rfl
      try simp only [Act.put, List.getElem_toArray, List.getElem_cons_zero, List.getElem_cons_succ, List.setIfInBounds_toArray, List.set_cons_zero, List.set_cons_succ]
      refine wpAnyH_take (i := 33) (v := ?_) rfl (by kernel_rfl) (by kernel_rfl) (by kernel_rfl) (fun _ _ _ h => h) (Or.inl ⟨by rfl, ?_⟩) (by assumption) ?_
      rotate_left 1
      · intro w hSw; (try dsimp only at hSw); have h5 := HR1.out _ hSw.out.2.1; have h6 := rd_string (P := Tryd.prog) h5 24 9 5 Tryd.underlying24 Tryd.underlying5 Tryd.underlying9; rw [HN.out.1, HS.out] at h6; clear h5 hSw; go_simp; try with_reducible rfl
      try simp only [Act.put, List.getElem_toArray, List.getElem_cons_zero, List.getElem_cons_succ, List.setIfInBounds_toArray, List.set_cons_zero, List.set_cons_succ]
      refine wpAnyH_take (i := 34) (v := ?_) rfl (by kernel_rfl) (by kernel_rfl) (by kernel_rfl) (fun _ _ _ h => h) (Or.inl ⟨by rfl, ?_⟩) (by assumption) ?_
      rotate_left 1
      · intro w _; go_simp; try with_reducible rfl
      try simp only [Act.put, List.getElem_toArray, List.getElem_cons_zero, List.getElem_cons_succ, List.setIfInBounds_toArray, List.set_cons_zero, List.set_cons_succ]
      refine wpAnyH_take (i := 35) (v := ?_) rfl (by kernel_rfl) (by kernel_rfl) (by kernel_rfl) (fun _ _ _ h => h) (Or.inl ⟨by rfl, ?_⟩) (by assumption) ?_
      rotate_left 1
      · intro w _; go_simp; try with_reducible rfl
      try simp only [Act.put, List.getElem_toArray, List.getElem_cons_zero, List.getElem_cons_succ, List.setIfInBounds_toArray, List.set_cons_zero, List.set_cons_succ]
      refine wpAnyH_take (i := 36) (v := ?_) rfl (by kernel_rfl) (by kernel_rfl) (by kernel_rfl) (fun _ _ _ h => h) (Or.inl ⟨by rfl, ?_⟩) (by assumption) ?_
      rotate_left 1
      · intro w hSw; (try dsimp only at hSw); have h5 := HR2.out _ hSw.out.2.2.2.1; have h6 := rd_string (P := Tryd.prog) h5 24 9 5 Tryd.underlying24 Tryd.underlying5 Tryd.underlying9; rw [HN.out.1, HS.out] at h6; clear h5 hSw; go_simp; try with_reducible rfl
      try simp only [Act.put, List.getElem_toArray, List.getElem_cons_zero, List.getElem_cons_succ, List.setIfInBounds_toArray, List.set_cons_zero, List.set_cons_succ]
      refine wpAnyH_take (i := 37) (v := ?_) rfl (by kernel_rfl) (by kernel_rfl) (by kernel_rfl) (fun _ _ _ h => h) (Or.inl ⟨by rfl, ?_⟩) (by assumption) ?_
      rotate_left 1
      · intro w _; go_simp; try with_reducible rfl
      try simp only [Act.put, List.getElem_toArray, List.getElem_cons_zero, List.getElem_cons_succ, List.setIfInBounds_toArray, List.set_cons_zero, List.set_cons_succ]
      refine wpAnyH_take (i := 38) (v := ?_) rfl (by kernel_rfl) (by kernel_rfl) (by kernel_rfl) (fun _ _ _ h => h) (Or.inl ⟨by rfl, ?_⟩) (by assumption) ?_
      rotate_left 1
      · intro w _; go_simp; try with_reducible rfl
      try simp only [Act.put, List.getElem_toArray, List.getElem_cons_zero, List.getElem_cons_succ, List.setIfInBounds_toArray, List.set_cons_zero, List.set_cons_succ]
      refine wpAnyH_take (i := 39) (v := ?_) rfl (by kernel_rfl) (by kernel_rfl) (by kernel_rfl) (fun _ _ _ h => h) (Or.inl ⟨by rfl, ?_⟩) (by assumption) ?_
      rotate_left 1
      · intro w _; go_simp; try with_reducible rfl
      try simp only [Act.put, List.getElem_toArray, List.getElem_cons_zero, List.getElem_cons_succ, List.setIfInBounds_toArray, List.set_cons_zero, List.set_cons_succ]
      refine wpAnyH_take (i := 40) (v := ?_) rfl (by kernel_rfl) (by kernel_rfl) (by kernel_rfl) (fun _ _ _ h => h) (Or.inl ⟨by rfl, ?_⟩) (by assumption) ?_
      rotate_left 1
      · intro w _; go_simp; try with_reducible rfl
      try simp only [Act.put, List.getElem_toArray, List.getElem_cons_zero, List.getElem_cons_succ, List.setIfInBounds_toArray, List.set_cons_zero, List.set_cons_succ]
      refine wpAnyH_take (i := 41) (v := ?_) rfl (by kernel_rfl) (by kernel_rfl) (by kernel_rfl) (fun _ _ _ h => h) (Or.inl ⟨by rfl, ?_⟩) (by assumption) ?_
      rotate_left 1
      · intro w _; go_simp; try with_reducible rfl
      try simp only [Act.put, List.getElem_toArray, List.getElem_cons_zero, List.getElem_cons_succ, List.setIfInBounds_toArray, List.set_cons_zero, List.set_cons_succ]
      refine wpAnyH_take (i := 42) (v := ?_) rfl (by kernel_rfl) (by kernel_rfl) (by kernel_rfl) (fun _ _ _ h => h) (Or.inl ⟨by rfl, ?_⟩) (by assumption) ?_
      rotate_left 1
      · intro w _; go_simp; try with_reducible rfl
      try simp only [Act.put, List.getElem_toArray, List.getElem_cons_zero, List.getElem_cons_succ, List.setIfInBounds_toArray, List.set_cons_zero, List.set_cons_succ]
      refine wpAnyH_take (i := 43) (v := ?_) rfl (by kernel_rfl) (by kernel_rfl) (by kernel_rfl) (fun _ _ _ h => h) (Or.inl ⟨by rfl, ?_⟩) (by assumption) ?_
      rotate_left 1
      · intro w _; go_simp; try with_reducible rfl
      try simp only [Act.put, List.getElem_toArray, List.getElem_cons_zero, List.getElem_cons_succ, List.setIfInBounds_toArray, List.set_cons_zero, List.set_cons_succ]
      refine wpAnyH_take (i := 44) (v := ?_) rfl (by kernel_rfl) (by kernel_rfl) (by kernel_rfl) (fun _ _ _ h => h) (Or.inl ⟨by rfl, ?_⟩) (by assumption) ?_
      rotate_left 1
      · intro w hSw; (try dsimp only at hSw); have s1 := Rd.cn hSw.out.2.1 B.length lCB; rw [hCn] at s1; clear hSw; go_simp; try with_reducible rfl
      try simp only [Act.put, List.getElem_toArray, List.getElem_cons_zero, List.getElem_cons_succ, List.setIfInBounds_toArray, List.set_cons_zero, List.set_cons_succ]
      refine wpAnyH_take (i := 45) (v := ?_) rfl (by kernel_rfl) (by kernel_rfl) (by kernel_rfl) (fun _ _ _ h => h) (Or.inl ⟨by rfl, ?_⟩) (by assumption) ?_
      rotate_left 1
      · intro w _; go_simp; try with_reducible rfl
      try simp only [Act.put, List.getElem_toArray, List.getElem_cons_zero, List.getElem_cons_succ, List.setIfInBounds_toArray, List.set_cons_zero, List.set_cons_succ]
      refine wpAnyH_take (i := 46) (v := ?_) rfl (by kernel_rfl) (by kernel_rfl) (by kernel_rfl) (fun _ _ _ h => h) (Or.inl ⟨by rfl, ?_⟩) (by assumption) ?_
      rotate_left 1
      · intro w hSw; (try dsimp only at hSw); obtain ⟨-, -, -, -, ⟨s0, s1, s2, s3, s4, s5, s6⟩, -⟩ := hSw.out; go_simp; try with_reducible rfl
      try simp only [Act.put, List.getElem_toArray, List.getElem_cons_zero, List.getElem_cons_succ, List.setIfInBounds_toArray, List.set_cons_zero, List.set_cons_succ]
      refine wpAnyH_take (i := 47) (v := ?_) rfl (by kernel_rfl) (by kernel_rfl) (by kernel_rfl) (fun _ _ _ h => h) (Or.inl ⟨by rfl, ?_⟩) (by assumption) ?_
      rotate_left 1
      · intro w _; go_simp; try with_reducible rfl
      try simp only [Act.put, List.getElem_toArray, List.getElem_cons_zero, List.getElem_cons_succ, List.setIfInBounds_toArray, List.set_cons_zero, List.set_cons_succ]
      refine wpAnyH_take (i := 48) (v := ?_) rfl (by kernel_rfl) (by kernel_rfl) (by kernel_rfl) (fun _ _ _ h => h) (Or.inl ⟨by rfl, ?_⟩) (by assumption) ?_
      rotate_left 1
      · intro w _; go_simp; try with_reducible rfl
      try simp only [Act.put, List.getElem_toArray, List.getElem_cons_zero, List.getElem_cons_succ, List.setIfInBounds_toArray, List.set_cons_zero, List.set_cons_succ]
      refine wpAnyH_take (i := 49) (v := ?_) rfl (by kernel_rfl) (by kernel_rfl) (by kernel_rfl) (fun _ _ _ h => h) (Or.inl ⟨by rfl, ?_⟩) (by assumption) ?_
      rotate_left 1
      · intro w _; go_simp; try with_reducible rfl
      try simp only [Act.put, List.getElem_toArray, List.getElem_cons_zero, List.getElem_cons_succ, List.setIfInBounds_toArray, List.set_cons_zero, List.set_cons_succ]
      refine wpAnyH_done (by kernel_rfl) ?_ _
      go_wp2_with fail
      go_ret
      exact ⟨rfl, hHeld.out.1⟩
    refine AllReadyH.cons rfl (fun K hK => ?_) AllReadyH.nil
    go_simp
    refine nameW (fun w604 hW => ?_)
    have R4 : Hid (Ri w604 (some ⟨w60.heap.size, 0, none⟩) 1 [(k, a, b)]) := by
      rw [hW]; exact ri_new w60 (k, a, b) HX.out
    have B4 : Hid (Below w6.heap.size w6 w604) := by
      rw [hW]; exact B0.out.alloc B0.out.size _
    have O0 : Hid (w604.ownsRow w6.heap.size 47 3 (.slice (some ⟨w6.heap.size, 0, none⟩) 0 0) 0 (cei [])) := by
      rw [hW]; exact own_below O0.out new1 (Nat.le_refl _)
    have hlt : w6.heap.size < w60.heap.size := h60
    clear hW
    refine hK.out _ _ (Lib.hid (S6.out.call B4.out)) (fun hHeld => ?_)
    clear hK K
    try simp only [Act.put, List.getElem_toArray, List.getElem_cons_zero, List.getElem_cons_succ, List.setIfInBounds_toArray, List.set_cons_zero, List.set_cons_succ]
    refine wpAnyH_ready (rs := [2]) (by kernel_rfl) (by simp) ?_
    refine AllReadyH.cons rfl (fun K hK => ?_) AllReadyH.nil
    refine step_append_ri rfl (.tmp 41) (.tmp 42) rfl w6.heap.size _ 0 [] rfl O0.out _ L.length c L rfl hHeld.out.2.2.2.1 rfl (by omega) B4.out.size ?_
    intro A7 c7 w6042 ho hg hb
    simp only [Nat.zero_add, List.nil_append] at ho ⊢
    have O2 := Lib.hid ho
    have B2 := Lib.hid (B4.out.trans hb)
    have R4 := Lib.hid (R4.out.grown hg (fun z hz => by injection hz with hz; subst hz; intro h; injection h with h; (try dsimp only at h); omega))
    clear ho hg hb
    refine hK.out _ _ (Lib.hid (S6.out.call B2.out)) (fun hHeld => ?_)
    clear hK K
    try simp only [Act.put, List.getElem_toArray, List.getElem_cons_zero, List.getElem_cons_succ, List.setIfInBounds_toArray, List.set_cons_zero, List.set_cons_succ]
    refine wpAnyH_ready (rs := [5]) (by kernel_rfl) (by simp) ?_
    refine AllReadyH.cons rfl (fun K hK => ?_) AllReadyH.nil
    refine step_append_ri rfl (.tmp 43) (.tmp 45) rfl w6.heap.size _ L.length L rfl O2.out _ 1 1 [(k, a, b)] rfl R4.out rfl (by omega) B2.out.size ?_
    intro A9 c9 w9 ho hg hb
    have O9 := Lib.hid ho
    have B9 := Lib.hid (B2.out.trans hb)
    clear ho hg hb
    refine hK.out _ _ (Lib.hid (S6.out.call B9.out)) (fun hHeld => ?_)
    clear hK K
    try simp only [Act.put, List.getElem_toArray, List.getElem_cons_zero, List.getElem_cons_succ, List.setIfInBounds_toArray, List.set_cons_zero, List.set_cons_succ]
    refine wpAnyH_take (i := 6) (v := ?_) rfl (by kernel_rfl) (by kernel_rfl) (by kernel_rfl) (fun _ _ _ h => h) (Or.inl ⟨by rfl, ?_⟩) (by assumption) ?_
    rotate_left 1
    · intro w _; go_simp; try with_reducible rfl
    try simp only [Act.put, List.getElem_toArray, List.getElem_cons_zero, List.getElem_cons_succ, List.setIfInBounds_toArray, List.set_cons_zero, List.set_cons_succ]
    refine wpAnyH_done (by kernel_rfl) ?_ _
    have R9 := Lib.hid (Ri.of_own O9.out (fun u hu => by
      rcases List.mem_append.1 hu with hu | hu
      · exact HOK.out u hu
      · rw [List.mem_singleton.1 hu]; exact HX.out)).1
    have S9 := Lib.hid ((hHeld.out).add (fT A9 c9 (L ++ [(k, a, b)])) R9.out)
    clear hHeld O9 B9 R9
    go_wp2_with fail
    refine (KB _ _ (L.length + 1) (L ++ [(k, a, b)]) _ S9.out.2.2.2.2.2.1 S9.out.2.1 (by simp) (by omega)).mono ?_
    rintro e w10 ⟨A10, c10, rfl, ho10, hb10⟩
    rw [HC.out.1] at ho10 ⊢
    rw [HC.out.2.1]
    have S10 := Lib.hid ((S9.out.call hb10).add (fR A10 c10 C) (own_rd ho10 HC.out.2.2))
    clear S9 ho10 hb10
    have cq10 := S10.out.2.1.le
    go_wp2_with fail
    refine (KM _ _ (L.length + 1) (L ++ [(k, a, b)]) _ S10.out.2.2.2.2.2.2.1 S10.out.2.2.1 (by simp)).mono ?_
    rintro e w11 ⟨rfl, hb11⟩
    rw [HV2.out]
    have S11 := Lib.hid (S10.out.call hb11)
    clear S10 hb11
    have l3 : 0 < B.length := by omega
    have hlC : C.length = B.length + (opr (k, a, b)).length := by rw [HCL.out, HBD.out]; simp; omega
    have hox := (opr_len (k, a, b)).1
    have lCB : B.length < C.length := by omega
    have l10 : 0 < C.length := by omega
    obtain ⟨ad10, rfl, -⟩ := S11.out.2.1.at_ l10
    obtain ⟨ad3, rfl, -⟩ := S11.out.2.2.2.1.at_ l3
    have hC0 : (C[0]?.getD 0 : Int) = (L.length : Int) + 1 := by rw [HCL.out]; rfl
    have hB0 : (B[0]?.getD 0 : Int) = (L.length : Int) := by rw [HBD.out]; rfl
    have hCn : (C[B.length]?.getD 0 : Int) = k := by
      rw [HCL.out, HBD.out, List.length_cons, List.getElem?_cons_succ, List.getElem?_append_right (Nat.le_refl _), Nat.sub_self]
      rfl
    have cb10 := S11.out.2.1.le
    have cb3 := S11.out.2.2.2.1.le
    obtain ⟨N, hN⟩ : ∃ N, (L.flatMap opr).length = N := ⟨_, rfl⟩
    have hBN : B.length = N + 1 := by rw [HBD.out, List.length_cons, hN]
    obtain ⟨Ax, cx, hsl1, hr1⟩ := slice_run (some ad10) c10 C 1 B.length (by omega) (by omega) cb10
    obtain ⟨Ay, cy, hsl2, hr2⟩ := slice_run_l (some ad3) c3 B 1 (by omega) cb3
    have e1 : (C.drop 1).take (B.length - 1) = L.flatMap opr := by rw [HCL.out, hBN, ← hN]; simp
    have e2 : B.drop 1 = L.flatMap opr := by rw [HBD.out]; rfl
    rw [e1] at hr1
    rw [e2] at hr2
    have e3 : B.length - 1 = N := by omega
    rw [e3] at hsl1 hsl2
    replace hsl1 : ∀ wx : World, (Instr.slice 24 (.slice (some ad10) C.length c10) (some (.int .i64 1)) (some (.int .i64 (B.length : Int))) none).run Tryd.prog wx = .ok (.slice Ax N cx) wx := hsl1
    replace hsl2 : ∀ wx : World, (Instr.slice 24 (.slice (some ad3) B.length c3) (some (.int .i64 1)) none none).run Tryd.prog wx = .ok (.slice Ay N cy) wx := hsl2
    obtain ⟨s, hs⟩ : ∃ s, strOfNums (L.flatMap opr) = s := ⟨_, rfl⟩
    have HS := Lib.hid hs
    have HN := Lib.hid (And.intro hN trivial)
    have HR1 := Lib.hid hr1
    have HR2 := Lib.hid hr2
    have HSL1 := Lib.hid hsl1
    have HSL2 := Lib.hid hsl2
    have j1 : ((L.length : Int) + 1) ≤ 200 := by omega
    have j2 : (B.length : Int) < (C.length : Int) := by omega
    have j3 : (0 : Int) < (C.length : Int) := by omega
    have j4 : (0 : Int) < (B.length : Int) := by omega
    have j5 : IntKind.i64.wrap (L.length : Int) = (L.length : Int) := IntWalk.i64_in _ (by omega)
    clear hs hN hr1 hr2 e1 e2 e3 hBN hsl1 hsl2 hlC hox
    go_upto_region 12 with (fail)
    have hsl1 := HSL1.out
    have hsl2 := HSL2.out
    refine wp_region_held_drew (S := fun w' => Hid (Sx w w' [fR (some ad10) c10 C, fT A9 c9 (L ++ [(k, a, b)]), fR (some ad3) c3 B, fI w.heap.size k a b, fT A c L, F])) (by kernel_rfl) (Hsx.drew S11) (fun hHeld => ?_)
    refine wpAnyH_take (i := 0) (v := ?_) rfl (by kernel_rfl) (by kernel_rfl) (by kernel_rfl) (fun _ _ _ h => h) (Or.inl ⟨by rfl, ?_⟩) (by assumption) ?_
    rotate_left 1
    · intro w _; go_simp; try with_reducible rfl
    try simp only [Act.put, List.getElem_toArray, List.getElem_cons_zero, List.getElem_cons_succ, List.setIfInBounds_toArray, List.set_cons_zero, List.set_cons_succ]
    refine wpAnyH_take (i := 1) (v := ?_) rfl (by kernel_rfl) (by kernel_rfl) (by kernel_rfl) (fun _ _ _ h => h) (Or.inl ⟨by rfl, ?_⟩) (by assumption) ?_
    rotate_left 1
    · intro w _; go_simp; try with_reducible rfl
    try simp only [Act.put, List.getElem_toArray, List.getElem_cons_zero, List.getElem_cons_succ, List.setIfInBounds_toArray, List.set_cons_zero, List.set_cons_succ]
    refine wpAnyH_take (i := 2) (v := ?_) rfl (by kernel_rfl) (by kernel_rfl) (by kernel_rfl) (fun _ _ _ h => h) (Or.inl ⟨by rfl, ?_⟩) (by assumption) ?_
    rotate_left 1
    · intro w _; go_simp; try with_reducible rfl
    try simp only [Act.put, List.getElem_toArray, List.getElem_cons_zero, List.getElem_cons_succ, List.setIfInBounds_toArray, List.set_cons_zero, List.set_cons_succ]
    refine wpAnyH_take (i := 3) (v := ?_) rfl (by kernel_rfl) (by kernel_rfl) (by kernel_rfl) (fun _ _ _ h => h) (Or.inl ⟨by rfl, ?_⟩) (by assumption) ?_
    rotate_left 1
    · intro w _; go_simp; try with_reducible rfl
    try simp only [Act.put, List.getElem_toArray, List.getElem_cons_zero, List.getElem_cons_succ, List.setIfInBounds_toArray, List.set_cons_zero, List.set_cons_succ]
    refine wpAnyH_take (i := 4) (v := ?_) rfl (by kernel_rfl) (by kernel_rfl) (by kernel_rfl) (fun _ _ _ h => h) (Or.inl ⟨by rfl, ?_⟩) (by assumption) ?_
    rotate_left 1
    · intro w _; go_simp; try with_reducible rfl
    try simp only [Act.put, List.getElem_toArray, List.getElem_cons_zero, List.getElem_cons_succ, List.setIfInBounds_toArray, List.set_cons_zero, List.set_cons_succ]
    refine wpAnyH_take (i := 5) (v := ?_) rfl (by kernel_rfl) (by kernel_rfl) (by kernel_rfl) (fun _ _ _ h => h) (Or.inl ⟨by rfl, ?_⟩) (by assumption) ?_
    rotate_left 1
    · intro w _; go_simp; try with_reducible rfl
    try simp only [Act.put, List.getElem_toArray, List.getElem_cons_zero, List.getElem_cons_succ, List.setIfInBounds_toArray, List.set_cons_zero, List.set_cons_succ]
    refine wpAnyH_take (i := 6) (v := ?_) rfl (by kernel_rfl) (by kernel_rfl) (by kernel_rfl) (fun _ _ _ h => h) (Or.inl ⟨by rfl, ?_⟩) (by assumption) ?_
    rotate_left 1
    · intro w _; go_simp; try with_reducible rfl
    try simp only [Act.put, List.getElem_toArray, List.getElem_cons_zero, List.getElem_cons_succ, List.setIfInBounds_toArray, List.set_cons_zero, List.set_cons_succ]
    refine wpAnyH_take (i := 7) (v := ?_) rfl (by kernel_rfl) (by kernel_rfl) (by kernel_rfl) (fun _ _ _ h => h) (Or.inl ⟨by rfl, ?_⟩) (by assumption) ?_
    rotate_left 1
    · intro w _; go_simp; try with_reducible rfl
    try simp only [Act.put, List.getElem_toArray, List.getElem_cons_zero, List.getElem_cons_succ, List.setIfInBounds_toArray, List.set_cons_zero, List.set_cons_succ]
    refine wpAnyH_take (i := 8) (v := ?_) rfl (by kernel_rfl) (by kernel_rfl) (by kernel_rfl) (fun _ _ _ h => h) (Or.inl ⟨by rfl, ?_⟩) (by assumption) ?_
    rotate_left 1
    · intro w _; go_simp; try with_reducible rfl
    try simp only [Act.put, List.getElem_toArray, List.getElem_cons_zero, List.getElem_cons_succ, List.setIfInBounds_toArray, List.set_cons_zero, List.set_cons_succ]
    refine wpAnyH_take (i := 9) (v := ?_) rfl (by kernel_rfl) (by kernel_rfl) (by kernel_rfl) (fun _ _ _ h => h) (Or.inl ⟨by rfl, ?_⟩) (by assumption) ?_
    rotate_left 1
    · intro w _; go_simp; try with_reducible rfl
    try simp only [Act.put, List.getElem_toArray, List.getElem_cons_zero, List.getElem_cons_succ, List.setIfInBounds_toArray, List.set_cons_zero, List.set_cons_succ]
    refine wpAnyH_take (i := 10) (v := ?_) rfl (by kernel_rfl) (by kernel_rfl) (by kernel_rfl) (fun _ _ _ h => h) (Or.inl ⟨by rfl, ?_⟩) (by assumption) ?_
    rotate_left 1
    · intro w _; go_simp; try with_reducible rfl
    try simp only [Act.put, List.getElem_toArray, List.getElem_cons_zero, List.getElem_cons_succ, List.setIfInBounds_toArray, List.set_cons_zero, List.set_cons_succ]
    refine wpAnyH_take (i := 11) (v := ?_) rfl (by kernel_rfl) (by kernel_rfl) (by kernel_rfl) (fun _ _ _ h => h) (Or.inl ⟨by rfl, ?_⟩) (by assumption) ?_
    rotate_left 1
    · intro w _; go_simp; try with_reducible rfl
    try simp only [Act.put, List.getElem_toArray, List.getElem_cons_zero, List.getElem_cons_succ, List.setIfInBounds_toArray, List.set_cons_zero, List.set_cons_succ]
    refine wpAnyH_take (i := 12) (v := ?_) rfl (by kernel_rfl) (by kernel_rfl) (by kernel_rfl) (fun _ _ _ h => h) (Or.inl ⟨by rfl, ?_⟩) (by assumption) ?_
    rotate_left 1
    · intro w hSw; (try dsimp only at hSw); have s1 := Rd.cz hSw.out.2.1 l10; rw [hC0] at s1; clear hSw; go_simp; try with_reducible rfl
    try simp only [Act.put, List.getElem_toArray, List.getElem_cons_zero, List.getElem_cons_succ, List.setIfInBounds_toArray, List.set_cons_zero, List.set_cons_succ]
    refine wpAnyH_take (i := 13) (v := ?_) rfl (by kernel_rfl) (by kernel_rfl) (by kernel_rfl) (fun _ _ _ h => h) (Or.inl ⟨by rfl, ?_⟩) (by assumption) ?_
    rotate_left 1
    · intro w hSw; (try dsimp only at hSw); obtain ⟨-⟩ := hSw; go_simp; try with_reducible rfl
    try simp only [Act.put, List.getElem_toArray, List.getElem_cons_zero, List.getElem_cons_succ, List.setIfInBounds_toArray, List.set_cons_zero, List.set_cons_succ]
    refine wpAnyH_take (i := 14) (v := ?_) rfl (by kernel_rfl) (by kernel_rfl) (by kernel_rfl) (fun _ _ _ h => h) (Or.inl ⟨by rfl, ?_⟩) (by assumption) ?_
    rotate_left 1
    · intro w _; go_simp; try with_reducible rfl
    try simp only [Act.put, List.getElem_toArray, List.getElem_cons_zero, List.getElem_cons_succ, List.setIfInBounds_toArray, List.set_cons_zero, List.set_cons_succ]
    refine wpAnyH_take (i := 15) (v := ?_) rfl (by kernel_rfl) (by kernel_rfl) (by kernel_rfl) (fun _ _ _ h => h) (Or.inl ⟨by rfl, ?_⟩) (by assumption) ?_
    rotate_left 1
    · intro w _; go_simp; try with_reducible rfl
    try simp only [Act.put, List.getElem_toArray, List.getElem_cons_zero, List.getElem_cons_succ, List.setIfInBounds_toArray, List.set_cons_zero, List.set_cons_succ]
    refine wpAnyH_take (i := 16) (v := ?_) rfl (by kernel_rfl) (by kernel_rfl) (by kernel_rfl) (fun _ _ _ h => h) (Or.inl ⟨by rfl, ?_⟩) (by assumption) ?_
    rotate_left 1
    · intro w _; go_simp; try with_reducible rfl
    try simp only [Act.put, List.getElem_toArray, List.getElem_cons_zero, List.getElem_cons_succ, List.setIfInBounds_toArray, List.set_cons_zero, List.set_cons_succ]
    refine wpAnyH_take (i := 17) (v := ?_) rfl (by kernel_rfl) (by kernel_rfl) (by kernel_rfl) (fun _ _ _ h => h) (Or.inl ⟨by rfl, ?_⟩) (by assumption) ?_
    rotate_left 1
    · intro w _; go_simp; try with_reducible rfl
    try simp only [Act.put, List.getElem_toArray, List.getElem_cons_zero, List.getElem_cons_succ, List.setIfInBounds_toArray, List.set_cons_zero, List.set_cons_succ]
    refine wpAnyH_take (i := 18) (v := ?_) rfl (by kernel_rfl) (by kernel_rfl) (by kernel_rfl) (fun _ _ _ h => h) (Or.inl ⟨by rfl, ?_⟩) (by assumption) ?_
    rotate_left 1
    · intro w _; go_simp; try with_reducible rfl
    try simp only [Act.put, List.getElem_toArray, List.getElem_cons_zero, List.getElem_cons_succ, List.setIfInBounds_toArray, List.set_cons_zero, List.set_cons_succ]
    refine wpAnyH_take (i := 19) (v := ?_) rfl (by kernel_rfl) (by kernel_rfl) (by kernel_rfl) (fun _ _ _ h => h) (Or.inl ⟨by rfl, ?_⟩) (by assumption) ?_
    rotate_left 1
    · intro w _; go_simp; try with_reducible rfl
    try simp only [Act.put, List.getElem_toArray, List.getElem_cons_zero, List.getElem_cons_succ, List.setIfInBounds_toArray, List.set_cons_zero, List.set_cons_succ]
    refine wpAnyH_take (i := 20) (v := ?_) rfl (by kernel_rfl) (by kernel_rfl) (by kernel_rfl) (fun _ _ _ h => h) (Or.inl ⟨by rfl, ?_⟩) (by assumption) ?_
    rotate_left 1
    · intro w _; go_simp; try with_reducible rfl
    try simp only [Act.put, List.getElem_toArray, List.getElem_cons_zero, List.getElem_cons_succ, List.setIfInBounds_toArray, List.set_cons_zero, List.set_cons_succ]
    refine wpAnyH_take (i := 21) (v := ?_) rfl (by kernel_rfl) (by kernel_rfl) (by kernel_rfl) (fun _ _ _ h => h) (Or.inl ⟨by rfl, ?_⟩) (by assumption) ?_
    rotate_left 1
    · intro w _; go_simp; try with_reducible rfl
    try simp only [Act.put, List.getElem_toArray, List.getElem_cons_zero, List.getElem_cons_succ, List.setIfInBounds_toArray, List.set_cons_zero, List.set_cons_succ]
    refine wpAnyH_take (i := 22) (v := ?_) rfl (by kernel_rfl) (by kernel_rfl) (by kernel_rfl) (fun _ _ _ h => h) (Or.inl ⟨by rfl, ?_⟩) (by assumption) ?_
    rotate_left 1
    · intro w hSw; (try dsimp only at hSw); have s1 := Rd.cz hSw.out.2.2.2.1 l3; rw [hB0] at s1; clear hSw; go_simp; try with_reducible rfl
    try simp only [Act.put, List.getElem_toArray, List.getElem_cons_zero, List.getElem_cons_succ, List.setIfInBounds_toArray, List.set_cons_zero, List.set_cons_succ]
    refine wpAnyH_take (i := 23) (v := ?_) rfl (by kernel_rfl) (by kernel_rfl) (by kernel_rfl) (fun _ _ _ h => h) (Or.inl ⟨by rfl, ?_⟩) (by assumption) ?_
    rotate_left 1
    · intro w hSw; (try dsimp only at hSw); obtain ⟨-⟩ := hSw; go_simp; try with_reducible rfl
    try simp only [Act.put, List.getElem_toArray, List.getElem_cons_zero, List.getElem_cons_succ, List.setIfInBounds_toArray, List.set_cons_zero, List.set_cons_succ]
    refine wpAnyH_take (i := 24) (v := ?_) rfl (by kernel_rfl) (by kernel_rfl) (by kernel_rfl) (fun _ _ _ h => h) (Or.inl ⟨by rfl, ?_⟩) (by assumption) ?_
    rotate_left 1
    · intro w _; go_simp; try with_reducible rfl
    try simp only [Act.put, List.getElem_toArray, List.getElem_cons_zero, List.getElem_cons_succ, List.setIfInBounds_toArray, List.set_cons_zero, List.set_cons_succ]
    refine wpAnyH_take (i := 25) (v := ?_) rfl (by kernel_rfl) (by kernel_rfl) (by kernel_rfl) (fun _ _ _ h => h) (Or.inl ⟨by rfl, ?_⟩) (by assumption) ?_
    rotate_left 1
    · intro w _; go_simp; try with_reducible rfl
    try simp only [Act.put, List.getElem_toArray, List.getElem_cons_zero, List.getElem_cons_succ, List.setIfInBounds_toArray, List.set_cons_zero, List.set_cons_succ]
    refine wpAnyH_take (i := 26) (v := ?_) rfl (by kernel_rfl) (by kernel_rfl) (by kernel_rfl) (fun _ _ _ h => h) (Or.inl ⟨by rfl, ?_⟩) (by assumption) ?_
    rotate_left 1
    · intro w _; go_simp; try with_reducible rfl
    try simp only [Act.put, List.getElem_toArray, List.getElem_cons_zero, List.getElem_cons_succ, List.setIfInBounds_toArray, List.set_cons_zero, List.set_cons_succ]
    refine wpAnyH_take (i := 27) (v := ?_) rfl (by kernel_rfl) (by kernel_rfl) (by kernel_rfl) (fun _ _ _ h => h) (Or.inl ⟨by rfl, ?_⟩) (by assumption) ?_
    rotate_left 1
    · intro w _; go_simp; try with_reducible rfl
    try simp only [Act.put, List.getElem_toArray, List.getElem_cons_zero, List.getElem_cons_succ, List.setIfInBounds_toArray, List.set_cons_zero, List.set_cons_succ]
    refine wpAnyH_take (i := 28) (v := ?_) rfl (by kernel_rfl) (by kernel_rfl) (by kernel_rfl) (fun _ _ _ h => h) (Or.inl ⟨by rfl, ?_⟩) (by assumption) ?_
    rotate_left 1
    · intro w _; go_simp; try with_reducible rfl
    try simp only [Act.put, List.getElem_toArray, List.getElem_cons_zero, List.getElem_cons_succ, List.setIfInBounds_toArray, List.set_cons_zero, List.set_cons_succ]
    refine wpAnyH_take (i := 29) (v := ?_) rfl (by kernel_rfl) (by kernel_rfl) (by kernel_rfl) (fun _ _ _ h => h) (Or.inl ⟨by rfl, ?_⟩) (by assumption) ?_
    rotate_left 1
    · intro w _; go_simp; try with_reducible rfl
    try simp only [Act.put, List.getElem_toArray, List.getElem_cons_zero, List.getElem_cons_succ, List.setIfInBounds_toArray, List.set_cons_zero, List.set_cons_succ]
    refine wpAnyH_take (i := 30) (v := ?_) rfl (by kernel_rfl) (by kernel_rfl) (by kernel_rfl) (fun _ _ _ h => h) (Or.inl ⟨by rfl, ?_⟩) (by assumption) ?_
    rotate_left 1
    · intro w _; go_simp; try with_reducible rfl
    try simp only [Act.put, List.getElem_toArray, List.getElem_cons_zero, List.getElem_cons_succ, List.setIfInBounds_toArray, List.set_cons_zero, List.set_cons_succ]
    refine wpAnyH_take (i := 31) (v := ?_) rfl (by kernel_rfl) (by kernel_rfl) (by kernel_rfl) (fun _ _ _ h => h) (Or.inl ⟨by rfl, ?_⟩) (by assumption) ?_
    rotate_left 1
    · intro w _; go_simp; try with_reducible rfl
    try simp only [Act.put, List.getElem_toArray, List.getElem_cons_zero, List.getElem_cons_succ, List.setIfInBounds_toArray, List.set_cons_zero, List.set_cons_succ]
    refine wpAnyH_take (i := 32) (v := ?_) rfl (by kernel_rfl) (by kernel_rfl) (by kernel_rfl) (fun _ _ _ h => h) (Or.inl ⟨by rfl, ?_⟩) (by assumption) ?_
    rotate_left 1
    · intro w _; go_simp; try with_reducible rfl
    try simp only [Act.put, List.getElem_toArray, List.getElem_cons_zero, List.getElem_cons_succ, List.setIfInBounds_toArray, List.set_cons_zero, List.set_cons_succ]
    refine wpAnyH_take (i := 33) (v := ?_) rfl (by kernel_rfl) (by kernel_rfl) (by kernel_rfl) (fun _ _ _ h => h) (Or.inl ⟨by rfl, ?_⟩) (by assumption) ?_
    rotate_left 1
    · intro w hSw; (try dsimp only at hSw); have h5 := HR1.out _ hSw.out.2.1; have h6 := rd_string (P := Tryd.prog) h5 24 9 5 Tryd.underlying24 Tryd.underlying5 Tryd.underlying9; rw [HN.out.1, HS.out] at h6; clear h5 hSw; go_simp; try with_reducible rfl
    try simp only [Act.put, List.getElem_toArray, List.getElem_cons_zero, List.getElem_cons_succ, List.setIfInBounds_toArray, List.set_cons_zero, List.set_cons_succ]
    refine wpAnyH_take (i := 34) (v := ?_) rfl (by kernel_rfl) (by kernel_rfl) (by kernel_rfl) (fun _ _ _ h => h) (Or.inl ⟨by rfl, ?_⟩) (by assumption) ?_
    rotate_left 1
    · intro w _; go_simp; try with_reducible rfl
    try simp only [Act.put, List.getElem_toArray, List.getElem_cons_zero, List.getElem_cons_succ, List.setIfInBounds_toArray, List.set_cons_zero, List.set_cons_succ]
    refine wpAnyH_take (i := 35) (v := ?_) rfl (by kernel_rfl) (by kernel_rfl) (by kernel_rfl) (fun _ _ _ h => h) (Or.inl ⟨by rfl, ?_⟩) (by assumption) ?_
    rotate_left 1
    · intro w _; go_simp; try with_reducible rfl
    try simp only [Act.put, List.getElem_toArray, List.getElem_cons_zero, List.getElem_cons_succ, List.setIfInBounds_toArray, List.set_cons_zero, List.set_cons_succ]
    refine wpAnyH_take (i := 36) (v := ?_) rfl (by kernel_rfl) (by kernel_rfl) (by kernel_rfl) (fun _ _ _ h => h) (Or.inl ⟨by rfl, ?_⟩) (by assumption) ?_
    rotate_left 1
    · intro w hSw; (try dsimp only at hSw); have h5 := HR2.out _ hSw.out.2.2.2.1; have h6 := rd_string (P := Tryd.prog) h5 24 9 5 Tryd.underlying24 Tryd.underlying5 Tryd.underlying9; rw [HN.out.1, HS.out] at h6; clear h5 hSw; go_simp; try with_reducible rfl
    try simp only [Act.put, List.getElem_toArray, List.getElem_cons_zero, List.getElem_cons_succ, List.setIfInBounds_toArray, List.set_cons_zero, List.set_cons_succ]
    refine wpAnyH_take (i := 37) (v := ?_) rfl (by kernel_rfl) (by kernel_rfl) (by kernel_rfl) (fun _ _ _ h => h) (Or.inl ⟨by rfl, ?_⟩) (by assumption) ?_
    rotate_left 1
    · intro w _; go_simp; try with_reducible rfl
    try simp only [Act.put, List.getElem_toArray, List.getElem_cons_zero, List.getElem_cons_succ, List.setIfInBounds_toArray, List.set_cons_zero, List.set_cons_succ]
    refine wpAnyH_take (i := 38) (v := ?_) rfl (by kernel_rfl) (by kernel_rfl) (by kernel_rfl) (fun _ _ _ h => h) (Or.inl ⟨by rfl, ?_⟩) (by assumption) ?_
    rotate_left 1
    · intro w _; go_simp; try with_reducible rfl
    try simp only [Act.put, List.getElem_toArray, List.getElem_cons_zero, List.getElem_cons_succ, List.setIfInBounds_toArray, List.set_cons_zero, List.set_cons_succ]
    refine wpAnyH_take (i := 39) (v := ?_) rfl (by kernel_rfl) (by kernel_rfl) (by kernel_rfl) (fun _ _ _ h => h) (Or.inl ⟨by rfl, ?_⟩) (by assumption) ?_
    rotate_left 1
    · intro w _; go_simp; try with_reducible rfl
    try simp only [Act.put, List.getElem_toArray, List.getElem_cons_zero, List.getElem_cons_succ, List.setIfInBounds_toArray, List.set_cons_zero, List.set_cons_succ]
    refine wpAnyH_take (i := 40) (v := ?_) rfl (by kernel_rfl) (by kernel_rfl) (by kernel_rfl) (fun _ _ _ h => h) (Or.inl ⟨by rfl, ?_⟩) (by assumption) ?_
    rotate_left 1
    · intro w _; go_simp; try with_reducible rfl
    try simp only [Act.put, List.getElem_toArray, List.getElem_cons_zero, List.getElem_cons_succ, List.setIfInBounds_toArray, List.set_cons_zero, List.set_cons_succ]
    refine wpAnyH_take (i := 41) (v := ?_) rfl (by kernel_rfl) (by kernel_rfl) (by kernel_rfl) (fun _ _ _ h => h) (Or.inl ⟨by rfl, ?_⟩) (by assumption) ?_
    rotate_left 1
    · intro w _; go_simp; try with_reducible rfl
    try simp only [Act.put, List.getElem_toArray, List.getElem_cons_zero, List.getElem_cons_succ, List.setIfInBounds_toArray, List.set_cons_zero, List.set_cons_succ]
    refine wpAnyH_take (i := 42) (v := ?_) rfl (by kernel_rfl) (by kernel_rfl) (by kernel_rfl) (fun _ _ _ h => h) (Or.inl ⟨by rfl, ?_⟩) (by assumption) ?_
    rotate_left 1
    · intro w _; go_simp; try with_reducible rfl
    try simp only [Act.put, List.getElem_toArray, List.getElem_cons_zero, List.getElem_cons_succ, List.setIfInBounds_toArray, List.set_cons_zero, List.set_cons_succ]
    refine wpAnyH_take (i := 43) (v := ?_) rfl (by kernel_rfl) (by kernel_rfl) (by kernel_rfl) (fun _ _ _ h => h) (Or.inl ⟨by rfl, ?_⟩) (by assumption) ?_
    rotate_left 1
    · intro w _; go_simp; try with_reducible rfl
    try simp only [Act.put, List.getElem_toArray, List.getElem_cons_zero, List.getElem_cons_succ, List.setIfInBounds_toArray, List.set_cons_zero, List.set_cons_succ]
    refine wpAnyH_take (i := 44) (v := ?_) rfl (by kernel_rfl) (by kernel_rfl) (by kernel_rfl) (fun _ _ _ h => h) (Or.inl ⟨by rfl, ?_⟩) (by assumption) ?_
    rotate_left 1
    · intro w hSw; (try dsimp only at hSw); have s1 := Rd.cn hSw.out.2.1 B.length lCB; rw [hCn] at s1; clear hSw; go_simp; try with_reducible rfl
    try simp only [Act.put, List.getElem_toArray, List.getElem_cons_zero, List.getElem_cons_succ, List.setIfInBounds_toArray, List.set_cons_zero, List.set_cons_succ]
    refine wpAnyH_take (i := 45) (v := ?_) rfl (by kernel_rfl) (by kernel_rfl) (by kernel_rfl) (fun _ _ _ h => h) (Or.inl ⟨by rfl, ?_⟩) (by assumption) ?_
    rotate_left 1
    · intro w _; go_simp; try with_reducible rfl
    try simp only [Act.put, List.getElem_toArray, List.getElem_cons_zero, List.getElem_cons_succ, List.setIfInBounds_toArray, List.set_cons_zero, List.set_cons_succ]
    refine wpAnyH_take (i := 46) (v := ?_) rfl (by kernel_rfl) (by kernel_rfl) (by kernel_rfl) (fun _ _ _ h => h) (Or.inl ⟨by rfl, ?_⟩) (by assumption) ?_
    rotate_left 1
    · intro w hSw; (try dsimp only at hSw); obtain ⟨-, -, -, -, ⟨s0, s1, s2, s3, s4, s5, s6⟩, -⟩ := hSw.out; go_simp; try with_reducible rfl
    try simp only [Act.put, List.getElem_toArray, List.getElem_cons_zero, List.getElem_cons_succ, List.setIfInBounds_toArray, List.set_cons_zero, List.set_cons_succ]
    refine wpAnyH_take (i := 47) (v := ?_) rfl (by kernel_rfl) (by kernel_rfl) (by kernel_rfl) (fun _ _ _ h => h) (Or.inl ⟨by rfl, ?_⟩) (by assumption) ?_
    rotate_left 1
    · intro w _; go_simp; try with_reducible rfl
    try simp only [Act.put, List.getElem_toArray, List.getElem_cons_zero, List.getElem_cons_succ, List.setIfInBounds_toArray, List.set_cons_zero, List.set_cons_succ]
    refine wpAnyH_take (i := 48) (v := ?_) rfl (by kernel_rfl) (by kernel_rfl) (by kernel_rfl) (fun _ _ _ h => h) (Or.inl ⟨by rfl, ?_⟩) (by assumption) ?_
    rotate_left 1
    · intro w _; go_simp; try with_reducible rfl
    try simp only [Act.put, List.getElem_toArray, List.getElem_cons_zero, List.getElem_cons_succ, List.setIfInBounds_toArray, List.set_cons_zero, List.set_cons_succ]
    refine wpAnyH_take (i := 49) (v := ?_) rfl (by kernel_rfl) (by kernel_rfl) (by kernel_rfl) (fun _ _ _ h => h) (Or.inl ⟨by rfl, ?_⟩) (by assumption) ?_
    rotate_left 1
    · intro w _; go_simp; try with_reducible rfl
    try simp only [Act.put, List.getElem_toArray, List.getElem_cons_zero, List.getElem_cons_succ, List.setIfInBounds_toArray, List.set_cons_zero, List.set_cons_succ]
    refine wpAnyH_done (by kernel_rfl) ?_ _
    go_wp2_with fail
    go_ret
    exact ⟨rfl, hHeld.out.1⟩
  refine AllReadyH.cons rfl (fun K hK => ?_) AllReadyH.nil
  go_simp
  refine nameW (fun w64 hW => ?_)
  have R4 : Hid (Ri w64 (some ⟨w6.heap.size, 0, none⟩) 1 [(k, a, b)]) := by
    rw [hW]; exact ri_new w6 (k, a, b) HX.out
  have B4 : Hid (Below w6.heap.size w6 w64) := by
    rw [hW]; exact below_draws new1 1
  have h64 : w6.heap.size < w64.heap.size := by rw [hW]; show w6.heap.size < (w6.alloc _).heap.size; simp
  clear hW
  refine hK.out _ _ (Lib.hid (S6.out.call B4.out)) (fun hHeld => ?_)
  clear hK K
  try simp only [Act.put, List.getElem_toArray, List.getElem_cons_zero, List.getElem_cons_succ, List.setIfInBounds_toArray, List.set_cons_zero, List.set_cons_succ]
  refine wpAnyH_ready (rs := [0]) (by kernel_rfl) (by simp) ?_
  refine AllReadyH.cons rfl (fun K hK => ?_) AllReadyH.nil
  go_simp
  refine nameW (fun w640 hW => ?_)
  have O0 : Hid (w640.ownsRow w6.heap.size 47 3 (.slice (some ⟨w64.heap.size, 0, none⟩) 0 0) 0 (cei [])) := by
    rw [hW]; exact own_base (World.ownsRow_lit (base := w64.heap.size) (e := 47) (size := 3) w64 #[] 0 (Nat.le_refl _) (Nat.zero_le _) rfl) B4.out.size
  have B0 : Hid (Below w6.heap.size w6 w640) := by
    rw [hW]; exact B4.out.alloc B4.out.size _
  have R4 : Hid (Ri w640 (some ⟨w6.heap.size, 0, none⟩) 1 [(k, a, b)]) := by
    rw [hW]; exact R4.out.keep new1
  have hlt : w6.heap.size < w64.heap.size := h64
  clear hW
  refine hK.out _ _ (Lib.hid (S6.out.call B0.out)) (fun hHeld => ?_)
  clear hK K
  try simp only [Act.put, List.getElem_toArray, List.getElem_cons_zero, List.getElem_cons_succ, List.setIfInBounds_toArray, List.set_cons_zero, List.set_cons_succ]
  refine wpAnyH_ready (rs := [2]) (by kernel_rfl) (by simp) ?_
  refine AllReadyH.cons rfl (fun K hK => ?_) AllReadyH.nil
  refine step_append_ri rfl (.tmp 41) (.tmp 42) rfl w6.heap.size _ 0 [] rfl O0.out _ L.length c L rfl hHeld.out.2.2.2.1 rfl (by omega) B0.out.size ?_
  intro A7 c7 w6402 ho hg hb
  simp only [Nat.zero_add, List.nil_append] at ho ⊢
  have O2 := Lib.hid ho
  have B2 := Lib.hid (B0.out.trans hb)
  have R4 := Lib.hid (R4.out.grown hg (fun z hz => by injection hz with hz; subst hz; intro h; injection h with h; (try dsimp only at h); omega))
  clear ho hg hb
  refine hK.out _ _ (Lib.hid (S6.out.call B2.out)) (fun hHeld => ?_)
  clear hK K
  try simp only [Act.put, List.getElem_toArray, List.getElem_cons_zero, List.getElem_cons_succ, List.setIfInBounds_toArray, List.set_cons_zero, List.set_cons_succ]
  refine wpAnyH_ready (rs := [5]) (by kernel_rfl) (by simp) ?_
  refine AllReadyH.cons rfl (fun K hK => ?_) AllReadyH.nil
  refine step_append_ri rfl (.tmp 43) (.tmp 45) rfl w6.heap.size _ L.length L rfl O2.out _ 1 1 [(k, a, b)] rfl R4.out rfl (by omega) B2.out.size ?_
  intro A9 c9 w9 ho hg hb
  have O9 := Lib.hid ho
  have B9 := Lib.hid (B2.out.trans hb)
  clear ho hg hb
  refine hK.out _ _ (Lib.hid (S6.out.call B9.out)) (fun hHeld => ?_)
  clear hK K
  try simp only [Act.put, List.getElem_toArray, List.getElem_cons_zero, List.getElem_cons_succ, List.setIfInBounds_toArray, List.set_cons_zero, List.set_cons_succ]
  refine wpAnyH_take (i := 6) (v := ?_) rfl (by kernel_rfl) (by kernel_rfl) (by kernel_rfl) (fun _ _ _ h => h) (Or.inl ⟨by rfl, ?_⟩) (by assumption) ?_
  rotate_left 1
  · intro w _; go_simp; try with_reducible rfl
  try simp only [Act.put, List.getElem_toArray, List.getElem_cons_zero, List.getElem_cons_succ, List.setIfInBounds_toArray, List.set_cons_zero, List.set_cons_succ]
  refine wpAnyH_done (by kernel_rfl) ?_ _
  have R9 := Lib.hid (Ri.of_own O9.out (fun u hu => by
    rcases List.mem_append.1 hu with hu | hu
    · exact HOK.out u hu
    · rw [List.mem_singleton.1 hu]; exact HX.out)).1
  have S9 := Lib.hid ((hHeld.out).add (fT A9 c9 (L ++ [(k, a, b)])) R9.out)
  clear hHeld O9 B9 R9
  go_wp2_with fail
  refine (KB _ _ (L.length + 1) (L ++ [(k, a, b)]) _ S9.out.2.2.2.2.2.1 S9.out.2.1 (by simp) (by omega)).mono ?_
  rintro e w10 ⟨A10, c10, rfl, ho10, hb10⟩
  rw [HC.out.1] at ho10 ⊢
  rw [HC.out.2.1]
  have S10 := Lib.hid ((S9.out.call hb10).add (fR A10 c10 C) (own_rd ho10 HC.out.2.2))
  clear S9 ho10 hb10
  have cq10 := S10.out.2.1.le
  go_wp2_with fail
  refine (KM _ _ (L.length + 1) (L ++ [(k, a, b)]) _ S10.out.2.2.2.2.2.2.1 S10.out.2.2.1 (by simp)).mono ?_
  rintro e w11 ⟨rfl, hb11⟩
  rw [HV2.out]
  have S11 := Lib.hid (S10.out.call hb11)
  clear S10 hb11
  have l3 : 0 < B.length := by omega
  have hlC : C.length = B.length + (opr (k, a, b)).length := by rw [HCL.out, HBD.out]; simp; omega
  have hox := (opr_len (k, a, b)).1
  have lCB : B.length < C.length := by omega
  have l10 : 0 < C.length := by omega
  obtain ⟨ad10, rfl, -⟩ := S11.out.2.1.at_ l10
  obtain ⟨ad3, rfl, -⟩ := S11.out.2.2.2.1.at_ l3
  have hC0 : (C[0]?.getD 0 : Int) = (L.length : Int) + 1 := by rw [HCL.out]; rfl
  have hB0 : (B[0]?.getD 0 : Int) = (L.length : Int) := by rw [HBD.out]; rfl
  have hCn : (C[B.length]?.getD 0 : Int) = k := by
    rw [HCL.out, HBD.out, List.length_cons, List.getElem?_cons_succ, List.getElem?_append_right (Nat.le_refl _), Nat.sub_self]
    rfl
  have cb10 := S11.out.2.1.le
  have cb3 := S11.out.2.2.2.1.le
  obtain ⟨N, hN⟩ : ∃ N, (L.flatMap opr).length = N := ⟨_, rfl⟩
  have hBN : B.length = N + 1 := by rw [HBD.out, List.length_cons, hN]
  obtain ⟨Ax, cx, hsl1, hr1⟩ := slice_run (some ad10) c10 C 1 B.length (by omega) (by omega) cb10
  obtain ⟨Ay, cy, hsl2, hr2⟩ := slice_run_l (some ad3) c3 B 1 (by omega) cb3
  have e1 : (C.drop 1).take (B.length - 1) = L.flatMap opr := by rw [HCL.out, hBN, ← hN]; simp
  have e2 : B.drop 1 = L.flatMap opr := by rw [HBD.out]; rfl
  rw [e1] at hr1
  rw [e2] at hr2
  have e3 : B.length - 1 = N := by omega
  rw [e3] at hsl1 hsl2
  replace hsl1 : ∀ wx : World, (Instr.slice 24 (.slice (some ad10) C.length c10) (some (.int .i64 1)) (some (.int .i64 (B.length : Int))) none).run Tryd.prog wx = .ok (.slice Ax N cx) wx := hsl1
  replace hsl2 : ∀ wx : World, (Instr.slice 24 (.slice (some ad3) B.length c3) (some (.int .i64 1)) none none).run Tryd.prog wx = .ok (.slice Ay N cy) wx := hsl2
  obtain ⟨s, hs⟩ : ∃ s, strOfNums (L.flatMap opr) = s := ⟨_, rfl⟩
  have HS := Lib.hid hs
  have HN := Lib.hid (And.intro hN trivial)
  have HR1 := Lib.hid hr1
  have HR2 := Lib.hid hr2
  have HSL1 := Lib.hid hsl1
  have HSL2 := Lib.hid hsl2
  have j1 : ((L.length : Int) + 1) ≤ 200 := by omega
  have j2 : (B.length : Int) < (C.length : Int) := by omega
  have j3 : (0 : Int) < (C.length : Int) := by omega
  have j4 : (0 : Int) < (B.length : Int) := by omega
  have j5 : IntKind.i64.wrap (L.length : Int) = (L.length : Int) := IntWalk.i64_in _ (by omega)
  clear hs hN hr1 hr2 e1 e2 e3 hBN hsl1 hsl2 hlC hox
  go_upto_region 12 with (fail)
  have hsl1 := HSL1.out
  have hsl2 := HSL2.out
  refine wp_region_held_drew (S := fun w' => Hid (Sx w w' [fR (some ad10) c10 C, fT A9 c9 (L ++ [(k, a, b)]), fR (some ad3) c3 B, fI w.heap.size k a b, fT A c L, F])) (by kernel_rfl) (Hsx.drew S11) (fun hHeld => ?_)
  refine wpAnyH_take (i := 0) (v := ?_) rfl (by kernel_rfl) (by kernel_rfl) (by kernel_rfl) (fun _ _ _ h => h) (Or.inl ⟨by rfl, ?_⟩) (by assumption) ?_
  rotate_left 1
  · intro w _; go_simp; try with_reducible rfl
  try simp only [Act.put, List.getElem_toArray, List.getElem_cons_zero, List.getElem_cons_succ, List.setIfInBounds_toArray, List.set_cons_zero, List.set_cons_succ]
  refine wpAnyH_take (i := 1) (v := ?_) rfl (by kernel_rfl) (by kernel_rfl) (by kernel_rfl) (fun _ _ _ h => h) (Or.inl ⟨by rfl, ?_⟩) (by assumption) ?_
  rotate_left 1
  · intro w _; go_simp; try with_reducible rfl
  try simp only [Act.put, List.getElem_toArray, List.getElem_cons_zero, List.getElem_cons_succ, List.setIfInBounds_toArray, List.set_cons_zero, List.set_cons_succ]
  refine wpAnyH_take (i := 2) (v := ?_) rfl (by kernel_rfl) (by kernel_rfl) (by kernel_rfl) (fun _ _ _ h => h) (Or.inl ⟨by rfl, ?_⟩) (by assumption) ?_
  rotate_left 1
  · intro w _; go_simp; try with_reducible rfl
  try simp only [Act.put, List.getElem_toArray, List.getElem_cons_zero, List.getElem_cons_succ, List.setIfInBounds_toArray, List.set_cons_zero, List.set_cons_succ]
  refine wpAnyH_take (i := 3) (v := ?_) rfl (by kernel_rfl) (by kernel_rfl) (by kernel_rfl) (fun _ _ _ h => h) (Or.inl ⟨by rfl, ?_⟩) (by assumption) ?_
  rotate_left 1
  · intro w _; go_simp; try with_reducible rfl
  try simp only [Act.put, List.getElem_toArray, List.getElem_cons_zero, List.getElem_cons_succ, List.setIfInBounds_toArray, List.set_cons_zero, List.set_cons_succ]
  refine wpAnyH_take (i := 4) (v := ?_) rfl (by kernel_rfl) (by kernel_rfl) (by kernel_rfl) (fun _ _ _ h => h) (Or.inl ⟨by rfl, ?_⟩) (by assumption) ?_
  rotate_left 1
  · intro w _; go_simp; try with_reducible rfl
  try simp only [Act.put, List.getElem_toArray, List.getElem_cons_zero, List.getElem_cons_succ, List.setIfInBounds_toArray, List.set_cons_zero, List.set_cons_succ]
  refine wpAnyH_take (i := 5) (v := ?_) rfl (by kernel_rfl) (by kernel_rfl) (by kernel_rfl) (fun _ _ _ h => h) (Or.inl ⟨by rfl, ?_⟩) (by assumption) ?_
  rotate_left 1
  · intro w _; go_simp; try with_reducible rfl
  try simp only [Act.put, List.getElem_toArray, List.getElem_cons_zero, List.getElem_cons_succ, List.setIfInBounds_toArray, List.set_cons_zero, List.set_cons_succ]
  refine wpAnyH_take (i := 6) (v := ?_) rfl (by kernel_rfl) (by kernel_rfl) (by kernel_rfl) (fun _ _ _ h => h) (Or.inl ⟨by rfl, ?_⟩) (by assumption) ?_
  rotate_left 1
  · intro w _; go_simp; try with_reducible rfl
  try simp only [Act.put, List.getElem_toArray, List.getElem_cons_zero, List.getElem_cons_succ, List.setIfInBounds_toArray, List.set_cons_zero, List.set_cons_succ]
  refine wpAnyH_take (i := 7) (v := ?_) rfl (by kernel_rfl) (by kernel_rfl) (by kernel_rfl) (fun _ _ _ h => h) (Or.inl ⟨by rfl, ?_⟩) (by assumption) ?_
  rotate_left 1
  · intro w _; go_simp; try with_reducible rfl
  try simp only [Act.put, List.getElem_toArray, List.getElem_cons_zero, List.getElem_cons_succ, List.setIfInBounds_toArray, List.set_cons_zero, List.set_cons_succ]
  refine wpAnyH_take (i := 8) (v := ?_) rfl (by kernel_rfl) (by kernel_rfl) (by kernel_rfl) (fun _ _ _ h => h) (Or.inl ⟨by rfl, ?_⟩) (by assumption) ?_
  rotate_left 1
  · intro w _; go_simp; try with_reducible rfl
  try simp only [Act.put, List.getElem_toArray, List.getElem_cons_zero, List.getElem_cons_succ, List.setIfInBounds_toArray, List.set_cons_zero, List.set_cons_succ]
  refine wpAnyH_take (i := 9) (v := ?_) rfl (by kernel_rfl) (by kernel_rfl) (by kernel_rfl) (fun _ _ _ h => h) (Or.inl ⟨by rfl, ?_⟩) (by assumption) ?_
  rotate_left 1
  · intro w _; go_simp; try with_reducible rfl
  try simp only [Act.put, List.getElem_toArray, List.getElem_cons_zero, List.getElem_cons_succ, List.setIfInBounds_toArray, List.set_cons_zero, List.set_cons_succ]
  refine wpAnyH_take (i := 10) (v := ?_) rfl (by kernel_rfl) (by kernel_rfl) (by kernel_rfl) (fun _ _ _ h => h) (Or.inl ⟨by rfl, ?_⟩) (by assumption) ?_
  rotate_left 1
  · intro w _; go_simp; try with_reducible rfl
  try simp only [Act.put, List.getElem_toArray, List.getElem_cons_zero, List.getElem_cons_succ, List.setIfInBounds_toArray, List.set_cons_zero, List.set_cons_succ]
  refine wpAnyH_take (i := 11) (v := ?_) rfl (by kernel_rfl) (by kernel_rfl) (by kernel_rfl) (fun _ _ _ h => h) (Or.inl ⟨by rfl, ?_⟩) (by assumption) ?_
  rotate_left 1
  · intro w _; go_simp; try with_reducible rfl
  try simp only [Act.put, List.getElem_toArray, List.getElem_cons_zero, List.getElem_cons_succ, List.setIfInBounds_toArray, List.set_cons_zero, List.set_cons_succ]
  refine wpAnyH_take (i := 12) (v := ?_) rfl (by kernel_rfl) (by kernel_rfl) (by kernel_rfl) (fun _ _ _ h => h) (Or.inl ⟨by rfl, ?_⟩) (by assumption) ?_
  rotate_left 1
  · intro w hSw; (try dsimp only at hSw); have s1 := Rd.cz hSw.out.2.1 l10; rw [hC0] at s1; clear hSw; go_simp; try with_reducible rfl
  try simp only [Act.put, List.getElem_toArray, List.getElem_cons_zero, List.getElem_cons_succ, List.setIfInBounds_toArray, List.set_cons_zero, List.set_cons_succ]
  refine wpAnyH_take (i := 13) (v := ?_) rfl (by kernel_rfl) (by kernel_rfl) (by kernel_rfl) (fun _ _ _ h => h) (Or.inl ⟨by rfl, ?_⟩) (by assumption) ?_
  rotate_left 1
  · intro w hSw; (try dsimp only at hSw); obtain ⟨-⟩ := hSw; go_simp; try with_reducible rfl
  try simp only [Act.put, List.getElem_toArray, List.getElem_cons_zero, List.getElem_cons_succ, List.setIfInBounds_toArray, List.set_cons_zero, List.set_cons_succ]
  refine wpAnyH_take (i := 14) (v := ?_) rfl (by kernel_rfl) (by kernel_rfl) (by kernel_rfl) (fun _ _ _ h => h) (Or.inl ⟨by rfl, ?_⟩) (by assumption) ?_
  rotate_left 1
  · intro w _; go_simp; try with_reducible rfl
  try simp only [Act.put, List.getElem_toArray, List.getElem_cons_zero, List.getElem_cons_succ, List.setIfInBounds_toArray, List.set_cons_zero, List.set_cons_succ]
  refine wpAnyH_take (i := 15) (v := ?_) rfl (by kernel_rfl) (by kernel_rfl) (by kernel_rfl) (fun _ _ _ h => h) (Or.inl ⟨by rfl, ?_⟩) (by assumption) ?_
  rotate_left 1
  · intro w _; go_simp; try with_reducible rfl
  try simp only [Act.put, List.getElem_toArray, List.getElem_cons_zero, List.getElem_cons_succ, List.setIfInBounds_toArray, List.set_cons_zero, List.set_cons_succ]
  refine wpAnyH_take (i := 16) (v := ?_) rfl (by kernel_rfl) (by kernel_rfl) (by kernel_rfl) (fun _ _ _ h => h) (Or.inl ⟨by rfl, ?_⟩) (by assumption) ?_
  rotate_left 1
  · intro w _; go_simp; try with_reducible rfl
  try simp only [Act.put, List.getElem_toArray, List.getElem_cons_zero, List.getElem_cons_succ, List.setIfInBounds_toArray, List.set_cons_zero, List.set_cons_succ]
  refine wpAnyH_take (i := 17) (v := ?_) rfl (by kernel_rfl) (by kernel_rfl) (by kernel_rfl) (fun _ _ _ h => h) (Or.inl ⟨by rfl, ?_⟩) (by assumption) ?_
  rotate_left 1
  · intro w _; go_simp; try with_reducible rfl
  try simp only [Act.put, List.getElem_toArray, List.getElem_cons_zero, List.getElem_cons_succ, List.setIfInBounds_toArray, List.set_cons_zero, List.set_cons_succ]
  refine wpAnyH_take (i := 18) (v := ?_) rfl (by kernel_rfl) (by kernel_rfl) (by kernel_rfl) (fun _ _ _ h => h) (Or.inl ⟨by rfl, ?_⟩) (by assumption) ?_
  rotate_left 1
  · intro w _; go_simp; try with_reducible rfl
  try simp only [Act.put, List.getElem_toArray, List.getElem_cons_zero, List.getElem_cons_succ, List.setIfInBounds_toArray, List.set_cons_zero, List.set_cons_succ]
  refine wpAnyH_take (i := 19) (v := ?_) rfl (by kernel_rfl) (by kernel_rfl) (by kernel_rfl) (fun _ _ _ h => h) (Or.inl ⟨by rfl, ?_⟩) (by assumption) ?_
  rotate_left 1
  · intro w _; go_simp; try with_reducible rfl
  try simp only [Act.put, List.getElem_toArray, List.getElem_cons_zero, List.getElem_cons_succ, List.setIfInBounds_toArray, List.set_cons_zero, List.set_cons_succ]
  refine wpAnyH_take (i := 20) (v := ?_) rfl (by kernel_rfl) (by kernel_rfl) (by kernel_rfl) (fun _ _ _ h => h) (Or.inl ⟨by rfl, ?_⟩) (by assumption) ?_
  rotate_left 1
  · intro w _; go_simp; try with_reducible rfl
  try simp only [Act.put, List.getElem_toArray, List.getElem_cons_zero, List.getElem_cons_succ, List.setIfInBounds_toArray, List.set_cons_zero, List.set_cons_succ]
  refine wpAnyH_take (i := 21) (v := ?_) rfl (by kernel_rfl) (by kernel_rfl) (by kernel_rfl) (fun _ _ _ h => h) (Or.inl ⟨by rfl, ?_⟩) (by assumption) ?_
  rotate_left 1
  · intro w _; go_simp; try with_reducible rfl
  try simp only [Act.put, List.getElem_toArray, List.getElem_cons_zero, List.getElem_cons_succ, List.setIfInBounds_toArray, List.set_cons_zero, List.set_cons_succ]
  refine wpAnyH_take (i := 22) (v := ?_) rfl (by kernel_rfl) (by kernel_rfl) (by kernel_rfl) (fun _ _ _ h => h) (Or.inl ⟨by rfl, ?_⟩) (by assumption) ?_
  rotate_left 1
  · intro w hSw; (try dsimp only at hSw); have s1 := Rd.cz hSw.out.2.2.2.1 l3; rw [hB0] at s1; clear hSw; go_simp; try with_reducible rfl
  try simp only [Act.put, List.getElem_toArray, List.getElem_cons_zero, List.getElem_cons_succ, List.setIfInBounds_toArray, List.set_cons_zero, List.set_cons_succ]
  refine wpAnyH_take (i := 23) (v := ?_) rfl (by kernel_rfl) (by kernel_rfl) (by kernel_rfl) (fun _ _ _ h => h) (Or.inl ⟨by rfl, ?_⟩) (by assumption) ?_
  rotate_left 1
  · intro w hSw; (try dsimp only at hSw); obtain ⟨-⟩ := hSw; go_simp; try with_reducible rfl
  try simp only [Act.put, List.getElem_toArray, List.getElem_cons_zero, List.getElem_cons_succ, List.setIfInBounds_toArray, List.set_cons_zero, List.set_cons_succ]
  refine wpAnyH_take (i := 24) (v := ?_) rfl (by kernel_rfl) (by kernel_rfl) (by kernel_rfl) (fun _ _ _ h => h) (Or.inl ⟨by rfl, ?_⟩) (by assumption) ?_
  rotate_left 1
  · intro w _; go_simp; try with_reducible rfl
  try simp only [Act.put, List.getElem_toArray, List.getElem_cons_zero, List.getElem_cons_succ, List.setIfInBounds_toArray, List.set_cons_zero, List.set_cons_succ]
  refine wpAnyH_take (i := 25) (v := ?_) rfl (by kernel_rfl) (by kernel_rfl) (by kernel_rfl) (fun _ _ _ h => h) (Or.inl ⟨by rfl, ?_⟩) (by assumption) ?_
  rotate_left 1
  · intro w _; go_simp; try with_reducible rfl
  try simp only [Act.put, List.getElem_toArray, List.getElem_cons_zero, List.getElem_cons_succ, List.setIfInBounds_toArray, List.set_cons_zero, List.set_cons_succ]
  refine wpAnyH_take (i := 26) (v := ?_) rfl (by kernel_rfl) (by kernel_rfl) (by kernel_rfl) (fun _ _ _ h => h) (Or.inl ⟨by rfl, ?_⟩) (by assumption) ?_
  rotate_left 1
  · intro w _; go_simp; try with_reducible rfl
  try simp only [Act.put, List.getElem_toArray, List.getElem_cons_zero, List.getElem_cons_succ, List.setIfInBounds_toArray, List.set_cons_zero, List.set_cons_succ]
  refine wpAnyH_take (i := 27) (v := ?_) rfl (by kernel_rfl) (by kernel_rfl) (by kernel_rfl) (fun _ _ _ h => h) (Or.inl ⟨by rfl, ?_⟩) (by assumption) ?_
  rotate_left 1
  · intro w _; go_simp; try with_reducible rfl
  try simp only [Act.put, List.getElem_toArray, List.getElem_cons_zero, List.getElem_cons_succ, List.setIfInBounds_toArray, List.set_cons_zero, List.set_cons_succ]
  refine wpAnyH_take (i := 28) (v := ?_) rfl (by kernel_rfl) (by kernel_rfl) (by kernel_rfl) (fun _ _ _ h => h) (Or.inl ⟨by rfl, ?_⟩) (by assumption) ?_
  rotate_left 1
  · intro w _; go_simp; try with_reducible rfl
  try simp only [Act.put, List.getElem_toArray, List.getElem_cons_zero, List.getElem_cons_succ, List.setIfInBounds_toArray, List.set_cons_zero, List.set_cons_succ]
  refine wpAnyH_take (i := 29) (v := ?_) rfl (by kernel_rfl) (by kernel_rfl) (by kernel_rfl) (fun _ _ _ h => h) (Or.inl ⟨by rfl, ?_⟩) (by assumption) ?_
  rotate_left 1
  · intro w _; go_simp; try with_reducible rfl
  try simp only [Act.put, List.getElem_toArray, List.getElem_cons_zero, List.getElem_cons_succ, List.setIfInBounds_toArray, List.set_cons_zero, List.set_cons_succ]
  refine wpAnyH_take (i := 30) (v := ?_) rfl (by kernel_rfl) (by kernel_rfl) (by kernel_rfl) (fun _ _ _ h => h) (Or.inl ⟨by rfl, ?_⟩) (by assumption) ?_
  rotate_left 1
  · intro w _; go_simp; try with_reducible rfl
  try simp only [Act.put, List.getElem_toArray, List.getElem_cons_zero, List.getElem_cons_succ, List.setIfInBounds_toArray, List.set_cons_zero, List.set_cons_succ]
  refine wpAnyH_take (i := 31) (v := ?_) rfl (by kernel_rfl) (by kernel_rfl) (by kernel_rfl) (fun _ _ _ h => h) (Or.inl ⟨by rfl, ?_⟩) (by assumption) ?_
  rotate_left 1
  · intro w _; go_simp; try with_reducible rfl
  try simp only [Act.put, List.getElem_toArray, List.getElem_cons_zero, List.getElem_cons_succ, List.setIfInBounds_toArray, List.set_cons_zero, List.set_cons_succ]
  refine wpAnyH_take (i := 32) (v := ?_) rfl (by kernel_rfl) (by kernel_rfl) (by kernel_rfl) (fun _ _ _ h => h) (Or.inl ⟨by rfl, ?_⟩) (by assumption) ?_
  rotate_left 1
  · intro w _; go_simp; try with_reducible rfl
  try simp only [Act.put, List.getElem_toArray, List.getElem_cons_zero, List.getElem_cons_succ, List.setIfInBounds_toArray, List.set_cons_zero, List.set_cons_succ]
  refine wpAnyH_take (i := 33) (v := ?_) rfl (by kernel_rfl) (by kernel_rfl) (by kernel_rfl) (fun _ _ _ h => h) (Or.inl ⟨by rfl, ?_⟩) (by assumption) ?_
  rotate_left 1
  · intro w hSw; (try dsimp only at hSw); have h5 := HR1.out _ hSw.out.2.1; have h6 := rd_string (P := Tryd.prog) h5 24 9 5 Tryd.underlying24 Tryd.underlying5 Tryd.underlying9; rw [HN.out.1, HS.out] at h6; clear h5 hSw; go_simp; try with_reducible rfl
  try simp only [Act.put, List.getElem_toArray, List.getElem_cons_zero, List.getElem_cons_succ, List.setIfInBounds_toArray, List.set_cons_zero, List.set_cons_succ]
  refine wpAnyH_take (i := 34) (v := ?_) rfl (by kernel_rfl) (by kernel_rfl) (by kernel_rfl) (fun _ _ _ h => h) (Or.inl ⟨by rfl, ?_⟩) (by assumption) ?_
  rotate_left 1
  · intro w _; go_simp; try with_reducible rfl
  try simp only [Act.put, List.getElem_toArray, List.getElem_cons_zero, List.getElem_cons_succ, List.setIfInBounds_toArray, List.set_cons_zero, List.set_cons_succ]
  refine wpAnyH_take (i := 35) (v := ?_) rfl (by kernel_rfl) (by kernel_rfl) (by kernel_rfl) (fun _ _ _ h => h) (Or.inl ⟨by rfl, ?_⟩) (by assumption) ?_
  rotate_left 1
  · intro w _; go_simp; try with_reducible rfl
  try simp only [Act.put, List.getElem_toArray, List.getElem_cons_zero, List.getElem_cons_succ, List.setIfInBounds_toArray, List.set_cons_zero, List.set_cons_succ]
  refine wpAnyH_take (i := 36) (v := ?_) rfl (by kernel_rfl) (by kernel_rfl) (by kernel_rfl) (fun _ _ _ h => h) (Or.inl ⟨by rfl, ?_⟩) (by assumption) ?_
  rotate_left 1
  · intro w hSw; (try dsimp only at hSw); have h5 := HR2.out _ hSw.out.2.2.2.1; have h6 := rd_string (P := Tryd.prog) h5 24 9 5 Tryd.underlying24 Tryd.underlying5 Tryd.underlying9; rw [HN.out.1, HS.out] at h6; clear h5 hSw; go_simp; try with_reducible rfl
  try simp only [Act.put, List.getElem_toArray, List.getElem_cons_zero, List.getElem_cons_succ, List.setIfInBounds_toArray, List.set_cons_zero, List.set_cons_succ]
  refine wpAnyH_take (i := 37) (v := ?_) rfl (by kernel_rfl) (by kernel_rfl) (by kernel_rfl) (fun _ _ _ h => h) (Or.inl ⟨by rfl, ?_⟩) (by assumption) ?_
  rotate_left 1
  · intro w _; go_simp; try with_reducible rfl
  try simp only [Act.put, List.getElem_toArray, List.getElem_cons_zero, List.getElem_cons_succ, List.setIfInBounds_toArray, List.set_cons_zero, List.set_cons_succ]
  refine wpAnyH_take (i := 38) (v := ?_) rfl (by kernel_rfl) (by kernel_rfl) (by kernel_rfl) (fun _ _ _ h => h) (Or.inl ⟨by rfl, ?_⟩) (by assumption) ?_
  rotate_left 1
  · intro w _; go_simp; try with_reducible rfl
  try simp only [Act.put, List.getElem_toArray, List.getElem_cons_zero, List.getElem_cons_succ, List.setIfInBounds_toArray, List.set_cons_zero, List.set_cons_succ]
  refine wpAnyH_take (i := 39) (v := ?_) rfl (by kernel_rfl) (by kernel_rfl) (by kernel_rfl) (fun _ _ _ h => h) (Or.inl ⟨by rfl, ?_⟩) (by assumption) ?_
  rotate_left 1
  · intro w _; go_simp; try with_reducible rfl
  try simp only [Act.put, List.getElem_toArray, List.getElem_cons_zero, List.getElem_cons_succ, List.setIfInBounds_toArray, List.set_cons_zero, List.set_cons_succ]
  refine wpAnyH_take (i := 40) (v := ?_) rfl (by kernel_rfl) (by kernel_rfl) (by kernel_rfl) (fun _ _ _ h => h) (Or.inl ⟨by rfl, ?_⟩) (by assumption) ?_
  rotate_left 1
  · intro w _; go_simp; try with_reducible rfl
  try simp only [Act.put, List.getElem_toArray, List.getElem_cons_zero, List.getElem_cons_succ, List.setIfInBounds_toArray, List.set_cons_zero, List.set_cons_succ]
  refine wpAnyH_take (i := 41) (v := ?_) rfl (by kernel_rfl) (by kernel_rfl) (by kernel_rfl) (fun _ _ _ h => h) (Or.inl ⟨by rfl, ?_⟩) (by assumption) ?_
  rotate_left 1
  · intro w _; go_simp; try with_reducible rfl
  try simp only [Act.put, List.getElem_toArray, List.getElem_cons_zero, List.getElem_cons_succ, List.setIfInBounds_toArray, List.set_cons_zero, List.set_cons_succ]
  refine wpAnyH_take (i := 42) (v := ?_) rfl (by kernel_rfl) (by kernel_rfl) (by kernel_rfl) (fun _ _ _ h => h) (Or.inl ⟨by rfl, ?_⟩) (by assumption) ?_
  rotate_left 1
  · intro w _; go_simp; try with_reducible rfl
  try simp only [Act.put, List.getElem_toArray, List.getElem_cons_zero, List.getElem_cons_succ, List.setIfInBounds_toArray, List.set_cons_zero, List.set_cons_succ]
  refine wpAnyH_take (i := 43) (v := ?_) rfl (by kernel_rfl) (by kernel_rfl) (by kernel_rfl) (fun _ _ _ h => h) (Or.inl ⟨by rfl, ?_⟩) (by assumption) ?_
  rotate_left 1
  · intro w _; go_simp; try with_reducible rfl
  try simp only [Act.put, List.getElem_toArray, List.getElem_cons_zero, List.getElem_cons_succ, List.setIfInBounds_toArray, List.set_cons_zero, List.set_cons_succ]
  refine wpAnyH_take (i := 44) (v := ?_) rfl (by kernel_rfl) (by kernel_rfl) (by kernel_rfl) (fun _ _ _ h => h) (Or.inl ⟨by rfl, ?_⟩) (by assumption) ?_
  rotate_left 1
  · intro w hSw; (try dsimp only at hSw); have s1 := Rd.cn hSw.out.2.1 B.length lCB; rw [hCn] at s1; clear hSw; go_simp; try with_reducible rfl
  try simp only [Act.put, List.getElem_toArray, List.getElem_cons_zero, List.getElem_cons_succ, List.setIfInBounds_toArray, List.set_cons_zero, List.set_cons_succ]
  refine wpAnyH_take (i := 45) (v := ?_) rfl (by kernel_rfl) (by kernel_rfl) (by kernel_rfl) (fun _ _ _ h => h) (Or.inl ⟨by rfl, ?_⟩) (by assumption) ?_
  rotate_left 1
  · intro w _; go_simp; try with_reducible rfl
  try simp only [Act.put, List.getElem_toArray, List.getElem_cons_zero, List.getElem_cons_succ, List.setIfInBounds_toArray, List.set_cons_zero, List.set_cons_succ]
  refine wpAnyH_take (i := 46) (v := ?_) rfl (by kernel_rfl) (by kernel_rfl) (by kernel_rfl) (fun _ _ _ h => h) (Or.inl ⟨by rfl, ?_⟩) (by assumption) ?_
  rotate_left 1
  · intro w hSw; (try dsimp only at hSw); obtain ⟨-, -, -, -, ⟨s0, s1, s2, s3, s4, s5, s6⟩, -⟩ := hSw.out; go_simp; try with_reducible rfl
  try simp only [Act.put, List.getElem_toArray, List.getElem_cons_zero, List.getElem_cons_succ, List.setIfInBounds_toArray, List.set_cons_zero, List.set_cons_succ]
  refine wpAnyH_take (i := 47) (v := ?_) rfl (by kernel_rfl) (by kernel_rfl) (by kernel_rfl) (fun _ _ _ h => h) (Or.inl ⟨by rfl, ?_⟩) (by assumption) ?_
  rotate_left 1
  · intro w _; go_simp; try with_reducible rfl
  try simp only [Act.put, List.getElem_toArray, List.getElem_cons_zero, List.getElem_cons_succ, List.setIfInBounds_toArray, List.set_cons_zero, List.set_cons_succ]
  refine wpAnyH_take (i := 48) (v := ?_) rfl (by kernel_rfl) (by kernel_rfl) (by kernel_rfl) (fun _ _ _ h => h) (Or.inl ⟨by rfl, ?_⟩) (by assumption) ?_
  rotate_left 1
  · intro w _; go_simp; try with_reducible rfl
  try simp only [Act.put, List.getElem_toArray, List.getElem_cons_zero, List.getElem_cons_succ, List.setIfInBounds_toArray, List.set_cons_zero, List.set_cons_succ]
  refine wpAnyH_take (i := 49) (v := ?_) rfl (by kernel_rfl) (by kernel_rfl) (by kernel_rfl) (fun _ _ _ h => h) (Or.inl ⟨by rfl, ?_⟩) (by assumption) ?_
  rotate_left 1
  · intro w _; go_simp; try with_reducible rfl
  try simp only [Act.put, List.getElem_toArray, List.getElem_cons_zero, List.getElem_cons_succ, List.setIfInBounds_toArray, List.set_cons_zero, List.set_cons_succ]
  refine wpAnyH_done (by kernel_rfl) ?_ _
  go_wp2_with fail
  go_ret
  exact ⟨rfl, hHeld.out.1⟩
theorem codB_snoc (L : List Ins) (x : Ins) : codB (L ++ [x]) = ((L.length : Int) + 1) :: (L.flatMap opr ++ opr x) := by
  rw [codB, List.flatMap_append, List.length_append]
  simp
theorem ccut_walk (F : Fct) (KM : KMay F) (KB : KBytes F) (KR : KRead F) (KT : KText F) (A : Option Addr) (c n : Nat) (L : List Ins) (k a b : Int) (w : World) (hw : F.p w) (hr : Ri w A c L) (hn : L.length = n) (hx : InOk (k, a, b)) :
    Calls Tryd.prog 7 #[.slice A n c, .agg #[.int .u8 k, .int .i64 a, .int .i64 b]] w fun e w' => e = .returned (.bool true) ∧ Below w.heap.size w w' := by
  subst hn
  have cap0 := hr.len
  have hok : ∀ u ∈ L ++ [(k, a, b)], InOk u := by
    intro u hu
    rcases List.mem_append.1 hu with hu | hu
    · exact hr.1 u hu
    · rw [List.mem_singleton.1 hu]; exact hx
  by_cases hl : L.length ≤ 199
  · cases hv : codM L with
    | true =>
      cases hv2 : codM (L ++ [(k, a, b)]) with
      | true => exact ccut_t F KM KB KR KT A c L k a b w hw hr hl hv hx _ ⟨by rw [byL, if_pos hv2], by rw [cdE, if_pos hv2], codB_byt hv2 hok⟩ hv2 (codB_snoc L _)
      | false => exact ccut_f F KM KB KR KT A c L k a b w hw hr hl hv hx ⟨by rw [byL, if_neg (by rw [hv2]; decide)], by rw [cdE, if_neg (by rw [hv2]; decide)], fun x hx => by cases hx⟩ hv2
    | false =>
      have HV := Lib.hid hv
      have S0 := Lib.hid ((((Sx.start w).add F hw).add (fT A c L) hr).mk1 (.cells #[.int .u8 k, .int .i64 a, .int .i64 b] 47))
      clear hv hx hw hr hok
      go_enter Tryd.func7, Tryd.ntmps7
      go_wp2_with fail
      refine (cawake_any F KB KT KR _ S0.out.2.2.1).mono ?_
      rintro e w1 ⟨rfl, hb1⟩
      have S1 := Lib.hid (S0.out.call hb1)
      clear S0 hb1
      go_wp2_with fail
      refine (KM _ _ _ L _ S1.out.2.2.1 S1.out.2.1 rfl).mono ?_
      rintro e w2 ⟨rfl, hb2⟩
      rw [HV.out]
      have S2 := Lib.hid (S1.out.call hb2)
      clear S1 hb2
      go_wp2_with fail
      go_ret
      exact ⟨rfl, S2.out.1⟩
  · have S0 := Lib.hid ((((Sx.start w).add F hw).add (fT A c L) hr).mk1 (.cells #[.int .u8 k, .int .i64 a, .int .i64 b] 47))
    clear hx hw hr hok
    go_enter Tryd.func7, Tryd.ntmps7
    go_wp2_with fail
    refine (cawake_any F KB KT KR _ S0.out.2.2.1).mono ?_
    rintro e w1 ⟨rfl, hb1⟩
    have S1 := Lib.hid (S0.out.call hb1)
    clear S0 hb1
    go_wp2_with fail
    go_ret
    exact ⟨rfl, S1.out.1⟩
end Go.Proofs.YthmfjdafmnmgiaaDoor
