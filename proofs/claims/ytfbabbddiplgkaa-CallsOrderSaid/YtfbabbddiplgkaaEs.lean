/-
  Package calls: ordered, Check, Order, Whom.
-/
import Derived.Test.YtfbabbddiplgkaaEr
namespace Go.Proofs.Ytfbabbddiplgkaa
open Go.RowKit Go.Maps
set_option maxRecDepth 100000
set_option linter.unusedSimpArgs false
set_option linter.unusedVariables false

theorem Go11.keep {w w' : World} {base c : Nat} {A : Option Addr} {Z : List Gz} (h : Go11 w base A c Z) (hb : Below w.heap.size w w') : Go11 w' base A c Z := ⟨own_below h.row hb (Nat.le_refl _), fun z hz => own_below (h.each z hz) hb (Nat.le_refl _)⟩
theorem Go11.base {w : World} {base base' c : Nat} {A : Option Addr} {Z : List Gz} (h : Go11 w base A c Z) (hb : base' ≤ base) : Go11 w base' A c Z := ⟨own_base h.row hb, fun z hz => own_base (h.each z hz) hb⟩
theorem ro11_ot {d : Md} (h : ba11 d = false) : ro11 d = ot11 (e11 d) d.s.length := by
  rw [ro11, if_neg (by rw [h]; simp), ot11]
  cases or11 (e11 d) d.s.length <;> rfl
theorem ro11_ba {d : Md} (h : ba11 d = true) : ro11 d = ([], 2) := by rw [ro11, if_pos h]
theorem gr11_gre (d : Md) : gr11 d = gre11 (e11 d) d.s.length := rfl
/-- What ordered answers. -/
def Od11 (w w' : World) (d : Md) (r : Ending) : Prop :=
  (ba11 d = true ∧ r = .returned (.tuple #[.slice none 0 0, .slice none 0 0, .int .i64 2]) ∧ Below w.heap.size w w') ∨
  (ba11 d = false ∧ ∃ A c Z Ao co, r = .returned (.tuple #[.slice A d.s.length c, .slice Ao (ro11 d).1.length co, .int .i64 (ro11 d).2]) ∧ Go11 w' w.heap.size A c Z ∧ Z.map (·.2.2) = gr11 d ∧ w'.ownsRow w.heap.size 3 1 (.slice Ao (ro11 d).1.length co) (ro11 d).1.length (ci9 (ro11 d).1) ∧ Below w.heap.size w w')
set_option maxHeartbeats 2000000 in
theorem ordered_v (y : Ma) (d : Md) (w : World) (hq : Hq w y d) (bs : d.s.length ≤ 1000) (bl : ∀ z ∈ d.s, z.2.length ≤ 1000) : Calls Try.prog 30 #[dv y d] w fun r w' => Od11 w w' d r := by
  obtain ⟨sn, hsn⟩ : ∃ sn, d.s.length = sn := ⟨_, rfl⟩
  have HSN := Lib.hid hsn
  have S0 := Lib.hid ((((Sx.start w).add (fQm y d) hq).mkD y d))
  obtain ⟨B, hB⟩ : ∃ B, w.heap.size = B := ⟨_, rfl⟩
  have HBB := Lib.hid hB
  rw [hB] at S0
  have HBS := Lib.hid bs
  have HBL := Lib.hid bl
  clear hq bs bl hsn
  go_enter Try.func30, Try.ntmps30
  go_upto_region 1 with (fail)
  change Code.wp _ _ _ _ (w.alloc (dcel y d))
  generalize w.alloc (dcel y d) = w1 at S0 ⊢
  clear hB
  have HGR := Lib.hid (graphOf_v y d w1 S0.out.2.2.1 HBS.out HBL.out)
  obtain ⟨-, ⟨d0, d1, d2, d3, d4⟩, -⟩ := S0.out
  go_wp2_with fail
  refine HGR.out.mono ?_
  clear HGR d0 d1 d2 d3 d4
  rintro r w2 h
  rcases h with ⟨hba, rfl, hb⟩ | ⟨hba, A, c, Z, rfl, hgo, hgr, hb⟩
  · have HBF := Lib.hid (S0.out.call hb).1
    have HBA := Lib.hid hba
    clear hb hba S0
    go_wp2_with fail
    refine bodyPost_ret (v := .tuple #[.slice none 0 0, .slice none 0 0, .int .i64 2]) (by simp [results, Try.results30, go_sem]) rfl ?_
    exact .inl ⟨HBA.out, rfl, HBF.out⟩
  · rw [HSN.out]
    have HBA := Lib.hid hba
    have HGO := Lib.hid hgo
    have HGRR := Lib.hid hgr
    have HBF := Lib.hid (S0.out.call hb).1
    have hsz : w.heap.size ≤ w1.heap.size := S0.out.1.size
    have HOR := Lib.hid (order_v A c sn Z (e11 d) w2 hgo.gw (by rw [hgr, gr11_gre, HSN.out]) (by rw [← HSN.out]; exact HBS.out))
    clear hb hba hgo hgr S0
    go_wp2_with fail
    refine HOR.out.mono ?_
    rintro r w3 ⟨Ao, co, rfl, ho, hb⟩
    have HBF3 := Lib.hid (below_on HBF.out hb)
    have HGO3 := Lib.hid ((HGO.out.keep hb).base hsz)
    have HO3 := Lib.hid (own_base (base' := w.heap.size) ho HBF.out.size)
    have HRO : Hid (ro11 d = ot11 (e11 d) sn) := Lib.hid (by rw [ro11_ot HBA.out, HSN.out])
    rw [← HRO.out]
    rw [← HRO.out] at HO3
    clear ho hb HOR HGO HBF
    go_wp2_with fail
    refine bodyPost_ret (v := .tuple #[.slice A sn c, .slice Ao (ro11 d).1.length co, .int .i64 (ro11 d).2]) (by simp [results, Try.results30, go_sem]) rfl ?_
    exact .inr ⟨HBA.out, A, c, Z, Ao, co, by rw [HSN.out], HGO3.out, HGRR.out, HO3.out, HBF3.out⟩
set_option maxHeartbeats 2000000 in
theorem check11_v (y : Ma) (d : Md) (w : World) (hq : Hq w y d) (bs : d.s.length ≤ 1000) (bl : ∀ z ∈ d.s, z.2.length ≤ 1000) : Calls Try.prog 17 #[dv y d] w fun r w' => r = .returned (.int .i64 (ro11 d).2) ∧ Below w.heap.size w w' := by
  have S0 := Lib.hid ((((Sx.start w).add (fQm y d) hq).mkD y d))
  obtain ⟨B, hB⟩ : ∃ B, w.heap.size = B := ⟨_, rfl⟩
  have HBB := Lib.hid hB
  rw [hB] at S0
  have HBS := Lib.hid bs
  have HBL := Lib.hid bl
  clear hq bs bl
  go_enter Try.func17, Try.ntmps17
  go_upto_region 1 with (fail)
  change Code.wp _ _ _ _ (w.alloc (dcel y d))
  generalize w.alloc (dcel y d) = w1 at S0 ⊢
  clear hB
  have HGR := Lib.hid (ordered_v y d w1 S0.out.2.2.1 HBS.out HBL.out)
  obtain ⟨-, ⟨d0, d1, d2, d3, d4⟩, -⟩ := S0.out
  go_wp2_with fail
  refine HGR.out.mono ?_
  clear HGR d0 d1 d2 d3 d4
  rintro r w2 h
  rcases h with ⟨hba, rfl, hb⟩ | ⟨hba, A, c, Z, Ao, co, rfl, -, -, -, hb⟩
  · have HBF := Lib.hid (S0.out.call hb).1
    have HRO : Hid ((ro11 d).2 = 2) := Lib.hid (by rw [ro11_ba hba])
    clear hb hba S0
    go_wp2_with fail
    go_ret
    exact ⟨by rw [HRO.out]; rfl, HBF.out⟩
  · have HBF := Lib.hid (S0.out.call hb).1
    clear hb hba S0
    go_wp2_with fail
    go_ret
    exact ⟨rfl, HBF.out⟩
set_option maxHeartbeats 2000000 in
theorem order11_v (y : Ma) (d : Md) (w : World) (hq : Hq w y d) (bs : d.s.length ≤ 1000) (bl : ∀ z ∈ d.s, z.2.length ≤ 1000) : Calls Try.prog 14 #[dv y d] w fun r w' => Ns11 w w' (ro11 d) r := by
  have S0 := Lib.hid ((((Sx.start w).add (fQm y d) hq).mkD y d))
  obtain ⟨B, hB⟩ : ∃ B, w.heap.size = B := ⟨_, rfl⟩
  have HBB := Lib.hid hB
  rw [hB] at S0
  have HBS := Lib.hid bs
  have HBL := Lib.hid bl
  clear hq bs bl
  go_enter Try.func14, Try.ntmps14
  go_upto_region 1 with (fail)
  change Code.wp _ _ _ _ (w.alloc (dcel y d))
  generalize w.alloc (dcel y d) = w1 at S0 ⊢
  clear hB
  have HGR := Lib.hid (ordered_v y d w1 S0.out.2.2.1 HBS.out HBL.out)
  obtain ⟨-, ⟨d0, d1, d2, d3, d4⟩, -⟩ := S0.out
  go_wp2_with fail
  refine HGR.out.mono ?_
  clear HGR d0 d1 d2 d3 d4
  rintro r w2 h
  rcases h with ⟨hba, rfl, hb⟩ | ⟨hba, A, c, Z, Ao, co, rfl, -, -, ho, hb⟩
  · have HBF := Lib.hid (S0.out.call hb).1
    have HE := Lib.hid (Ns11.err (ro11_ba hba) HBF.out)
    clear hb hba S0
    go_wp2_with fail
    go_ret2
    exact HE.out
  · have HBF := Lib.hid (S0.out.call hb).1
    have HO := Lib.hid (own_base (base' := w.heap.size) ho S0.out.1.size)
    clear hb hba S0 ho
    go_wp2_with fail
    go_ret2
    exact ⟨Ao, co, rfl, HO.out, HBF.out⟩
theorem wh11_ca {d : Md} {k : Nat} (hk : k < d.s.length) : wh11 d k = ca11 (co11 d k) d.s.length := by
  rw [wh11, if_neg (by omega), Int.toNat_natCast, ca11]
  rfl
end Go.Proofs.Ytfbabbddiplgkaa
