/-
  Package calls: Leads; what package calls' functions answer, gathered.
-/
import Derived.Test.YtimjnmkfbdijeaaEx
import Derived.Test.YtimjnmkfbdijeaaEt
namespace Go.Proofs.Ytimjnmkfbdijeaa
open Go.RowKit Go.Maps
set_option maxRecDepth 100000
set_option linter.unusedSimpArgs false
set_option linter.unusedVariables false

theorem lk11_of {d : Md} (h : (ro11 d).2 = 0) {o : List Nat} (ho : or11 (e11 d) d.s.length = some o) {k : Nat} (hk : k < d.s.length) : Lk11 (e11 d) d.s.length k (ld11 (e11 d) d.s.length d.s.length k) o := by
  obtain ⟨h1, h2⟩ := or11_ok ho
  obtain ⟨r, hr, hb⟩ := ro11_rk h
  exact ⟨h1, h2, hk, fun t ht => ⟨fun hl => ld11_le hk ht hl, fun hl => le11_ld hr (hb k hk) hl⟩⟩
set_option maxHeartbeats 4000000 in
theorem leadsT_v (y : Ma) (d : Md) (k : Int) (w : World) (hq : Hq w y d) (bs : d.s.length ≤ 1000) (bl : ∀ z ∈ d.s, z.2.length ≤ 1000) : Calls Try.prog 21 #[dv y d, .int .i64 k] w fun r w' => Ns11 w w' (le11 d k) r := by
  have S0 := Lib.hid ((((Sx.start w).add (fQm y d) hq).mkD y d))
  obtain ⟨B, hB⟩ : ∃ B, w.heap.size = B := ⟨_, rfl⟩
  have HBB := Lib.hid hB
  rw [hB] at S0
  have HBL := Lib.hid bl
  obtain ⟨sn, hsn⟩ : ∃ sn, d.s.length = sn := ⟨_, rfl⟩
  have HSN := Lib.hid hsn
  have HBS := Lib.hid bs
  rw [hsn] at bs
  clear hq bl hsn
  go_enter Try.func21, Try.ntmps21
  go_upto_region 1 with (fail)
  change Code.wp _ _ _ _ (w.alloc (dcel y d))
  generalize w.alloc (dcel y d) = w1 at S0 ⊢
  clear hB
  have HGR := Lib.hid (ordered_v y d w1 S0.out.2.2.1 HBS.out HBL.out)
  obtain ⟨-, ⟨d0, d1, d2, d3, d4⟩, -⟩ := S0.out
  go_wp2_with fail
  refine HGR.out.mono ?_
  clear HGR d0 d1 d2 d3 d4
  rintro r w2 h
  rcases h with ⟨hba, rfl, hb⟩ | ⟨hba, A, c, Z, Ao, co, rfl, hgo, hgr, ho, hb⟩
  · have HE := Lib.hid (Ns11.err (w := w) (w' := w2) (T := le11 d k) (e := 2) (by rw [le11, ro11_ba hba, if_neg (by simp)]) (S0.out.call hb).1)
    clear hb hba S0
    go_wp2_with fail
    go_ret2
    exact HE.out
  · rw [HSN.out]
    obtain ⟨O, hO⟩ : ∃ O, ro11 d = O := ⟨_, rfl⟩
    rw [hO] at ho ⊢
    by_cases h0 : O.2 = 0
    · have HBF := Lib.hid (S0.out.call hb).1
      have hsz : w.heap.size ≤ w1.heap.size := S0.out.1.size
      by_cases hk0 : k < 0
      · have HE := Lib.hid (Ns11.err (w := w) (w' := w2) (T := le11 d k) (e := 2) (by rw [le11, hO, if_pos h0, if_pos (.inl hk0)]) HBF.out)
        rw [h0]
        clear hb hba S0 hgo hgr ho h0 hO
        dsimp only
        go_wp2_with fail
        go_ret2
        exact HE.out
      by_cases hks : (sn : Int) ≤ k
      · have HE := Lib.hid (Ns11.err (w := w) (w' := w2) (T := le11 d k) (e := 2) (by rw [le11, hO, if_pos h0, if_pos (.inr (by rw [HSN.out]; exact hks))]) HBF.out)
        rw [h0]
        clear hb hba S0 hgo hgr ho h0 hO
        dsimp only
        go_wp2_with fail
        go_ret2
        exact HE.out
      obtain ⟨k, rfl⟩ : ∃ k' : Nat, k = k' := ⟨k.toNat, by omega⟩
      have hks2 : k < sn := by omega
      obtain ⟨-, o, hoo, ho1⟩ := ro11_ok (d := d) (by rw [hO]; exact h0)
      rw [hO] at ho1
      have hlk := lk11_of (d := d) (by rw [hO]; exact h0) hoo (k := k) (by rw [HSN.out]; exact hks2)
      rw [HSN.out] at hlk
      have hol1 : O.1.length = sn := by rw [ho1, ns11, List.length_map, hlk.len]
      rw [hol1, ho1] at ho
      have HLE := Lib.hid (leads11_v A Ao c co sn k Z (e11 d) _ o w2 hgo.gw (by rw [hgr, gr11_gre, HSN.out]) (Rn.of_own ho).1 hlk bs)
      have HT : Hid (le11 d k = (ns11 ((List.range sn).filter (ld11 (e11 d) sn sn k)), 0)) := Lib.hid (by rw [le11, hO, if_pos h0, if_neg (by rw [HSN.out]; omega), Int.toNat_natCast, HSN.out])
      rw [h0, hol1]
      obtain ⟨T, hT⟩ : ∃ T, ns11 ((List.range sn).filter (ld11 (e11 d) sn sn k)) = T := ⟨_, rfl⟩
      rw [hT] at HLE HT
      clear hb hba S0 hgo hgr ho h0 hO ho1 hoo hlk hol1 hT
      dsimp only
      go_wp2_with fail
      refine HLE.out.mono ?_
      rintro r w3 ⟨A3, c3, rfl, ho, hb⟩
      have HO3 := Lib.hid (own_base (base' := w.heap.size) ho HBF.out.size)
      have HB3 := Lib.hid (below_on HBF.out hb)
      clear ho hb HLE
      go_wp2_with fail
      go_ret2
      exact ⟨A3, c3, by rw [HT.out]; rfl, by rw [HT.out]; exact HO3.out, HB3.out⟩
    · have HE := Lib.hid (Ns11.err (w := w) (w' := w2) (T := le11 d k) (e := O.2) (by rw [le11, hO, if_neg h0]) (S0.out.call hb).1)
      have hb0 : (O.2 != 0) = true := by simpa using h0
      clear hb hba S0 hgo hgr ho
      go_wp2_with fail
      go_ret2
      exact HE.out
end Go.Proofs.Ytimjnmkfbdijeaa
