/-
  A copy whose values, limits and other codes are written over: rows do not tell it from what it was.
-/
import Derived.Test.YtplgmdbocmfbcaaZq
namespace Go.Proofs.Ytplgmdbocmfbcaa
open Go.RowKit
set_option maxRecDepth 100000
set_option linter.unusedSimpArgs false
set_option linter.unusedVariables false

structure Aw (lo hi M : Nat) (d : Md) (k : Int) (wr : World) (y' : Ma) (d' : Md) : Prop where
  hq : Hq wr y' d'
  ow : Ow wr lo hi y' d'
  db : Db wr M y' d'
  sa : Sa10 d d'
  me : ∀ z z', 0 ≤ k → d.s[k.toNat]? = some z → d'.s[k.toNat]? = some z' → z'.1.l = z.1.l ∧ z'.2 = z.2
  qg : qG d' = false
  hm : hi ≤ M
section
variable {lo hi M g : Nat} {d d' : Md} {k : Int} {wr w' : World} {y' : Ma}
theorem Aw.rows (h : Aw lo hi M d k wr y' d') : rw10s d' k = rw10s d k := rw10s_same h.sa h.me
theorem Aw.keep (h : Aw lo hi M d k wr y' d') (hb : Below wr.heap.size wr w') : Aw lo hi M d k w' y' d' := ⟨h.hq.keep hb, h.ow.keep hb, h.db.keep hb, h.sa, h.me, h.qg, h.hm⟩
theorem Aw.lens (h : Aw lo hi M d k wr y' d') : d'.g.length = d.g.length ∧ d'.p.length = d.p.length ∧ d'.s.length = d.s.length :=
  ⟨by simpa using congrArg List.length h.sa.g, by simpa using congrArg List.length h.sa.p, by simpa using congrArg List.length h.sa.s⟩
theorem sp1 (w : World) (g j : Nat) (v : Value) : Sp g (g + 1) w (w.setCell ⟨g, j, none⟩ v) := (Sp.refl g (g + 1) w).set (Nat.le_refl _) (by omega) _ _
theorem Aw.mig (h : Aw lo hi M d k wr y' d') (v : Int) (hv : -9223372036854775808 ≤ v ∧ v ≤ 9223372036854775807) : Aw lo hi M d k (wr.setCell ⟨M, 3, none⟩ (.int .i64 v)) y' { d' with i := v } := by
  have q := h.hq.apart h.ow (sp1 wr M 3 (.int .i64 v)) (.inl h.hm)
  obtain ⟨h0, h1, h2, h3, h4⟩ := h.db
  have ne : ∀ {q : Nat} {u : Value}, q ≠ 3 → wr.cell? ⟨M, q, none⟩ = some u → (wr.setCell ⟨M, 3, none⟩ (.int .i64 v)).cell? ⟨M, q, none⟩ = some u := fun hpq hu => by
    rw [World.cell?_setCell_other _ _ _ _ (fun e => hpq (by injection e with _ e2; exact e2.symm))]
    exact hu
  exact ⟨⟨q.1, q.2.1, q.2.2.1, q.2.2.2.1, hv⟩, h.ow.set _ _ _, ⟨by simpa [World.setCell] using h0, ne (by decide) h1, ne (by decide) h2, ne (by decide) h3, World.cell?_setCell_same _ _ _ h4⟩, ⟨h.sa.p, h.sa.g, h.sa.s⟩, h.me, h.qg, h.hm⟩
theorem vset {w : World} {A : Option Addr} {c j f : Nat} {L : List Vlu} {v : Int} (h : Rv w A c L) (hs : Rs w lo hi 52 3 A L.length) (hf : f = 1 ∨ f = 2) (hv : -9223372036854775808 ≤ v ∧ v ≤ 9223372036854775807) :
    ∃ L' : List Vlu, L'.map (fun x => x.1) = L.map (fun x => x.1) ∧ Rv (w.setCell ⟨g, j * 3 + f, none⟩ (.int .i64 v)) A c L' := by
  rcases hs with h0 | ⟨g0, cur, a1, a2, a3, a4, a5⟩
  · refine ⟨L, rfl, h.1, h.2.1, h.2.2.1, ?_⟩
    rcases h.2.2.2 with hn | ⟨ad, ha, -⟩
    · exact .inl hn
    · exact .inr ⟨ad, ha, fun i x hx => by rw [List.eq_nil_of_length_eq_zero h0] at hx; cases hx⟩
  · by_cases hg : g0 = g
    · subst hg
      have ne : ∀ q u, q ≠ j * 3 + f → w.cell? ⟨g0, q, none⟩ = some u → (w.setCell ⟨g0, j * 3 + f, none⟩ (.int .i64 v)).cell? ⟨g0, q, none⟩ = some u := fun q u hpq hu => by
        rw [World.cell?_setCell_other _ _ _ _ (fun e => hpq (by injection e with _ e2; exact e2.symm))]
        exact hu
      by_cases hj : j < L.length
      · obtain ⟨x0, hx0⟩ : ∃ x, L[j]? = some x := ⟨_, List.getElem?_eq_getElem hj⟩
        refine ⟨L.set j (if f = 1 then (x0.1, v, x0.2.2) else (x0.1, x0.2.1, v)), ?_, fun x hm => ?_, by rw [List.length_set]; exact h.2.1, h.2.2.1, ?_⟩
        · rw [List.map_set]
          apply List.ext_getElem?
          intro i
          rw [List.getElem?_set]
          split
          · rename_i e
            subst e
            rw [if_pos (by rw [List.length_map]; exact hj), List.getElem?_map, hx0]
            split <;> rfl
          · rfl
        · have hok := h.1 x0 (List.mem_of_getElem? hx0)
          rcases List.mem_or_eq_of_mem_set hm with hm | rfl
          · exact h.1 x hm
          · split
            · exact ⟨hok.1, hv, hok.2.2⟩
            · exact ⟨hok.1, hok.2.1, hv⟩
        · rcases h.2.2.2 with ⟨hn, -⟩ | ⟨ad, ha, hc⟩
          · rw [a1] at hn; cases hn
          · refine .inr ⟨ad, ha, fun i x hi => ?_⟩
            rw [a1] at ha
            injection ha with ha
            subst ha
            rw [add0]
            rw [List.getElem?_set] at hi
            by_cases hij : j = i
            · subst hij
              rw [if_pos rfl, if_pos hj] at hi
              injection hi with hi
              obtain ⟨c1, c2, c3⟩ := hc j x0 hx0
              rw [add0] at c1 c2 c3
              subst hi
              rcases hf with rfl | rfl
              · rw [if_pos rfl]
                exact ⟨ne _ _ (by omega) c1, World.cell?_setCell_same _ _ _ c2, ne (j * 3 + 2) _ (by omega) c3⟩
              · rw [if_neg (by decide)]
                exact ⟨ne _ _ (by omega) c1, ne (j * 3 + 1) _ (by omega) c2, World.cell?_setCell_same _ _ _ c3⟩
            · rw [if_neg hij] at hi
              obtain ⟨c1, c2, c3⟩ := hc i x hi
              rw [add0] at c1 c2 c3
              exact ⟨ne _ _ (by omega) c1, ne (i * 3 + 1) _ (by omega) c2, ne (i * 3 + 2) _ (by omega) c3⟩
      · refine ⟨L, rfl, h.1, h.2.1, h.2.2.1, ?_⟩
        rcases h.2.2.2 with ⟨hn, -⟩ | ⟨ad, ha, hc⟩
        · rw [a1] at hn; cases hn
        · refine .inr ⟨ad, ha, fun i x hi => ?_⟩
          rw [a1] at ha
          injection ha with ha
          subst ha
          have hil := (List.getElem?_eq_some_iff.1 hi).1
          obtain ⟨c1, c2, c3⟩ := hc i x hi
          rw [add0] at c1 c2 c3 ⊢
          exact ⟨ne _ _ (by omega) c1, ne (i * 3 + 1) _ (by omega) c2, ne (i * 3 + 2) _ (by omega) c3⟩
    · exact ⟨L, rfl, h.apart (lo2 := g0) (hi2 := g0 + 1) (e := 52) (.inr ⟨g0, cur, a1, Nat.le_refl _, by omega, a4, a5⟩) (sp1 w g _ _) (by omega)⟩
theorem ok_nt {w : World} {z : Me} {t kk : Nat} (h : z.ok w) (ho : Owz w lo hi z) (hg : Bk w g t kk) (h1 : 5 ≠ t) (h2 : 45 ≠ t) (j : Nat) (v : Value) : z.ok (w.setCell ⟨g, j, none⟩ v) := by
  obtain ⟨⟨k1, k2, k3⟩, k4, k5⟩ := h
  obtain ⟨o1, o2, o3⟩ := ho
  obtain ⟨m1, s1, e1⟩ := o1.nt hg h1
  obtain ⟨m2, s2, e2⟩ := o2.nt hg h1
  obtain ⟨m3, s3, e3⟩ := o3.nt hg h2
  exact ⟨⟨k1.apart s1 (sp1 w g j v) e1, k2.apart s2 (sp1 w g j v) e2, k3⟩, k4.apart (by rw [k5]; exact s3) (sp1 w g j v) e3, k5⟩
theorem Aw.val {j f kk : Nat} {v : Int} (h : Aw lo hi M d k wr y' d') (hg : Bk wr g 52 kk) (h2 : g < hi) (hf : f = 1 ∨ f = 2) (hv : -9223372036854775808 ≤ v ∧ v ≤ 9223372036854775807) : ∃ d'', Aw lo hi M d k (wr.setCell ⟨g, j * 3 + f, none⟩ (.int .i64 v)) y' d'' := by
  obtain ⟨G', eG, hG⟩ := vset (g := g) (j := j) h.hq.1 h.ow.1 hf hv
  obtain ⟨P', eP, hP⟩ := vset (g := g) (j := j) h.hq.2.1 h.ow.2.1 hf hv
  have lG : G'.length = d'.g.length := by simpa using congrArg List.length eG
  have lP : P'.length = d'.p.length := by simpa using congrArg List.length eP
  obtain ⟨l3, r3, n3⟩ := h.ow.2.2.1.nt hg (by decide)
  have hp := sp1 wr g (j * 3 + f) (.int .i64 v)
  have ho := h.ow.set g (j * 3 + f) (.int .i64 v)
  have hb := h.db.apart hp (.inr (by have := h.hm; omega))
  refine ⟨⟨G', P', d'.s, d'.i⟩, ⟨hG, hP, ⟨fun z hz => ok_nt (h.hq.2.2.1.1 z hz) (h.ow.2.2.2 z hz) hg (by decide) (by decide) _ _, h.hq.2.2.1.2.1, h.hq.2.2.1.2.2.1, ?_⟩, h.hq.2.2.2⟩, ⟨by rw [lG]; exact ho.1, by rw [lP]; exact ho.2.1, ho.2.2.1, ho.2.2.2⟩, ⟨hb.1, by rw [lG]; exact hb.2.1, by rw [lP]; exact hb.2.2.1, hb.2.2.2.1, hb.2.2.2.2⟩, ⟨eP.trans h.sa.p, eG.trans h.sa.g, h.sa.s⟩, h.me, ?_, h.hm⟩
  · rcases h.hq.2.2.1.2.2.2 with hn | ⟨ad, e0, hc⟩
    · exact .inl hn
    · refine .inr ⟨ad, e0, fun i u hu => ?_⟩
      obtain ⟨g3, b1, b2, b3, b4⟩ := r3.blk (by have := (List.getElem?_eq_some_iff.1 hu).1; rw [h.hq.zlen] at this; omega)
      rw [e0] at b1
      obtain rfl := Option.some.inj b1
      exact (hc i u hu).apart hp (by rw [add_block]; show g3 < g ∨ g + 1 ≤ g3; omega)
  · have := h.qg
    simp only [qG] at this ⊢
    rw [lG, lP]
    exact this
theorem Aw.meth {j f kk : Nat} {v : Value} {z z' : Me} (h : Aw lo hi M d k wr y' d') (hA : y'.A = some ⟨g, 0, none⟩) (hg : Bk wr g 36 kk) (h2 : g < hi) (hf : f < 8) (hz : y'.Z[j]? = some z)
    (hat : At8 (wr.setCell ⟨g, j * 8 + f, none⟩ v) ⟨g, j * 8, none⟩ z') (hok : z'.ok (wr.setCell ⟨g, j * 8 + f, none⟩ v)) (hoz : Owz wr lo hi z') (e1 : z'.m.a = z.m.a ∧ z'.m.r = z.m.r) (e2 : k = (j : Int) → z'.m.l = z.m.l ∧ z'.k = z.k) (e3 : qgE (ze z') = false) :
    Aw lo hi M d k (wr.setCell ⟨g, j * 8 + f, none⟩ v) { y' with Z := y'.Z.set j z' } { d' with s := (y'.Z.set j z').map ze } := by
  have hp := sp1 wr g (j * 8 + f) v
  obtain ⟨l1, r1, n1⟩ := h.ow.1.nt hg (by decide)
  obtain ⟨l2, r2, n2⟩ := h.ow.2.1.nt hg (by decide)
  have ho := h.ow.set g (j * 8 + f) v
  have hb := h.db.apart hp (.inr (by have := h.hm; omega))
  have hl : ((y'.Z.set j z').map ze).length = d'.s.length := by rw [List.length_map, List.length_set, h.hq.zlen]
  have hs : d'.s = y'.Z.map ze := h.hq.2.2.2.1.symm
  have hjz := (List.getElem?_eq_some_iff.1 hz).1
  refine ⟨⟨h.hq.1.apart r1 hp n1, h.hq.2.1.apart r2 hp n2, ⟨fun u hu => ?_, ?_, h.hq.2.2.1.2.2.1, ?_⟩, rfl, h.hq.2.2.2.2⟩, ⟨ho.1, ho.2.1, by rw [hl]; exact ho.2.2.1, fun u hu => ?_⟩, ⟨hb.1, hb.2.1, hb.2.2.1, by rw [hl]; exact hb.2.2.2.1, hb.2.2.2.2⟩, ⟨h.sa.p, h.sa.g, ?_⟩, fun z1 z2 hk e4 e5 => ?_, ?_, h.hm⟩
  · rcases List.mem_or_eq_of_mem_set hu with hu | rfl
    · exact ok_nt (h.hq.2.2.1.1 u hu) (h.ow.2.2.2 u hu) hg (by decide) (by decide) _ _
    · exact hok
  · show (y'.Z.set j z').length ≤ _
    rw [List.length_set]
    exact h.hq.2.2.1.2.1
  · rcases h.hq.2.2.1.2.2.2 with ⟨hn, -⟩ | ⟨ad, e0, hc⟩
    · rw [hA] at hn; cases hn
    · refine .inr ⟨ad, e0, fun i u hu => ?_⟩
      rw [hA] at e0
      injection e0 with e0
      subst e0
      rw [add0]
      dsimp only at hu
      rw [List.getElem?_set] at hu
      by_cases hij : j = i
      · subst hij
        rw [if_pos rfl, if_pos hjz] at hu
        injection hu with hu
        subst hu
        exact hat
      · rw [if_neg hij] at hu
        have h8 := hc i u hu
        rw [add0] at h8
        exact h8.other (.inr (by dsimp only; omega)) _ ⟨_, _, rfl⟩
  · rcases List.mem_or_eq_of_mem_set hu with hu | rfl
    · exact ho.2.2.2 u hu
    · exact hoz.set _ _ _
  · rw [← h.sa.s]
    dsimp only
    rw [hs, List.map_map, List.map_map, List.map_set]
    apply List.ext_getElem?
    intro i
    rw [List.getElem?_set]
    split
    · rename_i e
      subst e
      rw [if_pos (by rw [List.length_map]; exact hjz), List.getElem?_map, hz]
      simp [e1]
    · rfl
  · dsimp only at e5
    rw [List.getElem?_map, List.getElem?_set] at e5
    by_cases hjk : j = k.toNat
    · rw [if_pos hjk, if_pos hjz] at e5
      injection e5 with e5
      subst e5
      have e6 := h.me z1 (ze z) hk e4 (by rw [hs, ← hjk, List.getElem?_map, hz]; rfl)
      obtain ⟨q1, q2⟩ := e2 (by omega)
      exact ⟨q1.trans e6.1, q2.trans e6.2⟩
    · rw [if_neg hjk] at e5
      exact h.me z1 z2 hk e4 (by rw [hs, List.getElem?_map]; exact e5)
  · have hq := h.qg
    simp only [qG, Bool.or_eq_false_iff] at hq ⊢
    refine ⟨hq.1, hq.2.1, by rw [hl]; exact hq.2.2.1, ?_⟩
    rw [List.any_eq_false]
    intro u hu
    obtain ⟨q, hq1, rfl⟩ := List.mem_map.1 hu
    rcases List.mem_or_eq_of_mem_set hq1 with hq1 | rfl
    · exact (List.any_eq_false.1 hq.2.2.2) _ (by rw [hs]; exact List.mem_map.2 ⟨q, hq1, rfl⟩)
    · rw [e3]; decide
end
section
variable {w : World} {g p : Nat} {z : Me}
theorem c8n {w : World} {g p q : Nat} {v u : Value} (h : q ≠ p) (hu : w.cell? ⟨g, q, none⟩ = some u) : (w.setCell ⟨g, p, none⟩ v).cell? ⟨g, q, none⟩ = some u := by
  rw [World.cell?_setCell_other _ _ _ _ (fun e => h (by injection e with _ e2; exact e2.symm))]
  exact hu
theorem at8_f (h : At8 w ⟨g, p, none⟩ z) (v : Int) : At8 (w.setCell ⟨g, p + 4, none⟩ (.int .i64 v)) ⟨g, p, none⟩ { z with m := { z.m with f := v } } := by
  obtain ⟨h1, h2, h3, h4, h5, h6, h7, h8⟩ := h
  exact ⟨c8n (by omega) h1, c8n (by dsimp only; omega) h2, c8n (by dsimp only; omega) h3, c8n (by dsimp only; omega) h4, World.cell?_setCell_same _ _ _ h5, c8n (by dsimp only; omega) h6, c8n (by dsimp only; omega) h7, c8n (by dsimp only; omega) h8⟩
theorem at8_s (h : At8 w ⟨g, p, none⟩ z) (v : Int) : At8 (w.setCell ⟨g, p + 5, none⟩ (.int .i64 v)) ⟨g, p, none⟩ { z with m := { z.m with s := v } } := by
  obtain ⟨h1, h2, h3, h4, h5, h6, h7, h8⟩ := h
  exact ⟨c8n (by omega) h1, c8n (by dsimp only; omega) h2, c8n (by dsimp only; omega) h3, c8n (by dsimp only; omega) h4, c8n (by dsimp only; omega) h5, World.cell?_setCell_same _ _ _ h6, c8n (by dsimp only; omega) h7, c8n (by dsimp only; omega) h8⟩
theorem at8_q (h : At8 w ⟨g, p, none⟩ z) (v : Bool) : At8 (w.setCell ⟨g, p + 3, none⟩ (.bool v)) ⟨g, p, none⟩ { z with m := { z.m with q := v } } := by
  obtain ⟨h1, h2, h3, h4, h5, h6, h7, h8⟩ := h
  exact ⟨c8n (by omega) h1, c8n (by dsimp only; omega) h2, c8n (by dsimp only; omega) h3, World.cell?_setCell_same _ _ _ h4, c8n (by dsimp only; omega) h5, c8n (by dsimp only; omega) h6, c8n (by dsimp only; omega) h7, c8n (by dsimp only; omega) h8⟩
theorem at8_k (h : At8 w ⟨g, p, none⟩ z) : At8 (w.setCell ⟨g, p + 7, none⟩ (.slice none 0 0)) ⟨g, p, none⟩ { x := { z.x with D := none, k := 0, e := 0 }, m := z.m, k := [] } := by
  obtain ⟨h1, h2, h3, h4, h5, h6, h7, h8⟩ := h
  exact ⟨c8n (by omega) h1, c8n (by dsimp only; omega) h2, c8n (by dsimp only; omega) h3, c8n (by dsimp only; omega) h4, c8n (by dsimp only; omega) h5, c8n (by dsimp only; omega) h6, c8n (by dsimp only; omega) h7, World.cell?_setCell_same _ _ _ h8⟩
theorem at8_l (h : At8 w ⟨g, p, none⟩ z) : At8 (w.setCell ⟨g, p + 1, none⟩ (.slice none 0 0)) ⟨g, p, none⟩ { z with x := { z.x with B := none, d := 0 }, m := { z.m with l := [] } } := by
  obtain ⟨h1, h2, h3, h4, h5, h6, h7, h8⟩ := h
  exact ⟨c8n (by omega) h1, World.cell?_setCell_same _ _ _ h2, c8n (by dsimp only; omega) h3, c8n (by dsimp only; omega) h4, c8n (by dsimp only; omega) h5, c8n (by dsimp only; omega) h6, c8n (by dsimp only; omega) h7, c8n (by dsimp only; omega) h8⟩
end
end Go.Proofs.Ytplgmdbocmfbcaa
