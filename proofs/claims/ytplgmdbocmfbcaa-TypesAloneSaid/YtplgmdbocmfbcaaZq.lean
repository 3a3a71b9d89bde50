/-
  An instruction of a copy written over: the module that reads then; its rows.
-/
import Derived.Test.YtplgmdbocmfbcaaMq
import Derived.Test.YtplgmdbocmfbcaaSpo
import Derived.Test.YtplgmdbocmfbcaaLt
namespace Go.Proofs.Ytplgmdbocmfbcaa
open Go.RowKit
set_option maxRecDepth 100000
set_option linter.unusedSimpArgs false
set_option linter.unusedVariables false

def set3 (w : World) (g j : Nat) (o a b : Int) : World := ((w.setCell ⟨g, j, none⟩ (.int .u8 o)).setCell ⟨g, j + 1, none⟩ (.int .i64 a)).setCell ⟨g, j + 2, none⟩ (.int .i64 b)
section
variable {w : World} {g j : Nat} {o a b : Int}
theorem set3_heap {cs : Array Value} {t : Nat} (h : w.heap[g]? = some (.cells cs t (0, 0))) : (set3 w g j o a b).heap[g]? = some (.cells (((cs.setIfInBounds j (.int .u8 o)).setIfInBounds (j + 1) (.int .i64 a)).setIfInBounds (j + 2) (.int .i64 b)) t (0, 0)) :=
  heap_setCell_same _ g _ _ t _ (heap_setCell_same _ g _ _ t _ (heap_setCell_same w g j cs t _ h))
theorem set3_sp : Sp g (g + 1) w (set3 w g j o a b) := (((Sp.refl g (g + 1) w).set (Nat.le_refl _) (by omega) _ _).set (Nat.le_refl _) (by omega) _ _).set (Nat.le_refl _) (by omega) _ _
theorem set3_cell {cs : Array Value} {t : Nat} (h : w.heap[g]? = some (.cells cs t (0, 0))) (hs : j + 2 < cs.size) (q : Nat) :
    (set3 w g j o a b).cell? ⟨g, q, none⟩ = if q = j then some (.int .u8 o) else if q = j + 1 then some (.int .i64 a) else if q = j + 2 then some (.int .i64 b) else w.cell? ⟨g, q, none⟩ := by
  rw [cell_of_row _ g q _ _ (0, 0) (set3_heap h), cell_of_row w g q _ _ (0, 0) h]
  simp only [Array.getElem?_setIfInBounds, Array.size_setIfInBounds]
  by_cases h1 : q = j
  · subst h1
    rw [if_neg (by omega), if_neg (by omega), if_pos rfl, if_pos rfl, if_pos (by omega)]
  · by_cases h2 : q = j + 1
    · subst h2
      rw [if_neg (by omega), if_pos rfl, if_pos (by omega), if_neg h1, if_pos rfl]
    · by_cases h3 : q = j + 2
      · subst h3
        rw [if_pos rfl, if_pos (by omega), if_neg h1, if_neg h2, if_pos rfl]
      · rw [if_neg (fun e => h3 e.symm), if_neg (fun e => h2 e.symm), if_neg (fun e => h1 e.symm), if_neg h1, if_neg h2, if_neg h3]
theorem add0 (g i : Nat) : (⟨g, 0, none⟩ : Addr).add i = ⟨g, i, none⟩ := by
  unfold Addr.add
  split
  · rename_i h0; simp [h0]
  · simp
theorem Ri.set3 {A : Option Addr} {e t : Nat} {L : List Ins} (h : Ri w A e L) (hA : A = some ⟨g, 0, none⟩) {cs : Array Value} {ty : Nat} (hb : w.heap[g]? = some (.cells cs ty (0, 0))) (hx : InOk (o, a, b)) : Ri (set3 w g (t * 3) o a b) A e (L.set t (o, a, b)) := by
  refine ⟨fun x hm => ?_, by rw [List.length_set]; exact h.2.1, h.2.2.1, ?_⟩
  · rcases List.mem_or_eq_of_mem_set hm with hm | rfl
    · exact h.1 x hm
    · exact hx
  · rcases h.2.2.2 with ⟨hn, -⟩ | ⟨ad, ha, hc⟩
    · rw [hA] at hn; cases hn
    · refine .inr ⟨ad, ha, fun i x hi => ?_⟩
      rw [hA] at ha
      injection ha with ha
      subst ha
      rw [add0]
      by_cases ht : t < L.length
      · obtain ⟨-, -, c3⟩ := hc t L[t] (List.getElem?_eq_getElem ht)
        rw [add0, cell_of_row w g _ _ _ (0, 0) hb] at c3
        have hsz : t * 3 + 2 < cs.size := (Array.getElem?_eq_some_iff.1 c3).1
        have key : ∀ q, q ≠ t * 3 → q ≠ t * 3 + 1 → q ≠ t * 3 + 2 → ∀ u, w.cell? ⟨g, q, none⟩ = some u → (Go.Proofs.Ytplgmdbocmfbcaa.set3 w g (t * 3) o a b).cell? ⟨g, q, none⟩ = some u := fun q h1 h2 h3 u hu => (set3_cell hb hsz q).trans (by rw [if_neg h1, if_neg h2, if_neg h3]; exact hu)
        rw [List.getElem?_set] at hi
        by_cases hit : t = i
        · subst hit
          rw [if_pos rfl, if_pos ht] at hi
          injection hi with hi
          subst hi
          exact ⟨(set3_cell hb hsz _).trans (if_pos rfl), (set3_cell hb hsz _).trans (by rw [if_neg (show ¬ t * 3 + 1 = t * 3 by omega), if_pos rfl]), (set3_cell hb hsz _).trans (by rw [if_neg (show ¬ t * 3 + 2 = t * 3 by omega), if_neg (show ¬ t * 3 + 2 = t * 3 + 1 by omega), if_pos rfl])⟩
        · rw [if_neg hit] at hi
          obtain ⟨k1, k2, k3⟩ := hc i x hi
          rw [add0] at k1 k2 k3
          exact ⟨key (i * 3) (by omega) (by omega) (by omega) _ k1, key (i * 3 + 1) (by omega) (by omega) (by omega) _ k2, key (i * 3 + 2) (by omega) (by omega) (by omega) _ k3⟩
      · rw [List.set_eq_of_length_le (by omega)] at hi
        obtain ⟨k1, k2, k3⟩ := hc i x hi
        rw [add0] at k1 k2 k3
        have hil := (List.getElem?_eq_some_iff.1 hi).1
        have ne : ∀ {p q : Nat} {v u : Value} {w' : World}, q ≠ p → w'.cell? ⟨g, q, none⟩ = some u → (w'.setCell ⟨g, p, none⟩ v).cell? ⟨g, q, none⟩ = some u := fun hpq hu => by
          rw [World.cell?_setCell_other _ _ _ _ (fun e => hpq (by injection e with _ e2; exact e2.symm))]
          exact hu
        exact ⟨ne (by omega) (ne (by omega) (ne (by omega) k1)), ne (by dsimp only; omega) (ne (by dsimp only; omega) (ne (by dsimp only; omega) k2)), ne (by dsimp only; omega) (ne (by dsimp only; omega) (ne (by dsimp only; omega) k3))⟩
theorem Rs.nt {lo hi e s n t k : Nat} {A : Option Addr} (hs : Rs w lo hi e s A n) (hg : Bk w g t k) (hne : e ≠ t) : ∃ l2, Rs w l2 (l2 + 1) e s A n ∧ (l2 + 1 ≤ g ∨ g + 1 ≤ l2) := by
  rcases hs with h0 | ⟨g2, cur, a1, a2, a3, a4, a5⟩
  · exact ⟨g + 1, .inl h0, .inr (Nat.le_refl _)⟩
  · have hn := bk_ne (⟨cur, a4, rfl⟩ : Bk w g2 e cur.size) hg hne
    exact ⟨g2, .inr ⟨g2, cur, a1, Nat.le_refl _, by omega, a4, a5⟩, by omega⟩
end
open Classical in
/-- A method whose code, if it lies in block g, is another one at t. -/
noncomputable def uz10 (g t : Nat) (x : Ins) (z : Me) : Me := { z with k := if z.x.D = some ⟨g, 0, none⟩ then z.k.set t x else z.k }
theorem uz10_len (g t : Nat) (x : Ins) (z : Me) : (uz10 g t x z).k.length = z.k.length := by
  unfold uz10
  dsimp only
  split
  · rw [List.length_set]
  · rfl
theorem hq_code {w : World} {lo hi g t kk : Nat} {o a b : Int} {y : Ma} {d : Md} (hq : Hq w y d) (ho : Ow w lo hi y d) (hg : Bk w g 45 kk) (hx : InOk (o, a, b)) :
    Hq (set3 w g (t * 3) o a b) { y with Z := y.Z.map (uz10 g t (o, a, b)) } { d with s := (y.Z.map (uz10 g t (o, a, b))).map ze } := by
  have hp : Sp g (g + 1) w (set3 w g (t * 3) o a b) := set3_sp
  obtain ⟨l1, r1, n1⟩ := ho.1.nt hg (by decide)
  obtain ⟨l2, r2, n2⟩ := ho.2.1.nt hg (by decide)
  obtain ⟨l3, r3, n3⟩ := ho.2.2.1.nt hg (by decide)
  refine ⟨hq.1.apart r1 hp n1, hq.2.1.apart r2 hp n2, ⟨fun z hz => ?_, ?_, hq.2.2.1.2.2.1, ?_⟩, rfl, hq.2.2.2.2⟩
  · obtain ⟨u, hu, rfl⟩ := List.mem_map.1 hz
    obtain ⟨⟨k1, k2, k3⟩, k4, k5⟩ := hq.2.2.1.1 u hu
    obtain ⟨o1, o2, o3⟩ := ho.2.2.2 u hu
    obtain ⟨m1, s1, e1⟩ := o1.nt hg (by decide)
    obtain ⟨m2, s2, e2⟩ := o2.nt hg (by decide)
    refine ⟨⟨k1.apart s1 hp e1, k2.apart s2 hp e2, k3⟩, ?_, by rw [uz10_len]; exact k5⟩
    show Ri _ u.x.D u.x.e (uz10 g t (o, a, b) u).k
    unfold uz10
    dsimp only
    split
    · rename_i hD
      obtain ⟨cs, hcs, -⟩ := hg
      exact k4.set3 hD hcs hx
    · rename_i hD
      rcases o3 with h0 | ⟨g2, cur, a1, a2, a3, a4, a5⟩
      · refine k4.apart (lo2 := g + 1) (hi2 := g + 1) (e := 0) (.inl (by omega)) hp (.inr (Nat.le_refl _))
      · have hne : g2 ≠ g := fun e => hD (by rw [a1, e])
        refine k4.apart (lo2 := g2) (hi2 := g2 + 1) (.inr ⟨g2, cur, a1, Nat.le_refl _, by omega, a4, by rw [k5]; exact a5⟩) hp (by omega)
  · show (y.Z.map _).length ≤ _
    rw [List.length_map]
    exact hq.2.2.1.2.1
  · rcases hq.2.2.1.2.2.2 with hn | ⟨ad, e0, hc⟩
    · exact .inl hn
    · refine .inr ⟨ad, e0, fun i z hz => ?_⟩
      dsimp only at hz
      rw [List.getElem?_map, Option.map_eq_some_iff] at hz
      obtain ⟨u, hu, rfl⟩ := hz
      have h8 : At8 (set3 w g (t * 3) o a b) (ad.add (i * 8)) u := by
        obtain ⟨g3, b1, b2, b3, b4⟩ := r3.blk (by have := (List.getElem?_eq_some_iff.1 hu).1; rw [hq.zlen] at this; omega)
        rw [e0] at b1
        obtain rfl := Option.some.inj b1
        exact (hc i u hu).apart hp (by rw [add_block]; show g3 < g ∨ g + 1 ≤ g3; omega)
      exact h8
/-- .. and its rows. -/
theorem rw10_code {w : World} {g t n : Nat} {x : Ins} {y : Ma} {d : Md} {h : Mh} {c : List Ins} (hq : Hq w y d) (hk : d.s[n]? = some (h, c)) (u : Un9 c t x) (ht : th10 d h x = true) (he : (rw10s d n).2 = 0) (hr : ((rw10s d n).1[t]?.getD z10).1 = false)
    {z : Me} (hz : y.Z[n]? = some z) (hD : z.x.D = some ⟨g, 0, none⟩) : rw10s { d with s := (y.Z.map (uz10 g t x)).map ze } n = rw10s d n := by
  have h1 := rw10s_unseen hk u ht he hr (d' := { d with s := d.s.set n (h, c.set t x) }) rfl rfl rfl
  rw [← h1]
  have hzn : ze z = (h, c) := by
    have := hq.2.2.2.1
    rw [← this, List.getElem?_map, hz] at hk
    injection hk
  have hn : n < d.s.length := (List.getElem?_eq_some_iff.1 hk).1
  refine rw10s_same (d := { d with s := d.s.set n (h, c.set t x) }) (d' := { d with s := (y.Z.map (uz10 g t x)).map ze }) (k := (n : Int)) ⟨rfl, rfl, ?_⟩ fun z1 z2 _ e1 e2 => ?_
  · dsimp only
    rw [List.map_set, List.map_map, List.map_map]
    apply List.ext_getElem?
    intro i
    rw [List.getElem?_set]
    have hs : d.s = y.Z.map ze := hq.2.2.2.1.symm
    split
    · rename_i e
      subst e
      rw [if_pos (by rw [List.length_map]; exact hn), List.getElem?_map, hz]
      have e3 : z.m = h := congrArg Prod.fst hzn
      simp [uz10, e3]
    · rw [hs, List.map_map, List.getElem?_map, List.getElem?_map]
      rfl
  · dsimp only at e1 e2
    rw [Int.toNat_natCast, List.getElem?_set, if_pos rfl, if_pos hn] at e1
    injection e1 with e1
    rw [Int.toNat_natCast, List.getElem?_map, List.getElem?_map, hz] at e2
    injection e2 with e2
    subst e1 e2
    have e3 : z.m = h := congrArg Prod.fst hzn
    have e4 : z.k = c := congrArg Prod.snd hzn
    simp [uz10, hD, e3, e4]
end Go.Proofs.Ytplgmdbocmfbcaa
