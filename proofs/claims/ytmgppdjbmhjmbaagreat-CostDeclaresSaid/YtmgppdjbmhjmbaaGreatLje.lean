/-
  Spo, Zq, Zs: in one text.
-/
import Derived.Test.YtmgppdjbmhjmbaaGreatMq
import Derived.Test.YtmgppdjbmhjmbaaGreatLk
import Derived.Test.YtmgppdjbmhjmbaaGreatLt
namespace Go.Proofs.YtmgppdjbmhjmbaaGreat
open Go.RowKit
set_option maxRecDepth 100000
set_option linter.unusedSimpArgs false
set_option linter.unusedVariables false

/-- A cell of a row that may be written over, with its block. -/
theorem Rs.cellB {w : World} {lo hi e size n : Nat} {A : Option Addr} (h : Rs w lo hi e size A n) {i : Nat} (hi' : i < n * size) : ∃ g u k, A = some ⟨g, 0, none⟩ ∧ lo ≤ g ∧ g < hi ∧ w.cell? ⟨g, i, none⟩ = some u ∧ w.frozen? ⟨g, i, none⟩ = false ∧ Bk w g e k := by
  rcases h with h | ⟨g, cur, h1, h2, h3, h4, h5⟩
  · subst h
    omega
  · exact ⟨g, cur[i]'(by omega), cur.size, h1, h2, h3, by rw [cell_of_row w g i cur e (0, 0) h4, Array.getElem?_eq_getElem (by omega)], frozen_of_row w g i cur e h4, cur, h4, rfl⟩
/-- The methods from i on are as they were. -/
def Msr (w : World) (A : Option Addr) (Z : List Me) (i : Nat) : Prop := Z = [] ∨ ∃ g k, A = some ⟨g, 0, none⟩ ∧ Bk w g 39 k ∧ ∀ j z, i ≤ j → Z[j]? = some z → At8 w ⟨g, j * 8, none⟩ z
/-- Amid Spoil: the argument in block W. -/
def Py (w : World) (lo hi W : Nat) (y : Ma) (d : Md) (i : Nat) (wr : World) : Prop := Sp lo hi w wr ∧ Db wr W y d ∧ Ow wr lo hi y d ∧ Msr wr y.A y.Z i ∧ hi ≤ W ∧ w.heap.size ≤ W ∧ y.Z.length = d.s.length
section
variable {w wr w' : World} {lo hi W i : Nat} {y : Ma} {d : Md}
theorem bk_ne {a b ta tb ka kb : Nat} (h : Bk wr a ta ka) (k : Bk wr b tb kb) (hne : ta ≠ tb) : a ≠ b := fun e => by
  subst e
  obtain ⟨c1, e1, _⟩ := h
  obtain ⟨c2, e2, _⟩ := k
  rw [e1] at e2
  injection e2 with e2
  injection e2 with _ e3 _
  exact hne e3
theorem At8.other {p q : Addr} {z : Me} (h : At8 wr p z) (hq : q.block ≠ p.block ∨ (q.off < p.off ∨ p.off + 8 ≤ q.off)) (v : Value) (hp : ∃ b o, p = ⟨b, o, none⟩) : At8 (wr.setCell q v) p z := by
  obtain ⟨h1, h2, h3, h4, h5, h6, h7, h8⟩ := h
  have ne : ∀ j, j < 8 → q ≠ (⟨p.block, p.off + j, none⟩ : Addr) := fun j hj e => by
    rw [e] at hq
    rcases hq with hq | hq
    · exact hq rfl
    · dsimp only at hq; omega
  have e0 : p = ⟨p.block, p.off + 0, none⟩ := by obtain ⟨b, o, rfl⟩ := hp; rfl
  refine ⟨?_, ?_, ?_, ?_, ?_, ?_, ?_, ?_⟩
  · rw [e0, World.cell?_setCell_other _ _ _ _ (ne 0 (by omega)), ← e0]; exact h1
  all_goals (rw [World.cell?_setCell_other _ _ _ _ (ne _ (by omega))]; assumption)
/-- A write to a row of another type. -/
theorem Py.put (h : Py w lo hi W y d i wr) {g e k : Nat} (hb : Bk wr g e k) (hne : e ≠ 39) (h1 : lo ≤ g) (h2 : g < hi) (j : Nat) (v : Value) : Py w lo hi W y d i (wr.setCell ⟨g, j, none⟩ v) := by
  obtain ⟨a1, a2, a3, a4, a5, a6, a7⟩ := h
  refine ⟨a1.set h1 h2 j v, a2.other (show g ≠ W by omega) v, a3.set g j v, ?_, a5, a6, a7⟩
  rcases a4 with a4 | ⟨g2, k2, b1, b2, b3⟩
  · exact .inl a4
  · exact .inr ⟨g2, k2, b1, b2.set g j v, fun j2 z hj hz => (b3 j2 z hj hz).other (.inl (bk_ne hb b2 hne)) v ⟨_, _, rfl⟩⟩
theorem Py.fuel (h : Py w lo hi W y d i wr) {g k : Nat} (hA : y.A = some ⟨g, 0, none⟩) (hb : Bk wr g 39 k) (h1 : lo ≤ g) (h2 : g < hi) (v : Value) : Py w lo hi W y d (i + 1) (wr.setCell ⟨g, i * 8 + 4, none⟩ v) := by
  obtain ⟨a1, a2, a3, a4, a5, a6, a7⟩ := h
  refine ⟨a1.set h1 h2 _ v, a2.other (show g ≠ W by omega) v, a3.set g _ v, ?_, a5, a6, a7⟩
  rcases a4 with a4 | ⟨g2, k2, b1, b2, b3⟩
  · exact .inl a4
  · rw [hA] at b1
    injection b1 with b1
    injection b1 with b1
    subst b1
    exact .inr ⟨g, k2, hA, b2.set g _ v, fun j2 z hj hz => (b3 j2 z (by omega) hz).other (.inr (.inl (by show i * 8 + 4 < j2 * 8; omega))) v ⟨_, _, rfl⟩⟩
theorem Py.call (h : Py w lo hi W y d i wr) (hb : Below wr.heap.size wr w') : Py w lo hi W y d i w' := by
  obtain ⟨a1, a2, a3, a4, a5, a6, a7⟩ := h
  refine ⟨a1.call hb, a2.keep hb, a3.keep hb, ?_, a5, a6, a7⟩
  rcases a4 with a4 | ⟨g2, k2, b1, b2, b3⟩
  · exact .inl a4
  · exact .inr ⟨g2, k2, b1, b2.keep hb, fun j2 z hj hz => (b3 j2 z hj hz).keep hb⟩
theorem Py.start (hq : Hq w y d) (ho : Ow w lo hi y d) (hh : hi ≤ w.heap.size) : Py w lo hi w.heap.size y d 0 (w.alloc (dcel y d)) := by
  refine ⟨Sp.of_below new1, Db.new w y d, ho.keep new1, ?_, hh, Nat.le_refl _, hq.zlen⟩
  rcases hq.2.2.1.2.2.2 with ⟨hn, hc⟩ | ⟨ad, e0, hc⟩
  · left
    have := hq.2.2.1.le
    exact List.eq_nil_of_length_eq_zero (by omega)
  · by_cases hZ : y.Z = []
    · exact .inl hZ
    · right
      have hl : 0 < d.s.length := by rw [← hq.zlen]; exact (List.length_pos_iff.2 hZ)
      rcases ho.2.2.1 with h0 | ⟨g, cur, a1, a2, a3, a4, a5⟩
      · omega
      · refine ⟨g, cur.size, a1, Bk.keep ⟨cur, a4, rfl⟩ new1, fun j z _ hz => ?_⟩
        rw [e0] at a1
        injection a1 with a1
        subst a1
        have h8 := (hc j z hz).keep (new1 (a := dcel y d))
        have e : (⟨g, 0, none⟩ : Addr).add (j * 8) = ⟨g, j * 8, none⟩ := by
          unfold Addr.add
          split
          · rename_i h0; simp [h0]
          · simp
        rw [e] at h8
        exact h8
end
theorem qG_bd {w : World} {y : Ma} {d : Md} (hq : Hq w y d) (h : qG d = false) : d.g.length ≤ 100 ∧ d.p.length ≤ 100 ∧ d.s.length ≤ 40 ∧ ∀ z ∈ y.Z, z.m.a.length ≤ 100 ∧ z.m.l.length ≤ 100 ∧ z.x.k ≤ 300 := by
  rw [qG, Bool.or_eq_false_iff, Bool.or_eq_false_iff, Bool.or_eq_false_iff, decide_eq_false_iff_not, decide_eq_false_iff_not, decide_eq_false_iff_not, List.any_eq_false] at h
  obtain ⟨h1, h2, h3, h4⟩ := h
  refine ⟨by omega, by omega, by omega, fun z hz => ?_⟩
  have h5 := h4 (z.m, z.k) (by rw [← hq.2.2.2.1]; exact List.mem_map.2 ⟨z, hz, rfl⟩)
  have h6 := (hq.2.2.1.1 z hz).2.2
  rw [qgE, Bool.not_eq_true, Bool.or_eq_false_iff, decide_eq_false_iff_not] at h5
  have h7 := gB_no h5.1
  have h8 := h5.2
  dsimp only at h7 h8
  omega
end Go.Proofs.YtmgppdjbmhjmbaaGreat
namespace Go.Proofs.YtmgppdjbmhjmbaaGreat
open Go.RowKit
set_option maxRecDepth 100000
set_option linter.unusedSimpArgs false
set_option linter.unusedVariables false

def set3 (w : World) (g j : Nat) (o a b : Int) : World := ((w.setCell ⟨g, j, none⟩ (.int .u8 o)).setCell ⟨g, j + 1, none⟩ (.int .i64 a)).setCell ⟨g, j + 2, none⟩ (.int .i64 b)
section
variable {w : World} {g j : Nat} {o a b : Int}
theorem set3_heap {cs : Array Value} {t : Nat} (h : w.heap[g]? = some (.cells cs t (0, 0))) : (set3 w g j o a b).heap[g]? = some (.cells (((cs.setIfInBounds j (.int .u8 o)).setIfInBounds (j + 1) (.int .i64 a)).setIfInBounds (j + 2) (.int .i64 b)) t (0, 0)) :=
  heap_setCell_same _ g _ _ t _ (heap_setCell_same _ g _ _ t _ (heap_setCell_same w g j cs t _ h))
theorem set3_sp : Sp g (g + 1) w (set3 w g j o a b) := (((Sp.refl g (g + 1) w).set (Nat.le_refl _) (by omega) _ _).set (Nat.le_refl _) (by omega) _ _).set (Nat.le_refl _) (by omega) _ _
theorem set3_cell {cs : Array Value} {t : Nat} (h : w.heap[g]? = some (.cells cs t (0, 0))) (hs : j + 2 < cs.size) (q : Nat) :
    (set3 w g j o a b).cell? ⟨g, q, none⟩ = if q = j then some (.int .u8 o) else if q = j + 1 then some (.int .i64 a) else if q = j + 2 then some (.int .i64 b) else w.cell? ⟨g, q, none⟩ := by
  rw [cell_of_row _ g q _ _ (0, 0) (set3_heap h), cell_of_row w g q _ _ (0, 0) h]
  simp only [Array.getElem?_setIfInBounds, Array.size_setIfInBounds]
  by_cases h1 : q = j
  · subst h1
    rw [if_neg (by omega), if_neg (by omega), if_pos rfl, if_pos rfl, if_pos (by omega)]
  · by_cases h2 : q = j + 1
    · subst h2
      rw [if_neg (by omega), if_pos rfl, if_pos (by omega), if_neg h1, if_pos rfl]
    · by_cases h3 : q = j + 2
      · subst h3
        rw [if_pos rfl, if_pos (by omega), if_neg h1, if_neg h2, if_pos rfl]
      · rw [if_neg (fun e => h3 e.symm), if_neg (fun e => h2 e.symm), if_neg (fun e => h1 e.symm), if_neg h1, if_neg h2, if_neg h3]
theorem add0 (g i : Nat) : (⟨g, 0, none⟩ : Addr).add i = ⟨g, i, none⟩ := by
  unfold Addr.add
  split
  · rename_i h0; simp [h0]
  · simp
theorem Ri.set3 {A : Option Addr} {e t : Nat} {L : List Ins} (h : Ri w A e L) (hA : A = some ⟨g, 0, none⟩) {cs : Array Value} {ty : Nat} (hb : w.heap[g]? = some (.cells cs ty (0, 0))) (hx : InOk (o, a, b)) : Ri (set3 w g (t * 3) o a b) A e (L.set t (o, a, b)) := by
  refine ⟨fun x hm => ?_, by rw [List.length_set]; exact h.2.1, h.2.2.1, ?_⟩
  · rcases List.mem_or_eq_of_mem_set hm with hm | rfl
    · exact h.1 x hm
    · exact hx
  · rcases h.2.2.2 with ⟨hn, -⟩ | ⟨ad, ha, hc⟩
    · rw [hA] at hn; cases hn
    · refine .inr ⟨ad, ha, fun i x hi => ?_⟩
      rw [hA] at ha
      injection ha with ha
      subst ha
      rw [add0]
      by_cases ht : t < L.length
      · obtain ⟨-, -, c3⟩ := hc t L[t] (List.getElem?_eq_getElem ht)
        rw [add0, cell_of_row w g _ _ _ (0, 0) hb] at c3
        have hsz : t * 3 + 2 < cs.size := (Array.getElem?_eq_some_iff.1 c3).1
        have key : ∀ q, q ≠ t * 3 → q ≠ t * 3 + 1 → q ≠ t * 3 + 2 → ∀ u, w.cell? ⟨g, q, none⟩ = some u → (Go.Proofs.YtmgppdjbmhjmbaaGreat.set3 w g (t * 3) o a b).cell? ⟨g, q, none⟩ = some u := fun q h1 h2 h3 u hu => (set3_cell hb hsz q).trans (by rw [if_neg h1, if_neg h2, if_neg h3]; exact hu)
        rw [List.getElem?_set] at hi
        by_cases hit : t = i
        · subst hit
          rw [if_pos rfl, if_pos ht] at hi
          injection hi with hi
          subst hi
          exact ⟨(set3_cell hb hsz _).trans (if_pos rfl), (set3_cell hb hsz _).trans (by rw [if_neg (show ¬ t * 3 + 1 = t * 3 by omega), if_pos rfl]), (set3_cell hb hsz _).trans (by rw [if_neg (show ¬ t * 3 + 2 = t * 3 by omega), if_neg (show ¬ t * 3 + 2 = t * 3 + 1 by omega), if_pos rfl])⟩
        · rw [if_neg hit] at hi
          obtain ⟨k1, k2, k3⟩ := hc i x hi
          rw [add0] at k1 k2 k3
          exact ⟨key (i * 3) (by omega) (by omega) (by omega) _ k1, key (i * 3 + 1) (by omega) (by omega) (by omega) _ k2, key (i * 3 + 2) (by omega) (by omega) (by omega) _ k3⟩
      · rw [List.set_eq_of_length_le (by omega)] at hi
        obtain ⟨k1, k2, k3⟩ := hc i x hi
        rw [add0] at k1 k2 k3
        have hil := (List.getElem?_eq_some_iff.1 hi).1
        have ne : ∀ {p q : Nat} {v u : Value} {w' : World}, q ≠ p → w'.cell? ⟨g, q, none⟩ = some u → (w'.setCell ⟨g, p, none⟩ v).cell? ⟨g, q, none⟩ = some u := fun hpq hu => by
          rw [World.cell?_setCell_other _ _ _ _ (fun e => hpq (by injection e with _ e2; exact e2.symm))]
          exact hu
        exact ⟨ne (by omega) (ne (by omega) (ne (by omega) k1)), ne (by dsimp only; omega) (ne (by dsimp only; omega) (ne (by dsimp only; omega) k2)), ne (by dsimp only; omega) (ne (by dsimp only; omega) (ne (by dsimp only; omega) k3))⟩
theorem Rs.nt {lo hi e s n t k : Nat} {A : Option Addr} (hs : Rs w lo hi e s A n) (hg : Bk w g t k) (hne : e ≠ t) : ∃ l2, Rs w l2 (l2 + 1) e s A n ∧ (l2 + 1 ≤ g ∨ g + 1 ≤ l2) := by
  rcases hs with h0 | ⟨g2, cur, a1, a2, a3, a4, a5⟩
  · exact ⟨g + 1, .inl h0, .inr (Nat.le_refl _)⟩
  · have hn := bk_ne (⟨cur, a4, rfl⟩ : Bk w g2 e cur.size) hg hne
    exact ⟨g2, .inr ⟨g2, cur, a1, Nat.le_refl _, by omega, a4, a5⟩, by omega⟩
end
open Classical in
/-- A method whose code, if it lies in block g, is another one at t. -/
noncomputable def uz10 (g t : Nat) (x : Ins) (z : Me) : Me := { z with k := if z.x.D = some ⟨g, 0, none⟩ then z.k.set t x else z.k }
theorem uz10_len (g t : Nat) (x : Ins) (z : Me) : (uz10 g t x z).k.length = z.k.length := by
  unfold uz10
  dsimp only
  split
  · rw [List.length_set]
  · rfl
theorem hq_code {w : World} {lo hi g t kk : Nat} {o a b : Int} {y : Ma} {d : Md} (hq : Hq w y d) (ho : Ow w lo hi y d) (hg : Bk w g 67 kk) (hx : InOk (o, a, b)) :
    Hq (set3 w g (t * 3) o a b) { y with Z := y.Z.map (uz10 g t (o, a, b)) } { d with s := (y.Z.map (uz10 g t (o, a, b))).map ze } := by
  have hp : Sp g (g + 1) w (set3 w g (t * 3) o a b) := set3_sp
  obtain ⟨l1, r1, n1⟩ := ho.1.nt hg (by decide)
  obtain ⟨l2, r2, n2⟩ := ho.2.1.nt hg (by decide)
  obtain ⟨l3, r3, n3⟩ := ho.2.2.1.nt hg (by decide)
  refine ⟨hq.1.apart r1 hp n1, hq.2.1.apart r2 hp n2, ⟨fun z hz => ?_, ?_, hq.2.2.1.2.2.1, ?_⟩, rfl, hq.2.2.2.2⟩
  · obtain ⟨u, hu, rfl⟩ := List.mem_map.1 hz
    obtain ⟨⟨k1, k2, k3⟩, k4, k5⟩ := hq.2.2.1.1 u hu
    obtain ⟨o1, o2, o3⟩ := ho.2.2.2 u hu
    obtain ⟨m1, s1, e1⟩ := o1.nt hg (by decide)
    obtain ⟨m2, s2, e2⟩ := o2.nt hg (by decide)
    refine ⟨⟨k1.apart s1 hp e1, k2.apart s2 hp e2, k3⟩, ?_, by rw [uz10_len]; exact k5⟩
    show Ri _ u.x.D u.x.e (uz10 g t (o, a, b) u).k
    unfold uz10
    dsimp only
    split
    · rename_i hD
      obtain ⟨cs, hcs, -⟩ := hg
      exact k4.set3 hD hcs hx
    · rename_i hD
      rcases o3 with h0 | ⟨g2, cur, a1, a2, a3, a4, a5⟩
      · refine k4.apart (lo2 := g + 1) (hi2 := g + 1) (e := 0) (.inl (by omega)) hp (.inr (Nat.le_refl _))
      · have hne : g2 ≠ g := fun e => hD (by rw [a1, e])
        refine k4.apart (lo2 := g2) (hi2 := g2 + 1) (.inr ⟨g2, cur, a1, Nat.le_refl _, by omega, a4, by rw [k5]; exact a5⟩) hp (by omega)
  · show (y.Z.map _).length ≤ _
    rw [List.length_map]
    exact hq.2.2.1.2.1
  · rcases hq.2.2.1.2.2.2 with hn | ⟨ad, e0, hc⟩
    · exact .inl hn
    · refine .inr ⟨ad, e0, fun i z hz => ?_⟩
      dsimp only at hz
      rw [List.getElem?_map, Option.map_eq_some_iff] at hz
      obtain ⟨u, hu, rfl⟩ := hz
      have h8 : At8 (set3 w g (t * 3) o a b) (ad.add (i * 8)) u := by
        obtain ⟨g3, b1, b2, b3, b4⟩ := r3.blk (by have := (List.getElem?_eq_some_iff.1 hu).1; rw [hq.zlen] at this; omega)
        rw [e0] at b1
        obtain rfl := Option.some.inj b1
        exact (hc i u hu).apart hp (by rw [add_block]; show g3 < g ∨ g + 1 ≤ g3; omega)
      exact h8
/-- .. and its rows. -/
theorem rw10_code {w : World} {g t n : Nat} {x : Ins} {y : Ma} {d : Md} {h : Mh} {c : List Ins} (hq : Hq w y d) (hk : d.s[n]? = some (h, c)) (u : Un9 c t x) (ht : th10 d h x = true) (he : (rw10s d n).2 = 0) (hr : ((rw10s d n).1[t]?.getD z10).1 = false)
    {z : Me} (hz : y.Z[n]? = some z) (hD : z.x.D = some ⟨g, 0, none⟩) : rw10s { d with s := (y.Z.map (uz10 g t x)).map ze } n = rw10s d n := by
  have h1 := rw10s_unseen hk u ht he hr (d' := { d with s := d.s.set n (h, c.set t x) }) rfl rfl rfl
  rw [← h1]
  have hzn : ze z = (h, c) := by
    have := hq.2.2.2.1
    rw [← this, List.getElem?_map, hz] at hk
    injection hk
  have hn : n < d.s.length := (List.getElem?_eq_some_iff.1 hk).1
  refine rw10s_same (d := { d with s := d.s.set n (h, c.set t x) }) (d' := { d with s := (y.Z.map (uz10 g t x)).map ze }) (k := (n : Int)) ⟨rfl, rfl, ?_⟩ fun z1 z2 _ e1 e2 => ?_
  · dsimp only
    rw [List.map_set, List.map_map, List.map_map]
    apply List.ext_getElem?
    intro i
    rw [List.getElem?_set]
    have hs : d.s = y.Z.map ze := hq.2.2.2.1.symm
    split
    · rename_i e
      subst e
      rw [if_pos (by rw [List.length_map]; exact hn), List.getElem?_map, hz]
      have e3 : z.m = h := congrArg Prod.fst hzn
      simp [uz10, e3]
    · rw [hs, List.map_map, List.getElem?_map, List.getElem?_map]
      rfl
  · dsimp only at e1 e2
    rw [Int.toNat_natCast, List.getElem?_set, if_pos rfl, if_pos hn] at e1
    injection e1 with e1
    rw [Int.toNat_natCast, List.getElem?_map, List.getElem?_map, hz] at e2
    injection e2 with e2
    subst e1 e2
    have e3 : z.m = h := congrArg Prod.fst hzn
    have e4 : z.k = c := congrArg Prod.snd hzn
    simp [uz10, hD, e3, e4]
end Go.Proofs.YtmgppdjbmhjmbaaGreat
namespace Go.Proofs.YtmgppdjbmhjmbaaGreat
open Go.RowKit
set_option maxRecDepth 100000
set_option linter.unusedSimpArgs false
set_option linter.unusedVariables false

structure Aw (lo hi M : Nat) (d : Md) (k : Int) (wr : World) (y' : Ma) (d' : Md) : Prop where
  hq : Hq wr y' d'
  ow : Ow wr lo hi y' d'
  db : Db wr M y' d'
  sa : Sa10 d d'
  me : ∀ z z', 0 ≤ k → d.s[k.toNat]? = some z → d'.s[k.toNat]? = some z' → z'.1.l = z.1.l ∧ z'.2 = z.2
  qg : qG d' = false
  hm : hi ≤ M
section
variable {lo hi M g : Nat} {d d' : Md} {k : Int} {wr w' : World} {y' : Ma}
theorem Aw.rows (h : Aw lo hi M d k wr y' d') : rw10s d' k = rw10s d k := rw10s_same h.sa h.me
theorem Aw.keep (h : Aw lo hi M d k wr y' d') (hb : Below wr.heap.size wr w') : Aw lo hi M d k w' y' d' := ⟨h.hq.keep hb, h.ow.keep hb, h.db.keep hb, h.sa, h.me, h.qg, h.hm⟩
theorem Aw.lens (h : Aw lo hi M d k wr y' d') : d'.g.length = d.g.length ∧ d'.p.length = d.p.length ∧ d'.s.length = d.s.length :=
  ⟨by simpa using congrArg List.length h.sa.g, by simpa using congrArg List.length h.sa.p, by simpa using congrArg List.length h.sa.s⟩
theorem sp1 (w : World) (g j : Nat) (v : Value) : Sp g (g + 1) w (w.setCell ⟨g, j, none⟩ v) := (Sp.refl g (g + 1) w).set (Nat.le_refl _) (by omega) _ _
theorem Aw.mig (h : Aw lo hi M d k wr y' d') (v : Int) (hv : -9223372036854775808 ≤ v ∧ v ≤ 9223372036854775807) : Aw lo hi M d k (wr.setCell ⟨M, 3, none⟩ (.int .i64 v)) y' { d' with i := v } := by
  have q := h.hq.apart h.ow (sp1 wr M 3 (.int .i64 v)) (.inl h.hm)
  obtain ⟨h0, h1, h2, h3, h4⟩ := h.db
  have ne : ∀ {q : Nat} {u : Value}, q ≠ 3 → wr.cell? ⟨M, q, none⟩ = some u → (wr.setCell ⟨M, 3, none⟩ (.int .i64 v)).cell? ⟨M, q, none⟩ = some u := fun hpq hu => by
    rw [World.cell?_setCell_other _ _ _ _ (fun e => hpq (by injection e with _ e2; exact e2.symm))]
    exact hu
  exact ⟨⟨q.1, q.2.1, q.2.2.1, q.2.2.2.1, hv⟩, h.ow.set _ _ _, ⟨by simpa [World.setCell] using h0, ne (by decide) h1, ne (by decide) h2, ne (by decide) h3, World.cell?_setCell_same _ _ _ h4⟩, ⟨h.sa.p, h.sa.g, h.sa.s⟩, h.me, h.qg, h.hm⟩
theorem vset {w : World} {A : Option Addr} {c j f : Nat} {L : List Vlu} {v : Int} (h : Rv w A c L) (hs : Rs w lo hi 57 3 A L.length) (hf : f = 1 ∨ f = 2) (hv : -9223372036854775808 ≤ v ∧ v ≤ 9223372036854775807) :
    ∃ L' : List Vlu, L'.map (fun x => x.1) = L.map (fun x => x.1) ∧ Rv (w.setCell ⟨g, j * 3 + f, none⟩ (.int .i64 v)) A c L' := by
  rcases hs with h0 | ⟨g0, cur, a1, a2, a3, a4, a5⟩
  · refine ⟨L, rfl, h.1, h.2.1, h.2.2.1, ?_⟩
    rcases h.2.2.2 with hn | ⟨ad, ha, -⟩
    · exact .inl hn
    · exact .inr ⟨ad, ha, fun i x hx => by rw [List.eq_nil_of_length_eq_zero h0] at hx; cases hx⟩
  · by_cases hg : g0 = g
    · subst hg
      have ne : ∀ q u, q ≠ j * 3 + f → w.cell? ⟨g0, q, none⟩ = some u → (w.setCell ⟨g0, j * 3 + f, none⟩ (.int .i64 v)).cell? ⟨g0, q, none⟩ = some u := fun q u hpq hu => by
        rw [World.cell?_setCell_other _ _ _ _ (fun e => hpq (by injection e with _ e2; exact e2.symm))]
        exact hu
      by_cases hj : j < L.length
      · obtain ⟨x0, hx0⟩ : ∃ x, L[j]? = some x := ⟨_, List.getElem?_eq_getElem hj⟩
        refine ⟨L.set j (if f = 1 then (x0.1, v, x0.2.2) else (x0.1, x0.2.1, v)), ?_, fun x hm => ?_, by rw [List.length_set]; exact h.2.1, h.2.2.1, ?_⟩
        · rw [List.map_set]
          apply List.ext_getElem?
          intro i
          rw [List.getElem?_set]
          split
          · rename_i e
            subst e
            rw [if_pos (by rw [List.length_map]; exact hj), List.getElem?_map, hx0]
            split <;> rfl
          · rfl
        · have hok := h.1 x0 (List.mem_of_getElem? hx0)
          rcases List.mem_or_eq_of_mem_set hm with hm | rfl
          · exact h.1 x hm
          · split
            · exact ⟨hok.1, hv, hok.2.2⟩
            · exact ⟨hok.1, hok.2.1, hv⟩
        · rcases h.2.2.2 with ⟨hn, -⟩ | ⟨ad, ha, hc⟩
          · rw [a1] at hn; cases hn
          · refine .inr ⟨ad, ha, fun i x hi => ?_⟩
            rw [a1] at ha
            injection ha with ha
            subst ha
            rw [add0]
            rw [List.getElem?_set] at hi
            by_cases hij : j = i
            · subst hij
              rw [if_pos rfl, if_pos hj] at hi
              injection hi with hi
              obtain ⟨c1, c2, c3⟩ := hc j x0 hx0
              rw [add0] at c1 c2 c3
              subst hi
              rcases hf with rfl | rfl
              · rw [if_pos rfl]
                exact ⟨ne _ _ (by omega) c1, World.cell?_setCell_same _ _ _ c2, ne (j * 3 + 2) _ (by omega) c3⟩
              · rw [if_neg (by decide)]
                exact ⟨ne _ _ (by omega) c1, ne (j * 3 + 1) _ (by omega) c2, World.cell?_setCell_same _ _ _ c3⟩
            · rw [if_neg hij] at hi
              obtain ⟨c1, c2, c3⟩ := hc i x hi
              rw [add0] at c1 c2 c3
              exact ⟨ne _ _ (by omega) c1, ne (i * 3 + 1) _ (by omega) c2, ne (i * 3 + 2) _ (by omega) c3⟩
      · refine ⟨L, rfl, h.1, h.2.1, h.2.2.1, ?_⟩
        rcases h.2.2.2 with ⟨hn, -⟩ | ⟨ad, ha, hc⟩
        · rw [a1] at hn; cases hn
        · refine .inr ⟨ad, ha, fun i x hi => ?_⟩
          rw [a1] at ha
          injection ha with ha
          subst ha
          have hil := (List.getElem?_eq_some_iff.1 hi).1
          obtain ⟨c1, c2, c3⟩ := hc i x hi
          rw [add0] at c1 c2 c3 ⊢
          exact ⟨ne _ _ (by omega) c1, ne (i * 3 + 1) _ (by omega) c2, ne (i * 3 + 2) _ (by omega) c3⟩
    · exact ⟨L, rfl, h.apart (lo2 := g0) (hi2 := g0 + 1) (e := 57) (.inr ⟨g0, cur, a1, Nat.le_refl _, by omega, a4, a5⟩) (sp1 w g _ _) (by omega)⟩
theorem ok_nt {w : World} {z : Me} {t kk : Nat} (h : z.ok w) (ho : Owz w lo hi z) (hg : Bk w g t kk) (h1 : 5 ≠ t) (h2 : 67 ≠ t) (j : Nat) (v : Value) : z.ok (w.setCell ⟨g, j, none⟩ v) := by
  obtain ⟨⟨k1, k2, k3⟩, k4, k5⟩ := h
  obtain ⟨o1, o2, o3⟩ := ho
  obtain ⟨m1, s1, e1⟩ := o1.nt hg h1
  obtain ⟨m2, s2, e2⟩ := o2.nt hg h1
  obtain ⟨m3, s3, e3⟩ := o3.nt hg h2
  exact ⟨⟨k1.apart s1 (sp1 w g j v) e1, k2.apart s2 (sp1 w g j v) e2, k3⟩, k4.apart (by rw [k5]; exact s3) (sp1 w g j v) e3, k5⟩
theorem Aw.val {j f kk : Nat} {v : Int} (h : Aw lo hi M d k wr y' d') (hg : Bk wr g 57 kk) (h2 : g < hi) (hf : f = 1 ∨ f = 2) (hv : -9223372036854775808 ≤ v ∧ v ≤ 9223372036854775807) : ∃ d'', Aw lo hi M d k (wr.setCell ⟨g, j * 3 + f, none⟩ (.int .i64 v)) y' d'' := by
  obtain ⟨G', eG, hG⟩ := vset (g := g) (j := j) h.hq.1 h.ow.1 hf hv
  obtain ⟨P', eP, hP⟩ := vset (g := g) (j := j) h.hq.2.1 h.ow.2.1 hf hv
  have lG : G'.length = d'.g.length := by simpa using congrArg List.length eG
  have lP : P'.length = d'.p.length := by simpa using congrArg List.length eP
  obtain ⟨l3, r3, n3⟩ := h.ow.2.2.1.nt hg (by decide)
  have hp := sp1 wr g (j * 3 + f) (.int .i64 v)
  have ho := h.ow.set g (j * 3 + f) (.int .i64 v)
  have hb := h.db.apart hp (.inr (by have := h.hm; omega))
  refine ⟨⟨G', P', d'.s, d'.i⟩, ⟨hG, hP, ⟨fun z hz => ok_nt (h.hq.2.2.1.1 z hz) (h.ow.2.2.2 z hz) hg (by decide) (by decide) _ _, h.hq.2.2.1.2.1, h.hq.2.2.1.2.2.1, ?_⟩, h.hq.2.2.2⟩, ⟨by rw [lG]; exact ho.1, by rw [lP]; exact ho.2.1, ho.2.2.1, ho.2.2.2⟩, ⟨hb.1, by rw [lG]; exact hb.2.1, by rw [lP]; exact hb.2.2.1, hb.2.2.2.1, hb.2.2.2.2⟩, ⟨eP.trans h.sa.p, eG.trans h.sa.g, h.sa.s⟩, h.me, ?_, h.hm⟩
  · rcases h.hq.2.2.1.2.2.2 with hn | ⟨ad, e0, hc⟩
    · exact .inl hn
    · refine .inr ⟨ad, e0, fun i u hu => ?_⟩
      obtain ⟨g3, b1, b2, b3, b4⟩ := r3.blk (by have := (List.getElem?_eq_some_iff.1 hu).1; rw [h.hq.zlen] at this; omega)
      rw [e0] at b1
      obtain rfl := Option.some.inj b1
      exact (hc i u hu).apart hp (by rw [add_block]; show g3 < g ∨ g + 1 ≤ g3; omega)
  · have := h.qg
    simp only [qG] at this ⊢
    rw [lG, lP]
    exact this
theorem Aw.meth {j f kk : Nat} {v : Value} {z z' : Me} (h : Aw lo hi M d k wr y' d') (hA : y'.A = some ⟨g, 0, none⟩) (hg : Bk wr g 39 kk) (h2 : g < hi) (hf : f < 8) (hz : y'.Z[j]? = some z)
    (hat : At8 (wr.setCell ⟨g, j * 8 + f, none⟩ v) ⟨g, j * 8, none⟩ z') (hok : z'.ok (wr.setCell ⟨g, j * 8 + f, none⟩ v)) (hoz : Owz wr lo hi z') (e1 : z'.m.a = z.m.a ∧ z'.m.r = z.m.r) (e2 : k = (j : Int) → z'.m.l = z.m.l ∧ z'.k = z.k) (e3 : qgE (ze z') = false) :
    Aw lo hi M d k (wr.setCell ⟨g, j * 8 + f, none⟩ v) { y' with Z := y'.Z.set j z' } { d' with s := (y'.Z.set j z').map ze } := by
  have hp := sp1 wr g (j * 8 + f) v
  obtain ⟨l1, r1, n1⟩ := h.ow.1.nt hg (by decide)
  obtain ⟨l2, r2, n2⟩ := h.ow.2.1.nt hg (by decide)
  have ho := h.ow.set g (j * 8 + f) v
  have hb := h.db.apart hp (.inr (by have := h.hm; omega))
  have hl : ((y'.Z.set j z').map ze).length = d'.s.length := by rw [List.length_map, List.length_set, h.hq.zlen]
  have hs : d'.s = y'.Z.map ze := h.hq.2.2.2.1.symm
  have hjz := (List.getElem?_eq_some_iff.1 hz).1
  refine ⟨⟨h.hq.1.apart r1 hp n1, h.hq.2.1.apart r2 hp n2, ⟨fun u hu => ?_, ?_, h.hq.2.2.1.2.2.1, ?_⟩, rfl, h.hq.2.2.2.2⟩, ⟨ho.1, ho.2.1, by rw [hl]; exact ho.2.2.1, fun u hu => ?_⟩, ⟨hb.1, hb.2.1, hb.2.2.1, by rw [hl]; exact hb.2.2.2.1, hb.2.2.2.2⟩, ⟨h.sa.p, h.sa.g, ?_⟩, fun z1 z2 hk e4 e5 => ?_, ?_, h.hm⟩
  · rcases List.mem_or_eq_of_mem_set hu with hu | rfl
    · exact ok_nt (h.hq.2.2.1.1 u hu) (h.ow.2.2.2 u hu) hg (by decide) (by decide) _ _
    · exact hok
  · show (y'.Z.set j z').length ≤ _
    rw [List.length_set]
    exact h.hq.2.2.1.2.1
  · rcases h.hq.2.2.1.2.2.2 with ⟨hn, -⟩ | ⟨ad, e0, hc⟩
    · rw [hA] at hn; cases hn
    · refine .inr ⟨ad, e0, fun i u hu => ?_⟩
      rw [hA] at e0
      injection e0 with e0
      subst e0
      rw [add0]
      dsimp only at hu
      rw [List.getElem?_set] at hu
      by_cases hij : j = i
      · subst hij
        rw [if_pos rfl, if_pos hjz] at hu
        injection hu with hu
        subst hu
        exact hat
      · rw [if_neg hij] at hu
        have h8 := hc i u hu
        rw [add0] at h8
        exact h8.other (.inr (by dsimp only; omega)) _ ⟨_, _, rfl⟩
  · rcases List.mem_or_eq_of_mem_set hu with hu | rfl
    · exact ho.2.2.2 u hu
    · exact hoz.set _ _ _
  · rw [← h.sa.s]
    dsimp only
    rw [hs, List.map_map, List.map_map, List.map_set]
    apply List.ext_getElem?
    intro i
    rw [List.getElem?_set]
    split
    · rename_i e
      subst e
      rw [if_pos (by rw [List.length_map]; exact hjz), List.getElem?_map, hz]
      simp [e1]
    · rfl
  · dsimp only at e5
    rw [List.getElem?_map, List.getElem?_set] at e5
    by_cases hjk : j = k.toNat
    · rw [if_pos hjk, if_pos hjz] at e5
      injection e5 with e5
      subst e5
      have e6 := h.me z1 (ze z) hk e4 (by rw [hs, ← hjk, List.getElem?_map, hz]; rfl)
      obtain ⟨q1, q2⟩ := e2 (by omega)
      exact ⟨q1.trans e6.1, q2.trans e6.2⟩
    · rw [if_neg hjk] at e5
      exact h.me z1 z2 hk e4 (by rw [hs, List.getElem?_map]; exact e5)
  · have hq := h.qg
    simp only [qG, Bool.or_eq_false_iff] at hq ⊢
    refine ⟨hq.1, hq.2.1, by rw [hl]; exact hq.2.2.1, ?_⟩
    rw [List.any_eq_false]
    intro u hu
    obtain ⟨q, hq1, rfl⟩ := List.mem_map.1 hu
    rcases List.mem_or_eq_of_mem_set hq1 with hq1 | rfl
    · exact (List.any_eq_false.1 hq.2.2.2) _ (by rw [hs]; exact List.mem_map.2 ⟨q, hq1, rfl⟩)
    · rw [e3]; decide
end
section
variable {w : World} {g p : Nat} {z : Me}
theorem c8n {w : World} {g p q : Nat} {v u : Value} (h : q ≠ p) (hu : w.cell? ⟨g, q, none⟩ = some u) : (w.setCell ⟨g, p, none⟩ v).cell? ⟨g, q, none⟩ = some u := by
  rw [World.cell?_setCell_other _ _ _ _ (fun e => h (by injection e with _ e2; exact e2.symm))]
  exact hu
theorem at8_f (h : At8 w ⟨g, p, none⟩ z) (v : Int) : At8 (w.setCell ⟨g, p + 4, none⟩ (.int .i64 v)) ⟨g, p, none⟩ { z with m := { z.m with f := v } } := by
  obtain ⟨h1, h2, h3, h4, h5, h6, h7, h8⟩ := h
  exact ⟨c8n (by omega) h1, c8n (by dsimp only; omega) h2, c8n (by dsimp only; omega) h3, c8n (by dsimp only; omega) h4, World.cell?_setCell_same _ _ _ h5, c8n (by dsimp only; omega) h6, c8n (by dsimp only; omega) h7, c8n (by dsimp only; omega) h8⟩
theorem at8_s (h : At8 w ⟨g, p, none⟩ z) (v : Int) : At8 (w.setCell ⟨g, p + 5, none⟩ (.int .i64 v)) ⟨g, p, none⟩ { z with m := { z.m with s := v } } := by
  obtain ⟨h1, h2, h3, h4, h5, h6, h7, h8⟩ := h
  exact ⟨c8n (by omega) h1, c8n (by dsimp only; omega) h2, c8n (by dsimp only; omega) h3, c8n (by dsimp only; omega) h4, c8n (by dsimp only; omega) h5, World.cell?_setCell_same _ _ _ h6, c8n (by dsimp only; omega) h7, c8n (by dsimp only; omega) h8⟩
theorem at8_q (h : At8 w ⟨g, p, none⟩ z) (v : Bool) : At8 (w.setCell ⟨g, p + 3, none⟩ (.bool v)) ⟨g, p, none⟩ { z with m := { z.m with q := v } } := by
  obtain ⟨h1, h2, h3, h4, h5, h6, h7, h8⟩ := h
  exact ⟨c8n (by omega) h1, c8n (by dsimp only; omega) h2, c8n (by dsimp only; omega) h3, World.cell?_setCell_same _ _ _ h4, c8n (by dsimp only; omega) h5, c8n (by dsimp only; omega) h6, c8n (by dsimp only; omega) h7, c8n (by dsimp only; omega) h8⟩
theorem at8_k (h : At8 w ⟨g, p, none⟩ z) : At8 (w.setCell ⟨g, p + 7, none⟩ (.slice none 0 0)) ⟨g, p, none⟩ { x := { z.x with D := none, k := 0, e := 0 }, m := z.m, k := [] } := by
  obtain ⟨h1, h2, h3, h4, h5, h6, h7, h8⟩ := h
  exact ⟨c8n (by omega) h1, c8n (by dsimp only; omega) h2, c8n (by dsimp only; omega) h3, c8n (by dsimp only; omega) h4, c8n (by dsimp only; omega) h5, c8n (by dsimp only; omega) h6, c8n (by dsimp only; omega) h7, World.cell?_setCell_same _ _ _ h8⟩
theorem at8_l (h : At8 w ⟨g, p, none⟩ z) : At8 (w.setCell ⟨g, p + 1, none⟩ (.slice none 0 0)) ⟨g, p, none⟩ { z with x := { z.x with B := none, d := 0 }, m := { z.m with l := [] } } := by
  obtain ⟨h1, h2, h3, h4, h5, h6, h7, h8⟩ := h
  exact ⟨c8n (by omega) h1, World.cell?_setCell_same _ _ _ h2, c8n (by dsimp only; omega) h3, c8n (by dsimp only; omega) h4, c8n (by dsimp only; omega) h5, c8n (by dsimp only; omega) h6, c8n (by dsimp only; omega) h7, c8n (by dsimp only; omega) h8⟩
end
end Go.Proofs.YtmgppdjbmhjmbaaGreat
