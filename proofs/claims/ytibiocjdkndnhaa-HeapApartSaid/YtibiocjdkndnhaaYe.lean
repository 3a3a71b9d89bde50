/-
  Layer 15: rows of rows of the call's own; the reference's heap: New, Used, has, Place, At, Put, Len.
-/
import Derived.Test.YtibiocjdkndnhaaYc
namespace Go.Proofs.Ytibiocjdkndnhaa
open Go.RowKit
set_option maxRecDepth 100000
set_option linter.unusedSimpArgs false
set_option linter.unusedVariables false

def cr15 (G : List Nat) (Z : List (List Int)) : List Value := List.zipWith (fun g z => Value.slice (some ⟨g, 0, none⟩) z.length z.length) G Z
/-- A row of rows, each in a block of its own. -/
structure Rw15 (w : World) (A : Option Addr) (c : Nat) (Z : List (List Int)) (G : List Nat) : Prop where
  len : G.length = Z.length
  row : w.ownsRow 0 43 1 (.slice A Z.length c) Z.length (cr15 G Z)
  each : ∀ (k g : Nat) (z : List Int), G[k]? = some g → Z[k]? = some z → Wd15 w g z
  nd : G.Nodup
/-- It lies in the blocks of X. -/
def Wt15 (X : Nat → Prop) (w : World) (A : Option Addr) (c : Nat) (Z : List (List Int)) : Prop := ∃ G, Rw15 w A c Z G ∧ (∀ g ∈ G, X g) ∧ (∀ a, A = some a → X a.block) ∧ ∀ j, X j → j < w.heap.size
section
variable {w w' : World} {A A' : Option Addr} {c c' k g : Nat} {Z : List (List Int)} {G : List Nat} {X Y : Nat → Prop} {z : List Int} {i : Nat} {v : Int}
theorem cr15_len (h : G.length = Z.length) : (cr15 G Z).length = Z.length := by rw [cr15, List.length_zipWith, h, Nat.min_self]
theorem cr15_at (h1 : G[k]? = some g) (h2 : Z[k]? = some z) : (cr15 G Z)[k]? = some (Value.slice (some ⟨g, 0, none⟩) z.length z.length) := by
  rw [cr15, List.getElem?_zipWith, h1, h2]
theorem Rw15.get (h : Rw15 w A c Z G) (hz : Z[k]? = some z) : ∃ g, G[k]? = some g ∧ Wd15 w g z := by
  have h1 := (List.getElem?_eq_some_iff.1 hz).1
  have h2 : G[k]? = some (G[k]'(by rw [h.len]; exact h1)) := List.getElem?_eq_getElem _
  exact ⟨_, h2, h.each _ _ _ h2 hz⟩
theorem Rw15.at_ (h : Rw15 w A c Z G) (hz : Z[k]? = some z) : ∃ ra g, A = some ⟨ra, 0, none⟩ ∧ G[k]? = some g ∧ w.cell? ⟨ra, k, none⟩ = some (.slice (some ⟨g, 0, none⟩) z.length z.length) ∧ Wd15 w g z := by
  have h1 := (List.getElem?_eq_some_iff.1 hz).1
  obtain ⟨g, h2, h3⟩ := h.get hz
  rcases h.row.2 with ⟨_, h0⟩ | ⟨ra, cap, cur, hv, _⟩
  · omega
  · injection hv with e1
    subst e1
    have := h.row.cells rfl k _ (cr15_at h2 hz)
    rw [as15, Nat.zero_add] at this
    exact ⟨ra, g, rfl, h2, this, h3⟩
theorem Rw15.ty (h : Rw15 w A c Z G) {a : Addr} (ha : A = some a) : ∃ cur, w.heap[a.block]? = some (.cells cur 43 (0, 0)) := by
  subst ha
  rcases h.row.2 with ⟨h1, _⟩ | ⟨ra, cap, cur, hv, _, hh, _⟩
  · cases h1
  · injection hv with e1
    injection e1 with e1
    subst e1
    exact ⟨cur, hh⟩
theorem Rw15.apart (h : Rw15 w A c Z G) {a : Addr} (ha : A = some a) {g : Nat} {l : List Int} (hg : Wd15 w g l) : g ≠ a.block := by
  intro e
  subst e
  obtain ⟨cur, hc⟩ := h.ty ha
  have := hc.symm.trans hg
  simp at this
theorem Rw15.fr (h : Rw15 w A c Z G) (hf : Fr11 Y w w') (h1 : ∀ g ∈ G, ¬ Y g) (h2 : ∀ a, A = some a → ¬ Y a.block) : Rw15 w' A c Z G :=
  ⟨h.len, hf.own h.row (fun j hj => by
    cases A with
    | none => simp [Value.ownBlock] at hj
    | some a => have e : a.block = j := by { simpa [Value.ownBlock] using hj }; rw [← e]; exact h2 a rfl), fun k g z hg hz => (h.each k g z hg hz).fr hf (h1 g (List.mem_of_getElem? hg)), h.nd⟩
theorem cr15_set (hz : Z[k]? = some z) {u : List Int} (hu : u.length = z.length) : cr15 G (Z.set k u) = cr15 G Z := by
  apply List.ext_getElem?
  intro j
  rw [cr15, cr15, List.getElem?_zipWith, List.getElem?_zipWith]
  by_cases e : k = j
  · subst e
    rw [List.getElem?_set_self (List.getElem?_eq_some_iff.1 hz).1, hz]
    cases G[k]? with
    | none => rfl
    | some g => simp [hu]
  · rw [List.getElem?_set_ne e]
theorem Rw15.put (h : Rw15 w A c Z G) (hz : Z[k]? = some z) (hg : G[k]? = some g) (v : Int) (i : Nat) : Rw15 (w.setCell ⟨g, i, none⟩ (.int .i64 v)) A c (Z.set k (z.set i v)) G := by
  have hw := h.each _ _ _ hg hz
  have hf : Fr11 (fun j => j = g) w (w.setCell ⟨g, i, none⟩ (.int .i64 v)) := (Fr11.refl (fun j => j = g) w).set (p := ⟨g, i, none⟩) (.inr rfl) _
  refine ⟨by rw [List.length_set]; exact h.len, ?_, fun j q u hq hu => ?_, h.nd⟩
  · rw [cr15_set hz (by simp), List.length_set]
    exact hf.own h.row (fun j hj => by
      cases A with
      | none => simp [Value.ownBlock] at hj
      | some a => have e : a.block = j := by { simpa [Value.ownBlock] using hj }; rw [← e]; exact fun e => h.apart rfl hw e.symm)
  · by_cases e : k = j
    · subst e
      rw [List.getElem?_set_self (List.getElem?_eq_some_iff.1 hz).1] at hu
      injection hu with hu
      subst hu
      rw [hg] at hq
      injection hq with hq
      subst hq
      exact hw.put _ _
    · rw [List.getElem?_set_ne e] at hu
      refine (h.each _ _ _ hq hu).fr hf fun e2 => e ?_
      subst e2
      have hl1 := (List.getElem?_eq_some_iff.1 hg)
      have hl2 := (List.getElem?_eq_some_iff.1 hq)
      exact (List.getElem_inj (h₀ := hl1.1) (h₁ := hl2.1) h.nd).1 (hl1.2.trans hl2.2.symm)
theorem Rw15.app (h : Rw15 w A c Z G) (hf : Fr11 (fun j => some j = (Value.slice A Z.length c).ownBlock) w w') (hg : Wd15 w' g z) (hn : w.heap.size ≤ g)
    (ho : w'.ownsRow 0 43 1 (.slice A' (Z.length + 1) c') (Z.length + 1) (cr15 G Z ++ [Value.slice (some ⟨g, 0, none⟩) z.length z.length])) : Rw15 w' A' c' (Z ++ [z]) (G ++ [g]) := by
  have hlt : ∀ q ∈ G, q < w.heap.size := fun q hq => by
    obtain ⟨k, hk⟩ := List.getElem?_of_mem hq
    have h1 := (List.getElem?_eq_some_iff.1 hk).1
    exact (h.each _ _ _ hk (List.getElem?_eq_getElem (by rw [← h.len]; exact h1))).lt
  refine ⟨by simp [h.len], ?_, fun j q u hq hu => ?_, ?_⟩
  · rw [List.length_append]
    have : cr15 (G ++ [g]) (Z ++ [z]) = cr15 G Z ++ [Value.slice (some ⟨g, 0, none⟩) z.length z.length] := by
      rw [cr15, List.zipWith_append h.len]
      rfl
    rw [this]
    exact ho
  · by_cases e : j < Z.length
    · rw [List.getElem?_append_left (by rw [h.len]; exact e)] at hq
      rw [List.getElem?_append_left e] at hu
      have hw := h.each _ _ _ hq hu
      refine hw.fr hf fun e2 => ?_
      cases A with
      | none => simp [Value.ownBlock] at e2
      | some a => exact h.apart rfl hw (by simpa [Value.ownBlock] using e2)
    · have h1 := (List.getElem?_eq_some_iff.1 hu).1
      rw [List.length_append, List.length_singleton] at h1
      obtain rfl : j = Z.length := by omega
      rw [List.getElem?_append_right (by rw [h.len]; omega), h.len, Nat.sub_self] at hq
      rw [List.getElem?_append_right (by omega), Nat.sub_self] at hu
      simp at hq hu
      subst hq hu
      exact hg
  · rw [List.nodup_append]
    refine ⟨h.nd, by simp, fun a ha b hb => ?_⟩
    rw [List.mem_singleton] at hb
    subst hb
    have := hlt a ha
    omega
theorem Wt15.fr (h : Wt15 X w A c Z) (hf : Fr11 Y w w') (hx : ∀ j, X j → ¬ Y j) : Wt15 X w' A c Z := by
  obtain ⟨G, h, h1, h2, h3⟩ := h
  exact ⟨G, h.fr hf (fun g hg => hx _ (h1 g hg)) (fun a ha => hx _ (h2 a ha)), h1, h2, fun j hj => Nat.lt_of_lt_of_le (h3 j hj) hf.size⟩
theorem Wt15.put (h : Wt15 X w A c Z) {r i : Int} (hp : pl15 Z r i = true) : ∃ ra g, A = some ⟨ra, 0, none⟩ ∧ w.cell? ⟨ra, r.toNat, none⟩ = some (.slice (some ⟨g, 0, none⟩) (row15 Z r).length (row15 Z r).length) ∧ Wd15 w g (row15 Z r) ∧ X g ∧
    ∀ v, Wt15 X (w.setCell ⟨g, i.toNat, none⟩ (.int .i64 v)) A c (put15 Z r i v) := by
  obtain ⟨G, h, h1, h2, h3⟩ := h
  obtain ⟨ra, g, e1, e2, e3, e4⟩ := h.at_ (row15_at (pl15_is hp))
  refine ⟨ra, g, e1, e3, e4, h1 _ (List.mem_of_getElem? e2), fun v => ⟨G, ?_, h1, h2, fun j hj => by simpa using h3 j hj⟩⟩
  rw [put15, if_pos hp]
  exact h.put (row15_at (pl15_is hp)) e2 v _
theorem Wt15.at_ (h : Wt15 X w A c Z) {r : Int} (hp : is15 Z r = true) : ∃ ra g, A = some ⟨ra, 0, none⟩ ∧ w.cell? ⟨ra, r.toNat, none⟩ = some (.slice (some ⟨g, 0, none⟩) (row15 Z r).length (row15 Z r).length) ∧ Wd15 w g (row15 Z r) := by
  obtain ⟨G, h, -⟩ := h
  obtain ⟨ra, g, e1, e2, e3, e4⟩ := h.at_ (row15_at hp)
  exact ⟨ra, g, e1, e3, e4⟩
end
/-- The reference's heap at block B holds the arrays Z; it lies in the blocks of X. -/
def Rf15 (X : Nat → Prop) (w : World) (B R : Nat) (Z : List (List Int)) : Prop := ∃ A c, w.heap[B]? = some (.cells #[.int .i64 R, .slice A Z.length c] 52 (0, 0)) ∧ Wt15 X w A c Z ∧ X B
section
variable {w w' : World} {B R : Nat} {Z : List (List Int)} {X Y : Nat → Prop} {A : Option Addr} {c : Nat}
theorem Rf15.fr (h : Rf15 X w B R Z) (hf : Fr11 Y w w') (hx : ∀ j, X j → ¬ Y j) : Rf15 X w' B R Z := by
  obtain ⟨A, c, h1, h2, h3⟩ := h
  exact ⟨A, c, (hf.block _ (Array.getElem?_eq_some_iff.1 h1).1 (hx _ h3)).trans h1, h2.fr hf hx, h3⟩
theorem Rf15.keep (h : Rf15 X w B R Z) (hb : Below w.heap.size w w') : Rf15 X w' B R Z := h.fr (nb15 hb) fun _ _ => id
end
theorem rhas_v (X : Nat → Prop) (B R : Nat) (Z : List (List Int)) (r : Int) (w : World) (h : Rf15 X w B R Z) :
    Calls Try.prog 24 #[.pointer (some ⟨B, 0, none⟩), .int .i64 r] w fun e w' => e = .returned (.bool (is15 Z r)) ∧ w' = w := by
  obtain ⟨A, c, hB, h, hX⟩ := h
  have c1 : w.cell? ⟨B, 1, none⟩ = some (.slice A Z.length c) := by simp [World.cell?, hB]
  clear h hX hB
  obtain ⟨n, hn⟩ : ∃ n, Z.length = n := ⟨_, rfl⟩
  have HN := Lib.hid hn
  rw [hn] at c1
  clear hn
  go_enter Try.func24, Try.ntmps24
  by_cases h1 : 0 ≤ r
  · by_cases h2 : r < (n : Int)
    · go_wp2_with fail
      go_ret
      rw [is15, HN.out, decide_eq_true h1, decide_eq_true h2]
      exact ⟨rfl, rfl⟩
    · go_wp2_with fail
      go_ret
      rw [is15, HN.out, decide_eq_true h1, decide_eq_false (by omega)]
      exact ⟨rfl, rfl⟩
  · go_wp2_with fail
    go_ret
    rw [is15, HN.out, decide_eq_false (by omega)]
    exact ⟨rfl, rfl⟩
theorem rplace_v (X : Nat → Prop) (B R : Nat) (Z : List (List Int)) (r i : Int) (w : World) (h : Rf15 X w B R Z) :
    Calls Try.prog 22 #[.pointer (some ⟨B, 0, none⟩), .int .i64 r, .int .i64 i] w fun e w' => e = .returned (.bool (pl15 Z r i)) ∧ w' = w := by
  have HH := Lib.hid (rhas_v X B R Z r w h)
  obtain ⟨A, c, hB, h, hX⟩ := h
  have c1 : w.cell? ⟨B, 1, none⟩ = some (.slice A Z.length c) := by simp [World.cell?, hB]
  have H := Lib.hid h
  clear h hX hB
  go_enter Try.func22, Try.ntmps22
  go_wp2_with fail
  refine HH.out.mono ?_
  rintro e w1 ⟨rfl, rfl⟩
  cases hi : is15 Z r with
  | true =>
    obtain ⟨ra, g, rfl, ca, -⟩ := H.out.at_ hi
    have hb := hi
    simp only [is15, Bool.and_eq_true, decide_eq_true_eq] at hb
    obtain ⟨h1, h2⟩ := hb
    obtain ⟨k, hk⟩ : ∃ k, r.toNat = k := ⟨_, rfl⟩
    obtain rfl : r = (k : Int) := by omega
    rw [hk] at ca
    obtain ⟨n, hn⟩ : ∃ n, Z.length = n := ⟨_, rfl⟩
    rw [hn] at c1 h2
    obtain ⟨m, hm⟩ : ∃ m, (row15 Z k).length = m := ⟨_, rfl⟩
    rw [hm] at ca
    have HMM := Lib.hid hm
    have HP : Hid (pl15 Z k i = (decide (0 ≤ i) && decide (i < (m : Int)))) := by rw [Hid, pl15, hm]
    clear hm hn hk hi
    by_cases h3 : 0 ≤ i
    · by_cases h4 : i < (m : Int)
      · go_wp2_with fail
        go_ret
        rw [HP.out, decide_eq_true h3, decide_eq_true h4]
        exact ⟨rfl, rfl⟩
      · go_wp2_with fail
        go_ret
        rw [HP.out, decide_eq_true h3, decide_eq_false (by omega)]
        exact ⟨rfl, rfl⟩
    · go_wp2_with fail
      go_ret
      rw [HP.out, decide_eq_false (by omega)]
      exact ⟨rfl, rfl⟩
  | false =>
    have HP : Hid (pl15 Z r i = false) := by
      cases hp : pl15 Z r i with
      | false => rfl
      | true => rw [pl15_is hp] at hi; cases hi
    clear hi
    go_wp2_with fail
    go_ret
    rw [HP.out]
    exact ⟨rfl, rfl⟩
theorem rat_v (X : Nat → Prop) (B R : Nat) (Z : List (List Int)) (r i : Int) (w : World) (h : Rf15 X w B R Z) :
    Calls Try.prog 14 #[.pointer (some ⟨B, 0, none⟩), .int .i64 r, .int .i64 i] w fun e w' => e = .returned (.tuple #[.int .i64 (at15 Z r i), .bool (pl15 Z r i)]) ∧ w' = w := by
  have HH := Lib.hid (rplace_v X B R Z r i w h)
  obtain ⟨A, c, hB, h, hX⟩ := h
  have c1 : w.cell? ⟨B, 1, none⟩ = some (.slice A Z.length c) := by simp [World.cell?, hB]
  have H := Lib.hid h
  clear h hX hB
  go_enter Try.func14, Try.ntmps14
  go_wp2_with fail
  refine HH.out.mono ?_
  rintro e w1 ⟨rfl, rfl⟩
  cases hp : pl15 Z r i with
  | true =>
    have HP := Lib.hid hp
    obtain ⟨ra, g, rfl, ca, hw⟩ := H.out.at_ (pl15_is hp)
    have hb := pl15_is hp
    have hlt := pl15_lt hp
    simp only [is15, Bool.and_eq_true, decide_eq_true_eq] at hb
    obtain ⟨h1, h2⟩ := hb
    have hi0 : 0 ≤ i := by simp only [pl15, Bool.and_eq_true, decide_eq_true_eq] at hp; exact hp.1
    obtain ⟨k, hk⟩ : ∃ k, r.toNat = k := ⟨_, rfl⟩
    obtain rfl : r = (k : Int) := by omega
    obtain ⟨j, hj⟩ : ∃ j, i.toNat = j := ⟨_, rfl⟩
    obtain rfl : i = (j : Int) := by omega
    rw [hk] at ca
    rw [hj] at hlt
    have cb := hw.cell (List.getElem?_eq_getElem hlt)
    have hx : at15 Z k j = (row15 Z k)[j] := by rw [at15, if_pos hp, hj, List.getElem?_eq_getElem hlt]; rfl
    rw [← hx] at cb
    obtain ⟨n, hn⟩ : ∃ n, Z.length = n := ⟨_, rfl⟩
    rw [hn] at c1 h2
    obtain ⟨m, hm⟩ : ∃ m, (row15 Z k).length = m := ⟨_, rfl⟩
    rw [hm] at ca hlt
    obtain ⟨x, hx2⟩ : ∃ x, at15 Z k j = x := ⟨_, rfl⟩
    rw [hx2] at cb
    have HX := Lib.hid hx2
    clear hm hn hk hp hx hx2 hj hw
    go_wp2_with fail
    go_ret2
    rw [HX.out, HP.out]
    exact ⟨rfl, rfl⟩
  | false =>
    have HP := Lib.hid hp
    have HX : Hid (at15 Z r i = 0) := by rw [Hid, at15, if_neg (by rw [hp]; decide)]
    clear hp
    go_wp2_with fail
    go_ret2
    rw [HX.out, HP.out]
    exact ⟨rfl, rfl⟩
theorem rput_v (X : Nat → Prop) (B R : Nat) (Z : List (List Int)) (r i x : Int) (w : World) (h : Rf15 X w B R Z) :
    Calls Try.prog 12 #[.pointer (some ⟨B, 0, none⟩), .int .i64 r, .int .i64 i, .int .i64 x] w fun e w' => e = .returned (.bool (pl15 Z r i)) ∧ Rf15 X w' B R (put15 Z r i x) ∧ Fr11 X w w' := by
  have HH := Lib.hid (rplace_v X B R Z r i w h)
  have H0 := Lib.hid h
  obtain ⟨A, c, hB, h, hX⟩ := h
  have c1 : w.cell? ⟨B, 1, none⟩ = some (.slice A Z.length c) := by simp [World.cell?, hB]
  have H := Lib.hid h
  have HB := Lib.hid hB
  clear h hB
  go_enter Try.func12, Try.ntmps12
  go_wp2_with fail
  refine HH.out.mono ?_
  rintro e w1 ⟨rfl, rfl⟩
  cases hp : pl15 Z r i with
  | true =>
    have HP := Lib.hid hp
    obtain ⟨ra, g, rfl, ca, hw, hXg, hset⟩ := H.out.put hp
    have hb := pl15_is hp
    have hlt := pl15_lt hp
    simp only [is15, Bool.and_eq_true, decide_eq_true_eq] at hb
    obtain ⟨h1, h2⟩ := hb
    have hi0 : 0 ≤ i := by simp only [pl15, Bool.and_eq_true, decide_eq_true_eq] at hp; exact hp.1
    have hgB : B ≠ g := by
      intro e
      subst e
      have := HB.out.symm.trans hw
      simp at this
    have HF : Hid (Rf15 X (w1.setCell ⟨g, i.toNat, none⟩ (.int .i64 x)) B R (put15 Z r i x)) := Lib.hid ⟨_, c, by rw [len15_put]; exact (Below.heap_setCell w1 ⟨g, i.toNat, none⟩ _ B hgB).trans HB.out, hset x, hX⟩
    obtain ⟨k, hk⟩ : ∃ k, r.toNat = k := ⟨_, rfl⟩
    obtain rfl : r = (k : Int) := by omega
    obtain ⟨j, hj⟩ : ∃ j, i.toNat = j := ⟨_, rfl⟩
    obtain rfl : i = (j : Int) := by omega
    rw [hk] at ca
    rw [hj] at hlt HF
    have cb := hw.cell (List.getElem?_eq_getElem hlt)
    have hfz := hw.froz j
    obtain ⟨n, hn⟩ : ∃ n, Z.length = n := ⟨_, rfl⟩
    rw [hn] at c1 h2
    obtain ⟨m, hm⟩ : ∃ m, (row15 Z k).length = m := ⟨_, rfl⟩
    generalize (row15 Z k)[j] = y at cb
    rw [hm] at ca hlt
    clear hm hn hk hp hj hw hset
    go_wp2_with fail
    go_ret
    rw [HP.out]
    exact ⟨rfl, HF.out, (Fr11.refl _ _).set (.inr hXg) _⟩
  | false =>
    have HP := Lib.hid hp
    have HX : Hid (put15 Z r i x = Z) := by rw [Hid, put15, if_neg (by rw [hp]; decide)]
    clear hp
    go_wp2_with fail
    go_ret
    rw [HX.out, HP.out]
    exact ⟨rfl, H0.out, Fr11.refl _ _⟩
theorem rlen_v (X : Nat → Prop) (B R : Nat) (Z : List (List Int)) (r : Int) (w : World) (h : Rf15 X w B R Z) :
    Calls Try.prog 16 #[.pointer (some ⟨B, 0, none⟩), .int .i64 r] w fun e w' => e = .returned (.tuple #[.int .i64 ((row15 Z r).length : Int), .bool (is15 Z r)]) ∧ w' = w := by
  have HH := Lib.hid (rhas_v X B R Z r w h)
  obtain ⟨A, c, hB, h, hX⟩ := h
  have c1 : w.cell? ⟨B, 1, none⟩ = some (.slice A Z.length c) := by simp [World.cell?, hB]
  have H := Lib.hid h
  clear h hX hB
  go_enter Try.func16, Try.ntmps16
  go_wp2_with fail
  refine HH.out.mono ?_
  rintro e w1 ⟨rfl, rfl⟩
  cases hi : is15 Z r with
  | true =>
    have HI := Lib.hid hi
    obtain ⟨ra, g, rfl, ca, hw⟩ := H.out.at_ hi
    have hb := hi
    simp only [is15, Bool.and_eq_true, decide_eq_true_eq] at hb
    obtain ⟨h1, h2⟩ := hb
    obtain ⟨k, hk⟩ : ∃ k, r.toNat = k := ⟨_, rfl⟩
    obtain rfl : r = (k : Int) := by omega
    rw [hk] at ca
    obtain ⟨n, hn⟩ : ∃ n, Z.length = n := ⟨_, rfl⟩
    rw [hn] at c1 h2
    obtain ⟨m, hm⟩ : ∃ m, (row15 Z k).length = m := ⟨_, rfl⟩
    rw [hm] at ca
    have HMM := Lib.hid hm
    clear hm hn hk hw hi
    go_wp2_with fail
    go_ret2
    rw [HMM.out, HI.out]
    exact ⟨rfl, rfl⟩
  | false =>
    have HI := Lib.hid hi
    have HR := Lib.hid (row15_no hi)
    clear hi
    go_wp2_with fail
    go_ret2
    rw [HR.out, HI.out]
    exact ⟨rfl, rfl⟩
set_option maxHeartbeats 4000000 in
theorem rused_v (X : Nat → Prop) (B R : Nat) (Z : List (List Int)) (w : World) (h : Rf15 X w B R Z) (hl : Z.length ≤ 100000) (hu : us15 Z ≤ 1000000) :
    Calls Try.prog 18 #[.pointer (some ⟨B, 0, none⟩)] w fun e w' => e = .returned (.int .i64 (us15 Z : Int)) ∧ w' = w := by
  obtain ⟨A, c, hB, h, hX⟩ := h
  have c1 : w.cell? ⟨B, 1, none⟩ = some (.slice A Z.length c) := by simp [World.cell?, hB]
  have H := Lib.hid h
  clear h hX hB
  obtain ⟨n, hn⟩ : ∃ n, Z.length = n := ⟨_, rfl⟩
  rw [hn] at c1 hl
  have HN := Lib.hid hn
  clear hn
  go_enter Try.func18, Try.ntmps18
  go_wp2_with fail
  go_loopw [3, 4] (fun s iv wr => ∃ (i m : Nat), i ≤ n ∧ iv = .int .i64 i ∧ s = .int .i64 m ∧ Hid (m = off15 Z i) ∧ wr = w) (fun _ iv _ => n - (intOf iv).toNat)
  case atStart => exact ⟨0, 0, by omega, rfl, rfl, Lib.hid (by simp [off15]), rfl⟩
  case round =>
    obtain ⟨i, m, hi, rfl, rfl, HO, rfl⟩ := hrel
    by_cases h1 : i < n
    · obtain ⟨z, hz⟩ : ∃ z, Z[i]? = some z := ⟨_, List.getElem?_eq_getElem (by rw [HN.out]; exact h1)⟩
      have hs := off15_succ hz
      have hle := off15_le hz
      have hr : row15 Z i = z := by rw [row15, if_pos (by omega), Int.toNat_natCast, hz]; rfl
      obtain ⟨ra, g, hA, ca, -⟩ := H.out.at_ (r := i) (by rw [is15, decide_eq_true (by omega), decide_eq_true (by rw [HN.out]; omega)]; rfl)
      rw [Int.toNat_natCast, hr] at ca
      subst hA
      obtain ⟨q, hq⟩ : ∃ q, z.length = q := ⟨_, rfl⟩
      rw [hq] at ca hs hle
      have hm2 : m + q ≤ 1000000 := by have := HO.out; omega
      have HS := Lib.hid hs
      clear hq hr hz hs hle
      go_wp2_with fail
      go_roundw
      case rel => exact ⟨i + 1, m + q, by omega, by go_num, by go_num, Lib.hid (by rw [HS.out, HO.out]), trivial⟩
      case measure => simp [intOf]; omega
    · obtain rfl : i = n := by omega
      have HE : Hid (m = us15 Z) := by rw [Hid, HO.out, ← HN.out, off15_full]
      go_wp2_with fail
      go_ret
      exact ⟨by rw [HE.out]; rfl, rfl⟩
end Go.Proofs.Ytibiocjdkndnhaa
