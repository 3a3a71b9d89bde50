/-
  Package pure: Say: the same module in memory of its own, but for what its methods say.
-/
import Derived.Test.YtimjnmkfbdijeaaLkb
import Derived.Test.YtimjnmkfbdijeaaLq
namespace Go.Proofs.Ytimjnmkfbdijeaa
open Go.RowKit
set_option maxRecDepth 100000
set_option linter.unusedSimpArgs false
set_option linter.unusedVariables false

/-- What the methods say after j of them. -/
def sm13 (d : Md) (j : Nat) : List (Mh × List Ins) := (List.range d.s.length).map fun k => (if k < j then { hd13 d k with q := pu13 d k } else hd13 d k, co11 d k)
theorem sm13_at {d : Md} {j k : Nat} (hk : k < d.s.length) : (sm13 d j)[k]? = some (if k < j then { hd13 d k with q := pu13 d k } else hd13 d k, co11 d k) := by
  rw [sm13, List.getElem?_map, List.getElem?_range hk]
  rfl
theorem sm13_len (d : Md) (j : Nat) : (sm13 d j).length = d.s.length := by simp [sm13]
theorem sm13_zero (d : Md) : sm13 d 0 = d.s := by
  apply List.ext_getElem?
  intro k
  by_cases hk : k < d.s.length
  · rw [sm13_at hk, if_neg (by omega), hd13, co11, List.getElem?_eq_getElem hk]
    rfl
  · rw [List.getElem?_eq_none (by rw [sm13_len]; omega), List.getElem?_eq_none (by omega)]
theorem sm13_step {d : Md} {j : Nat} (hj : j < d.s.length) {x x' : Mc} {m : Mh} {k : List Ins} (hz : d.s[j]? = some (ze ⟨x, m, k⟩)) : sm13 d (j + 1) = (sm13 d j).set j (ze ⟨x', { m with q := pu13 d j }, k⟩) := by
  apply List.ext_getElem?
  intro i
  by_cases hi : i < d.s.length
  · rw [sm13_at hi]
    by_cases h : i = j
    · subst h
      rw [List.getElem?_set_self (by rw [sm13_len]; exact hi), if_pos (by omega), hd13, co11, hz]
      rfl
    · rw [List.getElem?_set_ne (fun e => h e.symm), sm13_at hi]
      by_cases h2 : i < j
      · rw [if_pos h2, if_pos (by omega)]
      · rw [if_neg h2, if_neg (by omega)]
  · rw [List.getElem?_eq_none (by rw [sm13_len]; omega), List.getElem?_eq_none (by rw [List.length_set, sm13_len]; omega)]
theorem sm13_all (d : Md) : ({ d with s := sm13 d d.s.length } : Md) = sy13 d (pu13 d) := by
  rw [sy13, sm13]
  congr 1
  refine List.map_congr_left fun k hk => ?_
  rw [if_pos (List.mem_range.1 hk)]
/-- The row of those that are pure. -/
def Pr13 (base : Nat) (A : Option Addr) (c : Nat) (d : Md) (w : World) : Prop := w.ownsRow base 4 1 (.slice A d.s.length c) d.s.length (cb13 ((List.range d.s.length).map (pu13 d)))
section
variable {w w' : World} {base : Nat} {A : Option Addr} {c : Nat} {d : Md}
theorem Pr13.keep (h : Pr13 base A c d w) (hb : Below w.heap.size w w') : Pr13 base A c d w' := own_below h hb (Nat.le_refl _)
theorem Pr13.blk13 (h : Pr13 base A c d w) (hp : 0 < d.s.length) : ∃ g, A = some ⟨g, 0, none⟩ := by
  rcases h.2 with ⟨_, h0⟩ | ⟨g, _, _, hv, _⟩
  · omega
  · injection hv with e1 _ _
    exact ⟨g, e1⟩
theorem Pr13.cell13 {g j : Nat} (h : Pr13 base (some ⟨g, 0, none⟩) c d w) (hj : j < d.s.length) : w.cell? ⟨g, j, none⟩ = some (.bool (pu13 d j)) := by
  have h1 := World.ownsRow.cellAt h j (by omega)
  rw [h1, cb13, List.getElem?_map, List.getElem?_map, List.getElem?_range hj]
  rfl
end
/-- Amid Say: T are the methods so far; S is what is to come out. -/
def Cy13 (w : World) (B1 : Nat) (y1 : Ma) (d : Md) (S : List (Mh × List Ins)) (T R : List Me) (wr : World) : Prop :=
  Below B1 w wr ∧ Db wr B1 y1 d ∧ (Mf wr (B1 + 1) ∧ Db wr (B1 + 1) Ma.zero Md.zero) ∧ wr.ownsRow (B1 + 2) 69 3 (.slice y1.G d.g.length y1.gc) d.g.length (cev d.g) ∧ wr.ownsRow (B1 + 2) 69 3 (.slice y1.P d.p.length y1.pc) d.p.length (cev d.p) ∧
  wr.ownsRow (B1 + 2) 52 8 (.slice y1.A d.s.length y1.c) d.s.length (cem (T ++ R)) ∧ (∀ z ∈ T, Wz wr (B1 + 2) z) ∧ (T ++ R).map ze = S ∧ S.length = d.s.length ∧ B1 + 2 ≤ wr.heap.size
section
variable {w wr w' : World} {B1 : Nat} {y1 : Ma} {d : Md} {S : List (Mh × List Ins)} {T R : List Me}
theorem Cy13.call (h : Cy13 w B1 y1 d S T R wr) (hb : Below wr.heap.size wr w') : Cy13 w B1 y1 d S T R w' := by
  obtain ⟨h1, h2, h3, h4, h5, h6, h7, h8, h8b, h9⟩ := h
  exact ⟨h1.trans (hb.mono (by omega)), h2.keep hb, ⟨h3.1.keep hb, h3.2.keep hb⟩, own_below h4 hb (Nat.le_refl _), own_below h5 hb (Nat.le_refl _), own_below h6 hb (Nat.le_refl _), fun z hz => (h7 z hz).keep hb, h8, h8b, Nat.le_trans h9 hb.size⟩
theorem Cy13.put {z z' : Me} {g : Nat} (h : Cy13 w B1 y1 d S T (z :: R) wr) (hg : y1.A = some ⟨g, 0, none⟩) (hw : Wz wr (B1 + 2) z') : Cy13 w B1 y1 d (S.set T.length (ze z')) (T ++ [z']) R (st8 wr g (T.length * 8) z') := by
  obtain ⟨h1, h2, h3, h4, h5, h6, h7, h8, h8b, h9⟩ := h
  rw [hg] at h6
  obtain ⟨⟨k, hk⟩, hgB⟩ := own_bk h6
  have key : ∀ v : World, Bk v g 52 k → ∀ j u, Bk (v.setCell ⟨g, j, none⟩ u) g 52 k := fun v hv j u => hv.set g j u
  refine ⟨?_, ?_, ?_, ?_, ?_, ?_, ?_, ?_, by rw [List.length_set]; exact h8b, ?_⟩
  · exact st8_keep (p := fun v => Below B1 w v) h1 (fun v j u hv => hv.setCell (show B1 ≤ g by omega) u) _ _
  · exact st8_keep (p := fun v => Db v B1 y1 d) h2 (fun v j u hv => hv.other (show g ≠ B1 by omega) u) _ _
  · exact ⟨st8_keep (p := fun v => Mf v (B1 + 1)) h3.1 (fun v j u hv => hv.set _ _) _ _, st8_keep (p := fun v => Db v (B1 + 1) Ma.zero Md.zero) h3.2 (fun v j u hv => hv.other (show g ≠ B1 + 1 by omega) u) _ _⟩
  · exact (st8_keep (p := fun v => v.ownsRow (B1 + 2) 69 3 (.slice y1.G d.g.length y1.gc) d.g.length (cev d.g) ∧ Bk v g 52 k) ⟨h4, hk⟩ (fun v j u hv => ⟨own_tag hv.1 hv.2 (by decide) j u, key v hv.2 j u⟩) _ _).1
  · exact (st8_keep (p := fun v => v.ownsRow (B1 + 2) 69 3 (.slice y1.P d.p.length y1.pc) d.p.length (cev d.p) ∧ Bk v g 52 k) ⟨h5, hk⟩ (fun v j u hv => ⟨own_tag hv.1 hv.2 (by decide) j u, key v hv.2 j u⟩) _ _).1
  · rw [hg]
    exact st8_own h6 z'
  · intro t ht
    have h0 : Wz wr (B1 + 2) t := by
      rcases List.mem_append.1 ht with ht | ht
      · exact h7 t ht
      · rw [List.mem_singleton.1 ht]; exact hw
    exact (st8_keep (p := fun v => Wz v (B1 + 2) t ∧ Bk v g 52 k) ⟨h0, hk⟩ (fun v j u hv => ⟨hv.1.tag hv.2 j u, key v hv.2 j u⟩) _ _).1
  · have e : (T ++ z :: R).map ze = T.map ze ++ (ze z :: R.map ze) := by simp
    rw [← h8, e, List.set_append_right _ _ (by simp), List.length_map, Nat.sub_self, List.set_cons_zero]
    simp
  · exact st8_keep (p := fun v => B1 + 2 ≤ v.heap.size) h9 (fun v j u hv => by simpa using hv) _ _
/-- Say's end. -/
theorem Cy13.fin (h : Cy13 w B1 y1 d S T [] wr) (hB : w.heap.size = B1) (hg : ∀ x ∈ d.g, VlOk x) (hp : ∀ x ∈ d.p, VlOk x) (hi : -9223372036854775808 ≤ d.i ∧ d.i ≤ 9223372036854775807) :
    Db (put4 wr (B1 + 1) y1 d) (B1 + 1) { y1 with Z := T } { d with s := S } ∧ Hq (put4 wr (B1 + 1) y1 d) { y1 with Z := T } { d with s := S } ∧ Ow (put4 wr (B1 + 1) y1 d) w.heap.size (put4 wr (B1 + 1) y1 d).heap.size { y1 with Z := T } { d with s := S } ∧ Below w.heap.size w (put4 wr (B1 + 1) y1 d) := by
  obtain ⟨h1, h2, h3, h4, h5, h6, h7, h8, h8b, h9⟩ := h
  rw [List.append_nil] at h6 h8
  have k4 := put4_ownN h4 (show B1 + 1 < B1 + 2 by omega) y1 d
  have k5 := put4_ownN h5 (show B1 + 1 < B1 + 2 by omega) y1 d
  have k6 := put4_ownN h6 (show B1 + 1 < B1 + 2 by omega) y1 d
  have k7 : ∀ z ∈ T, Wz (put4 wr (B1 + 1) y1 d) (B1 + 2) z := fun z hz => (h7 z hz).put4 (by omega) y1 d
  have kd := put4_db h3.2 y1 d
  refine ⟨?_, ⟨(Rv.of_own k4 hg).1, (Rv.of_own k5 hp).1, (Rm.of_own k6 (fun z hz => (k7 z hz).ok)).1, h8, hi⟩, ⟨Rs.of_own k4 (by omega) (Nat.le_refl _), Rs.of_own k5 (by omega) (Nat.le_refl _), ?_, fun z hz => (k7 z hz).ow (by omega) (Nat.le_refl _)⟩, ?_⟩
  · unfold Db at kd ⊢
    dsimp only at kd ⊢
    rw [h8b]
    exact kd
  · have := Rs.of_own k6 (lo := w.heap.size) (hi := (put4 wr (B1 + 1) y1 d).heap.size) (by omega) (Nat.le_refl _)
    dsimp only
    rw [h8b]
    exact this
  · rw [hB]
    exact put4_below h1 (by omega) y1 d
end
theorem Pr13.st13 {w : World} {base g cap n : Nat} {A : Option Addr} {c : Nat} {d : Md} {xs : List Value} (h : Pr13 base A c d w) (hr : w.ownsRow base 52 8 (.slice (some ⟨g, 0, none⟩) n cap) n xs) (o : Nat) (z : Me) : Pr13 base A c d (st8 w g o z) := by
  obtain ⟨⟨k, hk⟩, -⟩ := own_bk hr
  exact (st8_keep (p := fun v => Pr13 base A c d v ∧ Bk v g 52 k) ⟨h, hk⟩ (fun v j u hv => ⟨own_tag hv.1 hv.2 (by decide) j u, hv.2.set g j u⟩) _ _).1
theorem Wz.on13 {w : World} {lo B k : Nat} {x : Mc} {m : Mh} {L : List Ins} (h : Wz w lo ⟨x, m, L⟩) (hB : Bk w B 52 k) (q : Bool) (v : Value) : Wz (w.setCell ⟨B, 3, none⟩ v) lo ⟨x, { m with q := q }, L⟩ := ⟨h.1, (h.tag hB 3 v).2⟩
theorem Mb.set3q {w : World} {B : Nat} {x : Mc} {m : Mh} (h : Mb w B x m) (q : Bool) : Mb (w.setCell ⟨B, 3, none⟩ (.bool q)) B x { m with q := q } := by
  obtain ⟨h0, h1, h2, h3, h4, h5, h6, h7, h8⟩ := h
  refine ⟨by simpa using h0, ?_, ?_, ?_, ?_, ?_, ?_, ?_, ?_⟩ <;> simp [go_sem, h1, h2, h3, h4, h5, h6, h7, h8]
theorem say_end (tm : Array Value) (w' : World) (T : Nat) (y : Ma) (d : Md) (e : Int) (hT : tm[2]?.getD undef = .pointer (some ⟨T, 0, none⟩)) (hE : tm[3]?.getD undef = .int .i64 e) (hM : Db w' T y d) (R : Ending → World → Prop)
    (hR : R (.returned (.tuple #[dv y d, .int .i64 e])) w') : bodyPost Try.prog Try.f14 R .ret { tmps := tm, defers := [] } w' := by
  obtain ⟨h0, c1, c2, c3, c4⟩ := hM
  exact bodyPost_ret (v := .tuple #[dv y d, .int .i64 e]) (by simp [results, Try.results14, go_sem, hT, hE, c1, c2, c3, c4]) rfl hR
/-- What tells a module and an error. -/
def Sa13 (w w' : World) (T : Md × Int) (r : Ending) : Prop := ∃ t, r = .returned (.tuple #[dv t T.1, .int .i64 T.2]) ∧ Hq w' t T.1 ∧ Ow w' w.heap.size w'.heap.size t T.1 ∧ Below w.heap.size w w'
set_option maxHeartbeats 8000000 in
theorem say13_v (y : Ma) (d : Md) (w : World) (hq : Hq w y d) (bs : d.s.length ≤ 200) (bl : ∀ z ∈ d.s, z.2.length ≤ 1000) (b1 : d.g.length ≤ 1000000) (b2 : d.p.length ≤ 1000000) (b4 : ∀ z ∈ y.Z, z.m.a.length ≤ 1000000 ∧ z.m.l.length ≤ 1000000 ∧ z.x.k ≤ 1000000) :
    Calls Try.prog 14 #[dv y d] w fun r w' => Sa13 w w' (sy13T d) r := by
  have hzl := hq.zlen
  have S0 : Hid (Sx w ((w.alloc (dcel y d)).alloc (dcel Ma.zero Md.zero)) [fF w.heap.size, fD w.heap.size y d, fMz (w.heap.size + 1), fQm y d]) := by
    have h1 := (((Sx.start w).add (fQm y d) hq).mkD y d).mkD Ma.zero Md.zero
    have h2 := Db.new (w.alloc (dcel y d)) Ma.zero Md.zero
    have h3 := Mf.new (w.alloc (dcel y d)) #[.slice none 0 0, .slice none 0 0, .slice none 0 0, .int .i64 0] 25
    rw [size1] at h1 h2 h3
    exact ⟨h1.1, (Mf.new w _ _).keep new1, h1.2.2.1, ⟨h3, h2⟩, h1.2.2.2⟩
  have HZ0 := Lib.hid (hq.2.2.1.1)
  have HZE : Hid (([] ++ y.Z).map ze = d.s) := by rw [Hid, List.nil_append]; exact hq.2.2.2.1
  have HVG := Lib.hid (And.intro hq.1.1 (And.intro hq.2.1.1 hq.2.2.2.2))
  have HB4 := Lib.hid b4
  have HBL := Lib.hid bl
  clear hq b4 bl
  go_enter Try.func14, Try.ntmps14
  go_upto_region 1 with (fail)
  have S0' : Hid (Sx w ((w.alloc (.cells #[.slice y.G d.g.length y.gc, .slice y.P d.p.length y.pc, .slice y.A d.s.length y.c, .int .i64 d.i] 25)).alloc (.cells #[.slice none 0 0, .slice none 0 0, .slice none 0 0, .int .i64 0] 25)) [fF w.heap.size, fD w.heap.size y d, fMz (w.heap.size + 1), fQm y d]) := S0
  clear S0
  generalize (w.alloc (.cells #[.slice y.G d.g.length y.gc, .slice y.P d.p.length y.pc, .slice y.A d.s.length y.c, .int .i64 d.i] 25)).alloc (.cells #[.slice none 0 0, .slice none 0 0, .slice none 0 0, .int .i64 0] 25) = w0 at *
  have S0 := S0'
  clear S0'
  obtain ⟨B1, hB1⟩ : ∃ B, w.heap.size = B := ⟨_, rfl⟩
  have HBQ := Lib.hid hB1
  rw [hB1] at S0 ⊢
  clear hB1
  have HPU := Lib.hid (pure13_v y d w0 S0.out.2.2.2.2.1 bs HBL.out)
  obtain ⟨-, -, ⟨y0, y1, y2, y3, y4⟩, -⟩ := S0.out
  go_wp2_with fail
  refine HPU.out.mono ?_
  rintro r w2 ⟨Ap, cp, rfl, ho, hb⟩
  have S2 := Lib.hid (S0.out.call hb)
  have HO := Lib.hid (own_base (base' := B1 + 2) ho (Nat.succ_le_of_lt S0.out.2.2.2.1.1.1))
  clear ho hb HPU S0 y0 y1 y2 y3 y4
  cases hba : ba11 d with
  | true =>
    have hT : pu13T d = ([], 2) := by rw [pu13T, if_pos hba]
    have HT : Hid (sy13T d = (Md.zero, 2)) := Lib.hid (by rw [sy13T, if_pos hba])
    rw [hT]
    clear hT HO hba
    obtain ⟨-, -, -, ⟨⟨e0, ef⟩, ⟨e1, e2, e3, e4, e5⟩⟩, -⟩ := S2.out
    have f0 := ef 0
    have f1 := ef 1
    have f2 := ef 2
    have f3 := ef 3
    have HDB := Lib.hid (put4_db S2.out.2.2.2.1.2 Ma.zero Md.zero)
    have HBW : Hid (Below w.heap.size w (put4 w2 (B1 + 1) Ma.zero Md.zero)) := Lib.hid (put4_below S2.out.1 (by rw [HBQ.out]; omega) Ma.zero Md.zero)
    clear ef
    go_wp2_with fail
    exact say_end _ _ (B1 + 1) Ma.zero Md.zero 2 rfl rfl HDB.out _ (by rw [HT.out]; exact ⟨Ma.zero, rfl, Hq.zero _, Ow.zero _ _ _, HBW.out⟩)
  | false =>
    have hT : pu13T d = ((List.range d.s.length).map (pu13 d), 0) := by rw [pu13T, if_neg (by rw [hba]; simp)]
    have HBA := Lib.hid hba
    have hlm : ((List.range d.s.length).map (pu13 d)).length = d.s.length := by rw [List.length_map, List.length_range]
    have HPR : Hid (Pr13 (B1 + 2) Ap cp d w2) := Lib.hid (by
      have := HO.out
      rw [hT] at this
      dsimp only at this
      rw [hlm] at this
      exact this)
    rw [hT]
    dsimp only
    rw [hlm]
    clear hT hlm HO hba
    obtain ⟨-, -, ⟨y0, y1, y2, y3, y4⟩, -⟩ := S2.out
    go_upto_region 4 with (fail)
    clear y0 y1 y2 y3 y4
    refine wp_region_L [10, 12, 14] (S := fun w' => Hid (Sx w w' [fF B1, fD B1 y d, fMz (B1 + 1), fQm y d])) (by kernel_rfl) (Hsx.drew S2) (fun hHeld => ?_)
    refine wpL_reckon (i := 0) (v := ?_) rfl (by kernel_rfl) (fun _ _ _ h => h) (Or.inl ⟨by rfl, ?_⟩) (Or.inr (by assumption)) ?_
    rotate_left 1
    · intro w _; go_simp; try with_reducible rfl
    try simp only [Act.put, List.getElem_toArray, List.getElem_cons_zero, List.getElem_cons_succ, List.setIfInBounds_toArray, List.set_cons_zero, List.set_cons_succ]
    refine wpL_take (i := 1) (v := ?_) rfl (by kernel_rfl) (fun _ _ _ h => h) (Or.inl ⟨by rfl, ?_⟩) (by assumption) ?_
    rotate_left 1
    · intro w hSw; (try dsimp only at hSw); obtain ⟨-, -, ⟨y0, y1, y2, y3, y4⟩, -⟩ := hSw.out; go_simp; try with_reducible rfl
    try simp only [Act.put, List.getElem_toArray, List.getElem_cons_zero, List.getElem_cons_succ, List.setIfInBounds_toArray, List.set_cons_zero, List.set_cons_succ]
    refine wpL_reckon (i := 3) (v := ?_) rfl (by kernel_rfl) (fun _ _ _ h => h) (Or.inl ⟨by rfl, ?_⟩) (Or.inr (by assumption)) ?_
    rotate_left 1
    · intro w _; go_simp; try with_reducible rfl
    try simp only [Act.put, List.getElem_toArray, List.getElem_cons_zero, List.getElem_cons_succ, List.setIfInBounds_toArray, List.set_cons_zero, List.set_cons_succ]
    refine wpL_take (i := 4) (v := ?_) rfl (by kernel_rfl) (fun _ _ _ h => h) (Or.inl ⟨by rfl, ?_⟩) (by assumption) ?_
    rotate_left 1
    · intro w hSw; (try dsimp only at hSw); obtain ⟨-, -, ⟨y0, y1, y2, y3, y4⟩, -⟩ := hSw.out; go_simp; try with_reducible rfl
    try simp only [Act.put, List.getElem_toArray, List.getElem_cons_zero, List.getElem_cons_succ, List.setIfInBounds_toArray, List.set_cons_zero, List.set_cons_succ]
    refine wpL_reckon (i := 6) (v := ?_) rfl (by kernel_rfl) (fun _ _ _ h => h) (Or.inl ⟨by rfl, ?_⟩) (Or.inr (by assumption)) ?_
    rotate_left 1
    · intro w _; go_simp; try with_reducible rfl
    try simp only [Act.put, List.getElem_toArray, List.getElem_cons_zero, List.getElem_cons_succ, List.setIfInBounds_toArray, List.set_cons_zero, List.set_cons_succ]
    refine wpL_take (i := 7) (v := ?_) rfl (by kernel_rfl) (fun _ _ _ h => h) (Or.inl ⟨by rfl, ?_⟩) (by assumption) ?_
    rotate_left 1
    · intro w hSw; (try dsimp only at hSw); obtain ⟨-, -, ⟨y0, y1, y2, y3, y4⟩, -⟩ := hSw.out; go_simp; try with_reducible rfl
    try simp only [Act.put, List.getElem_toArray, List.getElem_cons_zero, List.getElem_cons_succ, List.setIfInBounds_toArray, List.set_cons_zero, List.set_cons_succ]
    refine wpL_ready (rs := [2]) (by kernel_rfl) (by simp) ?_
    refine AllL.cons rfl (fun K hK => ?_) AllL.nil
    go_simp
    refine (cloneV_v y.G y.gc _ d.g _ hHeld.out.2.2.2.2.1.1 rfl (by omega)).mono ?_
    rintro r wb1 ⟨A1, c1, rfl, ho, hb⟩
    have HO1 := Lib.hid (own_base ho (Nat.succ_le_of_lt hHeld.out.2.2.2.1.1.1))
    have HB1 := Lib.hid hb
    clear ho hb
    go_wp2_with fail
    refine hK.out _ _ (Hsx.call HB1.out hHeld) (fun hHeld => ?_)
    clear hK K
    try simp only [Act.put, List.getElem_toArray, List.getElem_cons_zero, List.getElem_cons_succ, List.setIfInBounds_toArray, List.set_cons_zero, List.set_cons_succ]
    refine wpL_reckon (i := 9) (v := ?_) rfl (by kernel_rfl) (fun _ _ _ h => h) (Or.inl ⟨by rfl, ?_⟩) (Or.inr (by assumption)) ?_
    rotate_left 1
    · intro w _; go_simp; try with_reducible rfl
    try simp only [Act.put, List.getElem_toArray, List.getElem_cons_zero, List.getElem_cons_succ, List.setIfInBounds_toArray, List.set_cons_zero, List.set_cons_succ]
    refine wpL_ready (rs := [5]) (by kernel_rfl) (by simp) ?_
    refine AllL.cons rfl (fun K hK => ?_) AllL.nil
    go_simp
    refine (cloneV_v y.P y.pc _ d.p _ hHeld.out.2.2.2.2.1.2.1 rfl (by omega)).mono ?_
    rintro r wb2 ⟨A2, c2, rfl, ho, hb⟩
    have HO2 := Lib.hid (own_base ho (Nat.succ_le_of_lt hHeld.out.2.2.2.1.1.1))
    have HB2 := Lib.hid hb
    clear ho hb
    go_wp2_with fail
    refine hK.out _ _ (Hsx.call HB2.out hHeld) (fun hHeld => ?_)
    clear hK K
    try simp only [Act.put, List.getElem_toArray, List.getElem_cons_zero, List.getElem_cons_succ, List.setIfInBounds_toArray, List.set_cons_zero, List.set_cons_succ]
    refine wpL_ready (rs := [8]) (by kernel_rfl) (by simp) ?_
    refine AllL.cons rfl (fun K hK => ?_) AllL.nil
    go_simp
    refine (cloneM_v y.A y.c _ y.Z _ hHeld.out.2.2.2.2.1.2.2.1 hzl (by omega)).mono ?_
    rintro r wb3 ⟨A3, c3, rfl, ho, hb⟩
    have HO3 := Lib.hid (own_base ho (Nat.succ_le_of_lt hHeld.out.2.2.2.1.1.1))
    have HB3 := Lib.hid hb
    clear ho hb
    have SZ := Lib.hid (hHeld.out.call HB3.out)
    obtain ⟨-, ⟨g0, gf⟩, ⟨y0, y1, y2, y3, y4⟩, -⟩ := SZ.out
    have f0 := gf 0
    have f1 := gf 1
    have f2 := gf 2
    clear gf
    go_wp2_with fail
    refine hK.out _ _ (SZ) (fun hHeld => ?_)
    clear hK K
    try simp only [Act.put, List.getElem_toArray, List.getElem_cons_zero, List.getElem_cons_succ, List.setIfInBounds_toArray, List.set_cons_zero, List.set_cons_succ]
    refine wpL_ready (rs := [10]) (by kernel_rfl) (by simp) ?_
    refine AllL.late rfl (by kernel_rfl) (fun K hK => ?_) AllL.nil
    go_simp
    refine hK.out _ _ ?_
    clear hK K
    try simp only [Act.put, List.getElem_toArray, List.getElem_cons_zero, List.getElem_cons_succ, List.setIfInBounds_toArray, List.set_cons_zero, List.set_cons_succ]
    refine wpL_reckon (i := 11) (v := ?_) rfl (by kernel_rfl) (fun _ _ _ h => h) (Or.inl ⟨by rfl, ?_⟩) (Or.inl (by kernel_rfl)) ?_
    rotate_left 1
    · intro w _; go_simp; try with_reducible rfl
    try simp only [Act.put, List.getElem_toArray, List.getElem_cons_zero, List.getElem_cons_succ, List.setIfInBounds_toArray, List.set_cons_zero, List.set_cons_succ]
    refine wpL_ready (rs := [12]) (by kernel_rfl) (by simp) ?_
    refine AllL.late rfl (by kernel_rfl) (fun K hK => ?_) AllL.nil
    go_simp
    refine hK.out _ _ ?_
    clear hK K
    try simp only [Act.put, List.getElem_toArray, List.getElem_cons_zero, List.getElem_cons_succ, List.setIfInBounds_toArray, List.set_cons_zero, List.set_cons_succ]
    refine wpL_reckon (i := 13) (v := ?_) rfl (by kernel_rfl) (fun _ _ _ h => h) (Or.inl ⟨by rfl, ?_⟩) (Or.inl (by kernel_rfl)) ?_
    rotate_left 1
    · intro w _; go_simp; try with_reducible rfl
    try simp only [Act.put, List.getElem_toArray, List.getElem_cons_zero, List.getElem_cons_succ, List.setIfInBounds_toArray, List.set_cons_zero, List.set_cons_succ]
    refine wpL_ready (rs := [14]) (by kernel_rfl) (by simp) ?_
    refine AllL.late rfl (by kernel_rfl) (fun K hK => ?_) AllL.nil
    go_simp
    refine hK.out _ _ ?_
    clear hK K
    try simp only [Act.put, List.getElem_toArray, List.getElem_cons_zero, List.getElem_cons_succ, List.setIfInBounds_toArray, List.set_cons_zero, List.set_cons_succ]
    refine wpL_done (by kernel_rfl) ?_ _
    have HC0 : Hid (Cy13 w B1 ⟨A1, c1, A2, c2, A3, c3, []⟩ d (sm13 d 0) [] y.Z (((wb3.setCell ⟨B1, 0, none⟩ (.slice A1 d.g.length c1)).setCell ⟨B1, 1, none⟩ (.slice A2 d.p.length c2)).setCell ⟨B1, 2, none⟩ (.slice A3 d.s.length c3))) := Lib.hid (by
      have o1 := own_below (own_below HO1.out HB2.out (Nat.le_refl _)) HB3.out (Nat.le_refl _)
      have o2 := own_below HO2.out HB3.out (Nat.le_refl _)
      have o3 := HO3.out
      obtain ⟨s1, s2, s3, s4, -⟩ := SZ.out
      rw [HBQ.out] at s1
      have ne : ∀ i, (⟨B1, i, none⟩ : Addr).block ≠ B1 + 1 := fun i => by show B1 ≠ B1 + 1; omega
      have lt : ∀ i, (⟨B1, i, none⟩ : Addr).block < B1 + 2 := fun i => by show B1 < B1 + 2; omega
      refine ⟨((s1.setCell (p := ⟨B1, 0, none⟩) (Nat.le_refl _) _).setCell (p := ⟨B1, 1, none⟩) (Nat.le_refl _) _).setCell (p := ⟨B1, 2, none⟩) (Nat.le_refl _) _, s3.set3 A1 A2 A3 c1 c2 c3 [], ⟨((s4.1.set _ _).set _ _).set _ _, ((s4.2.other (ne 0) _).other (ne 1) _).other (ne 2) _⟩, ?_, ?_, ?_, fun z hz => (by cases hz), by rw [sm13_zero]; exact HZE.out, by rw [sm13_zero], by simp; exact s4.1.1⟩
      · exact ownsRow_setCell_below (ownsRow_setCell_below (ownsRow_setCell_below o1 (lt 0) _) (lt 1) _) (lt 2) _
      · exact ownsRow_setCell_below (ownsRow_setCell_below (ownsRow_setCell_below o2 (lt 0) _) (lt 1) _) (lt 2) _
      · exact ownsRow_setCell_below (ownsRow_setCell_below (ownsRow_setCell_below o3 (lt 0) _) (lt 1) _) (lt 2) _)
    have HP0 : Hid (Pr13 (B1 + 2) Ap cp d (((wb3.setCell ⟨B1, 0, none⟩ (.slice A1 d.g.length c1)).setCell ⟨B1, 1, none⟩ (.slice A2 d.p.length c2)).setCell ⟨B1, 2, none⟩ (.slice A3 d.s.length c3))) := Lib.hid (by
      have lt : ∀ i, (⟨B1, i, none⟩ : Addr).block < B1 + 2 := fun i => by show B1 < B1 + 2; omega
      exact ownsRow_setCell_below (ownsRow_setCell_below (ownsRow_setCell_below (((Pr13.keep (w := w2.drew) HPR.out HB1.out).keep HB2.out).keep HB3.out) (lt 0) _) (lt 1) _) (lt 2) _)
    clear HO1 HO2 HO3 HB1 HB2 HB3 SZ S2 hHeld g0 y0 y1 y2 y3 y4 f0 f1 f2 HPR
    generalize ((wb3.setCell ⟨B1, 0, none⟩ (.slice A1 d.g.length c1)).setCell ⟨B1, 1, none⟩ (.slice A2 d.p.length c2)).setCell ⟨B1, 2, none⟩ (.slice A3 d.s.length c3) = w4 at HC0 HP0 ⊢
    obtain ⟨y0, y1, y2, y3, y4⟩ := HC0.out.2.1
    dsimp only at y1 y2 y3
    go_wp2_with fail
    clear y0 y1 y2 y3 y4
    go_loopw [32] (fun i wr => ∃ (j : Nat) (T R : List Me), j ≤ d.s.length ∧ T.length = j ∧ R = y.Z.drop j ∧ i = .int .i64 j ∧ Hid (Cy13 w B1 ⟨A1, c1, A2, c2, A3, c3, []⟩ d (sm13 d j) T R wr) ∧ Hid (Pr13 (B1 + 2) Ap cp d wr)) (fun i _ => d.s.length - (intOf i).toNat)
    case atStart => exact ⟨0, [], y.Z, by omega, rfl, rfl, rfl, HC0, HP0⟩
    case round =>
      obtain ⟨j, T, R, hj, hTL, hR, rfl, HC, HPR⟩ := hrel
      clear HC0 HP0
      by_cases h1 : j < d.s.length
      · have h1z : j < y.Z.length := by omega
        rw [List.drop_eq_getElem_cons h1z] at hR
        have HZB := Lib.hid (HB4.out _ (List.getElem_mem h1z))
        have HZK := Lib.hid (HZ0.out _ (List.getElem_mem h1z))
        have hnL : d.s.length = (T ++ R).length := by
          have h := congrArg List.length HC.out.2.2.2.2.2.2.2.1
          rw [List.length_map, HC.out.2.2.2.2.2.2.2.2.1] at h
          exact h.symm
        have HZJ : Hid (d.s[j]? = some (ze y.Z[j])) := Lib.hid (by
          have h := HZE.out
          rw [List.nil_append] at h
          rw [← h, List.getElem?_map, List.getElem?_eq_getElem h1z]
          rfl)
        subst hR
        generalize y.Z[j] = z at *
        obtain ⟨x, m, k⟩ := z
        obtain ⟨q1, q2, q3⟩ := HZB.out
        dsimp only at q1 q2 q3
        have HOKr := Lib.hid (Me.ok.keep HZK.out (HBQ.out ▸ HC.out.1))
        have HKX : Hid (k.length = x.k) := HZK.out.2.2
        have HNUM := Lib.hid (And.intro HZK.out.1.1.byt (And.intro HZK.out.1.2.1.byt (And.intro HZK.out.1.2.2 HZK.out.2.1.1)))
        clear HZB HZK
        have hpos : 0 < d.s.length := by omega
        obtain ⟨g, hgA⟩ : ∃ g, A3 = some ⟨g, 0, none⟩ := by
          rcases HC.out.2.2.2.2.2.1.2 with ⟨_, h0⟩ | ⟨g, _, _, hv, _⟩
          · omega
          · injection hv with e1 _ _
            exact ⟨g, e1⟩
        subst hgA
        obtain ⟨gp, hgp⟩ := HPR.out.blk13 hpos
        subst hgp
        have h1p : j < d.s.length := h1
        have hrow := row_at HC.out.2.2.2.2.2.1 hTL hnL
        obtain ⟨hr1, -⟩ := hrow
        have x0 := hr1 0 _ (by omega) rfl
        rw [Nat.add_zero] at x0
        have x1 := hr1 1 _ (by omega) rfl
        have x2 := hr1 2 _ (by omega) rfl
        have x3 := hr1 3 _ (by omega) rfl
        have x4 := hr1 4 _ (by omega) rfl
        have x5 := hr1 5 _ (by omega) rfl
        have x6 := hr1 6 _ (by omega) rfl
        have x7 := hr1 7 _ (by omega) rfl
        clear hr1
        have S5 := Lib.hid (((Sx.start wr).add (fOk ⟨x, m, k⟩) HOKr.out).mkMF x m)
        clear HOKr
        have HNL := Lib.hid hnL
        have HTL := Lib.hid hTL
        clear hnL hTL
        go_upto_region 8 with (fail)
        have HBK := Lib.hid (Bk.new wr #[.slice x.A m.a.length x.c, .slice x.B m.l.length x.d, .int .u8 m.r, .bool m.q, .int .i64 m.f, .int .i64 m.s, .int .i64 m.h, .slice x.D x.k x.e] 52)
        obtain ⟨wb, hwb⟩ : ∃ wb, wr.alloc (hcel x m) = wb := ⟨_, rfl⟩
        rw [hwb] at S5
        rw [hcel] at hwb
        rw [hwb]
        rw [hwb] at HBK
        obtain ⟨Tb, hTb⟩ : ∃ Tb, wr.heap.size = Tb := ⟨_, rfl⟩
        rw [hTb] at S5 HBK ⊢
        have HTb := Lib.hid hTb
        have hTB : B1 + 2 ≤ Tb := by have := HC.out.2.2.2.2.2.2.2.2.2; omega
        clear hwb x0 x1 x2 x3 x4 x5 x6 x7
        refine wp_region_L [10, 12, 14] (S := fun w' => Hid (Sx wr w' [fF Tb, fM Tb x m, fOk ⟨x, m, k⟩])) (by kernel_rfl) (Hsx.drew S5) (fun hHeld => ?_)
        refine wpL_reckon (i := 0) (v := ?_) rfl (by kernel_rfl) (fun _ _ _ h => h) (Or.inl ⟨by rfl, ?_⟩) (Or.inr (by assumption)) ?_
        rotate_left 1
        · intro w _; go_simp; try with_reducible rfl
        try simp only [Act.put, List.getElem_toArray, List.getElem_cons_zero, List.getElem_cons_succ, List.setIfInBounds_toArray, List.set_cons_zero, List.set_cons_succ]
        refine wpL_take (i := 1) (v := ?_) rfl (by kernel_rfl) (fun _ _ _ h => h) (Or.inl ⟨by rfl, ?_⟩) (by assumption) ?_
        rotate_left 1
        · intro w hSw; (try dsimp only at hSw); obtain ⟨-, -, ⟨g0, g1, g2, g3, g4, g5, g6, g7, g8⟩, -⟩ := hSw.out; go_simp; try with_reducible rfl
        try simp only [Act.put, List.getElem_toArray, List.getElem_cons_zero, List.getElem_cons_succ, List.setIfInBounds_toArray, List.set_cons_zero, List.set_cons_succ]
        refine wpL_reckon (i := 3) (v := ?_) rfl (by kernel_rfl) (fun _ _ _ h => h) (Or.inl ⟨by rfl, ?_⟩) (Or.inr (by assumption)) ?_
        rotate_left 1
        · intro w _; go_simp; try with_reducible rfl
        try simp only [Act.put, List.getElem_toArray, List.getElem_cons_zero, List.getElem_cons_succ, List.setIfInBounds_toArray, List.set_cons_zero, List.set_cons_succ]
        refine wpL_take (i := 4) (v := ?_) rfl (by kernel_rfl) (fun _ _ _ h => h) (Or.inl ⟨by rfl, ?_⟩) (by assumption) ?_
        rotate_left 1
        · intro w hSw; (try dsimp only at hSw); obtain ⟨-, -, ⟨g0, g1, g2, g3, g4, g5, g6, g7, g8⟩, -⟩ := hSw.out; go_simp; try with_reducible rfl
        try simp only [Act.put, List.getElem_toArray, List.getElem_cons_zero, List.getElem_cons_succ, List.setIfInBounds_toArray, List.set_cons_zero, List.set_cons_succ]
        refine wpL_reckon (i := 6) (v := ?_) rfl (by kernel_rfl) (fun _ _ _ h => h) (Or.inl ⟨by rfl, ?_⟩) (Or.inr (by assumption)) ?_
        rotate_left 1
        · intro w _; go_simp; try with_reducible rfl
        try simp only [Act.put, List.getElem_toArray, List.getElem_cons_zero, List.getElem_cons_succ, List.setIfInBounds_toArray, List.set_cons_zero, List.set_cons_succ]
        refine wpL_take (i := 7) (v := ?_) rfl (by kernel_rfl) (fun _ _ _ h => h) (Or.inl ⟨by rfl, ?_⟩) (by assumption) ?_
        rotate_left 1
        · intro w hSw; (try dsimp only at hSw); obtain ⟨-, -, ⟨g0, g1, g2, g3, g4, g5, g6, g7, g8⟩, -⟩ := hSw.out; go_simp; try with_reducible rfl
        try simp only [Act.put, List.getElem_toArray, List.getElem_cons_zero, List.getElem_cons_succ, List.setIfInBounds_toArray, List.set_cons_zero, List.set_cons_succ]
        refine wpL_ready (rs := [2]) (by kernel_rfl) (by simp) ?_
        refine AllL.cons rfl (fun K hK => ?_) AllL.nil
        go_simp
        refine (cloneB_v x.A x.c _ m.a _ hHeld.out.2.2.2.1.1.1 rfl (by omega)).mono ?_
        rintro r wb4 ⟨A4, c4, rfl, ho, hb⟩
        have HO4 := Lib.hid (own_base ho (Nat.succ_le_of_lt hHeld.out.2.1.1))
        have HB4 := Lib.hid hb
        clear ho hb
        go_wp2_with fail
        refine hK.out _ _ (Hsx.call HB4.out hHeld) (fun hHeld => ?_)
        clear hK K
        try simp only [Act.put, List.getElem_toArray, List.getElem_cons_zero, List.getElem_cons_succ, List.setIfInBounds_toArray, List.set_cons_zero, List.set_cons_succ]
        refine wpL_reckon (i := 9) (v := ?_) rfl (by kernel_rfl) (fun _ _ _ h => h) (Or.inl ⟨by rfl, ?_⟩) (Or.inr (by assumption)) ?_
        rotate_left 1
        · intro w _; go_simp; try with_reducible rfl
        try simp only [Act.put, List.getElem_toArray, List.getElem_cons_zero, List.getElem_cons_succ, List.setIfInBounds_toArray, List.set_cons_zero, List.set_cons_succ]
        refine wpL_ready (rs := [5]) (by kernel_rfl) (by simp) ?_
        refine AllL.cons rfl (fun K hK => ?_) AllL.nil
        go_simp
        refine (cloneB_v x.B x.d _ m.l _ hHeld.out.2.2.2.1.1.2.1 rfl (by omega)).mono ?_
        rintro r wb5 ⟨A5, c5, rfl, ho, hb⟩
        have HO5 := Lib.hid (own_base ho (Nat.succ_le_of_lt hHeld.out.2.1.1))
        have HB5 := Lib.hid hb
        clear ho hb
        go_wp2_with fail
        refine hK.out _ _ (Hsx.call HB5.out hHeld) (fun hHeld => ?_)
        clear hK K
        try simp only [Act.put, List.getElem_toArray, List.getElem_cons_zero, List.getElem_cons_succ, List.setIfInBounds_toArray, List.set_cons_zero, List.set_cons_succ]
        refine wpL_ready (rs := [8]) (by kernel_rfl) (by simp) ?_
        refine AllL.cons rfl (fun K hK => ?_) AllL.nil
        go_simp
        refine (cloneI_v x.D x.e x.k k _ hHeld.out.2.2.2.1.2.1 HKX.out (by omega)).mono ?_
        rintro r wb6 ⟨A6, c6, rfl, ho, hb⟩
        have HO6 := Lib.hid (own_base ho (Nat.succ_le_of_lt hHeld.out.2.1.1))
        have HB6 := Lib.hid hb
        clear ho hb
        have SY := Lib.hid (hHeld.out.call HB6.out)
        obtain ⟨-, ⟨f0, gf⟩, ⟨g0, g1, g2, g3, g4, g5, g6, g7, g8⟩, -⟩ := SY.out
        have f1 := gf 0
        have f2 := gf 1
        have f3 := gf 7
        clear gf
        go_wp2_with fail
        refine hK.out _ _ (SY) (fun hHeld => ?_)
        clear hK K
        try simp only [Act.put, List.getElem_toArray, List.getElem_cons_zero, List.getElem_cons_succ, List.setIfInBounds_toArray, List.set_cons_zero, List.set_cons_succ]
        refine wpL_ready (rs := [10]) (by kernel_rfl) (by simp) ?_
        refine AllL.late rfl (by kernel_rfl) (fun K hK => ?_) AllL.nil
        go_simp
        refine hK.out _ _ ?_
        clear hK K
        try simp only [Act.put, List.getElem_toArray, List.getElem_cons_zero, List.getElem_cons_succ, List.setIfInBounds_toArray, List.set_cons_zero, List.set_cons_succ]
        refine wpL_reckon (i := 11) (v := ?_) rfl (by kernel_rfl) (fun _ _ _ h => h) (Or.inl ⟨by rfl, ?_⟩) (Or.inl (by kernel_rfl)) ?_
        rotate_left 1
        · intro w _; go_simp; try with_reducible rfl
        try simp only [Act.put, List.getElem_toArray, List.getElem_cons_zero, List.getElem_cons_succ, List.setIfInBounds_toArray, List.set_cons_zero, List.set_cons_succ]
        refine wpL_ready (rs := [12]) (by kernel_rfl) (by simp) ?_
        refine AllL.late rfl (by kernel_rfl) (fun K hK => ?_) AllL.nil
        go_simp
        refine hK.out _ _ ?_
        clear hK K
        try simp only [Act.put, List.getElem_toArray, List.getElem_cons_zero, List.getElem_cons_succ, List.setIfInBounds_toArray, List.set_cons_zero, List.set_cons_succ]
        refine wpL_reckon (i := 13) (v := ?_) rfl (by kernel_rfl) (fun _ _ _ h => h) (Or.inl ⟨by rfl, ?_⟩) (Or.inl (by kernel_rfl)) ?_
        rotate_left 1
        · intro w _; go_simp; try with_reducible rfl
        try simp only [Act.put, List.getElem_toArray, List.getElem_cons_zero, List.getElem_cons_succ, List.setIfInBounds_toArray, List.set_cons_zero, List.set_cons_succ]
        refine wpL_ready (rs := [14]) (by kernel_rfl) (by simp) ?_
        refine AllL.late rfl (by kernel_rfl) (fun K hK => ?_) AllL.nil
        go_simp
        refine hK.out _ _ ?_
        clear hK K
        try simp only [Act.put, List.getElem_toArray, List.getElem_cons_zero, List.getElem_cons_succ, List.setIfInBounds_toArray, List.set_cons_zero, List.set_cons_succ]
        refine wpL_done (by kernel_rfl) ?_ _
        clear g0 g1 g2 g3 g4 g5 g6 g7 g8 f0 f1 f2 f3
        have HW3 := wz_new HNUM.out HKX.out HTb SY HO4.out HO5.out HO6.out HB5.out HB6.out hTB
        have HM3 := Lib.hid (SY.out.2.2.1.new3 A4 A5 A6 c4 c5 c6)
        have HMF := Lib.hid (((SY.out.2.1.set (⟨Tb, 0, none⟩) (.slice A4 m.a.length c4)).set (⟨Tb, 1, none⟩) (.slice A5 m.l.length c5)).set (⟨Tb, 7, none⟩) (.slice A6 x.k c6))
        have HBW : Hid (Below Tb wr (((wb6.setCell ⟨Tb, 0, none⟩ (.slice A4 m.a.length c4)).setCell ⟨Tb, 1, none⟩ (.slice A5 m.l.length c5)).setCell ⟨Tb, 7, none⟩ (.slice A6 x.k c6))) := Lib.hid (by
          have := ((SY.out.1.setCell (p := ⟨Tb, 0, none⟩) (Nat.le_of_eq hTb) (.slice A4 m.a.length c4)).setCell (p := ⟨Tb, 1, none⟩) (Nat.le_of_eq hTb) (.slice A5 m.l.length c5)).setCell (p := ⟨Tb, 7, none⟩) (Nat.le_of_eq hTb) (.slice A6 x.k c6)
          rwa [hTb] at this)
        have HBK5 := Lib.hid ((((((Bk.keep (w := wb.drew) HBK.out HB4.out).keep HB5.out).keep HB6.out).set Tb 0 (.slice A4 m.a.length c4)).set Tb 1 (.slice A5 m.l.length c5)).set Tb 7 (.slice A6 x.k c6))
        clear SY HO4 HO5 HO6 HB4 HB5 HB6 S5 hHeld HBK
        generalize ((wb6.setCell ⟨Tb, 0, none⟩ (.slice A4 m.a.length c4)).setCell ⟨Tb, 1, none⟩ (.slice A5 m.l.length c5)).setCell ⟨Tb, 7, none⟩ (.slice A6 x.k c6) = w5 at HW3 HM3 HMF HBW HBK5 ⊢
        have HP5 := Lib.hid (HPR.out.keep (by rw [hTb]; exact HBW.out))
        have z9 := HP5.out.cell13 h1p
        have HM9 := HM3.out.2.2.2.2.1
        have HF9 := HMF.out.2 3
        go_upto_region 10 with (fail)
        have HW6 := Lib.hid (HW3.out.on13 HBK5.out (pu13 d j) (.bool (pu13 d j)))
        have HM6 := Lib.hid (HM3.out.set3q (pu13 d j))
        have HC6 := Lib.hid (HC.out.call (w' := w5.setCell ⟨Tb, 3, none⟩ (.bool (pu13 d j))) (by rw [hTb]; exact HBW.out.setCell (p := ⟨Tb, 3, none⟩) (Nat.le_refl _) _))
        have HP6 := Lib.hid (HPR.out.keep (w' := w5.setCell ⟨Tb, 3, none⟩ (.bool (pu13 d j))) (by rw [hTb]; exact HBW.out.setCell (p := ⟨Tb, 3, none⟩) (Nat.le_refl _) _))
        clear HW3 HM3 HMF HBW HP5 HC HPR z9 HM9 HF9
        generalize w5.setCell ⟨Tb, 3, none⟩ (.bool (pu13 d j)) = w6 at HW6 HM6 HC6 HP6 ⊢
        have hTL := HTL.out
        have hnL := HNL.out
        have hrow := row_at HC6.out.2.2.2.2.2.1 hTL hnL
        obtain ⟨hr1, hr2⟩ := hrow
        have x0 := hr1 0 _ (by omega) rfl
        rw [Nat.add_zero] at x0
        have x1 := hr1 1 _ (by omega) rfl
        have x2 := hr1 2 _ (by omega) rfl
        have x3 := hr1 3 _ (by omega) rfl
        have x4 := hr1 4 _ (by omega) rfl
        have x5 := hr1 5 _ (by omega) rfl
        have x6 := hr1 6 _ (by omega) rfl
        have x7 := hr1 7 _ (by omega) rfl
        have f0 := hr2 0 (by omega)
        rw [Nat.add_zero] at f0
        have f1 := hr2 1 (by omega)
        have f2 := hr2 2 (by omega)
        have f3 := hr2 3 (by omega)
        have f4 := hr2 4 (by omega)
        have f5 := hr2 5 (by omega)
        have f6 := hr2 6 (by omega)
        have f7 := hr2 7 (by omega)
        clear hr1 hr2
        obtain ⟨g0, g1, g2, g3, g4, g5, g6, g7, g8⟩ := HM6.out
        obtain ⟨y0, y1, y2, y3, y4⟩ := HC6.out.2.1
        have HC4 := Lib.hid (HC6.out.put rfl HW6.out)
        rw [hTL] at HC4
        have HP4 := Lib.hid (HP6.out.st13 HC6.out.2.2.2.2.2.1 (j * 8) ⟨⟨A4, c4, A5, c5, A6, x.k, c6⟩, { m with q := pu13 d j }, k⟩)
        dsimp only at g0 g1 g2 g3 g4 g5 g6 g7 y1 y2 y3 x0 x1 x2 x3 x4 x5 x6 x7
        have HSS : Hid (sm13 d (j + 1) = (sm13 d j).set j (ze ⟨⟨A4, c4, A5, c5, A6, x.k, c6⟩, { m with q := pu13 d j }, k⟩)) := Lib.hid (sm13_step h1 HZJ.out)
        rw [← HSS.out] at HC4
        clear HC6 HM6 HW6 hnL HP6
        go_wp2_with fail
        go_roundw
        case rel => exact ⟨j + 1, T ++ [⟨⟨A4, c4, A5, c5, A6, x.k, c6⟩, { m with q := pu13 d j }, k⟩], y.Z.drop (j + 1), by omega, by simp [hTL], rfl, by go_num, HC4, HP4⟩
        case measure => simp [intOf]; omega
      · obtain rfl : j = d.s.length := by omega
        have hR0 : R = [] := by rw [hR]; exact List.drop_of_length_le (by omega)
        subst hR0
        clear hR
        have HF := Lib.hid (HC.out.fin HBQ.out HVG.out.1 HVG.out.2.1 HVG.out.2.2)
        have HT : Hid (sy13T d = ({ d with s := sm13 d d.s.length }, 0)) := Lib.hid (by rw [sy13T, if_neg (by rw [HBA.out]; simp), sm13_all])
        obtain ⟨y0, y1, y2, y3, y4⟩ := HC.out.2.1
        obtain ⟨⟨e0, ef⟩, ⟨e1, e2, e3, e4, e5⟩⟩ := HC.out.2.2.1
        have f0 := ef 0
        have f1 := ef 1
        have f2 := ef 2
        have f3 := ef 3
        have HLN := Lib.hid HC.out.2.2.2.2.2.2.2.2.1
        clear HC ef
        dsimp only at y1 y2 y3
        go_wp2_with fail
        obtain ⟨h1, h2, h3, h4⟩ := HF.out
        exact say_end _ _ (B1 + 1) ⟨A1, c1, A2, c2, A3, c3, T⟩ { d with s := sm13 d d.s.length } 0 rfl rfl h1 _ (by rw [HT.out]; exact ⟨_, rfl, h2, h3, h4⟩)
end Go.Proofs.Ytimjnmkfbdijeaa
