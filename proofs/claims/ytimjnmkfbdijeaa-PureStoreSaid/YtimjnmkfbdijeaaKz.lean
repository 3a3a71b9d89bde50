/-
  Layer 13: the reference's Copy, its rows its own; an instruction is appended to one method's code.
-/
import Derived.Test.YtimjnmkfbdijeaaLkc
import Derived.Test.YtimjnmkfbdijeaaRcp
namespace Go.Proofs.Ytimjnmkfbdijeaa
open Go.RowKit
set_option maxRecDepth 100000
set_option linter.unusedSimpArgs false
set_option linter.unusedVariables false

def cbk13 (z : Me) : Option Nat := (Value.slice z.x.D z.x.k z.x.e).ownBlock
/-- No two codes lie in one block. -/
def Dj13 (Zs : List Me) : Prop := Zs.Pairwise fun a b => ∀ g, cbk13 a = some g → cbk13 b ≠ some g
theorem dj13_snoc {Zs : List Me} {wr w6 : World} {lo Tb : Nat} {z : Me} (h : Dj13 Zs) (hw : ∀ a ∈ Zs, Wz wr lo a) (hT : wr.heap.size = Tb) (hz : Wz w6 (Tb + 1) z) : Dj13 (Zs ++ [z]) := by
  refine List.pairwise_append.2 ⟨h, List.pairwise_singleton _ _, fun a ha b hb g e1 e2 => ?_⟩
  rw [List.mem_singleton.1 hb] at e2
  have h1 := ((hw a ha).2.2.2.lt g e1).2
  have h2 := (hz.2.2.2.lt g e2).1
  omega
theorem Dj13.at_ {Zs : List Me} (h : Dj13 Zs) {i j : Nat} {a b : Me} (ha : Zs[i]? = some a) (hb : Zs[j]? = some b) (hij : i ≠ j) : cbk13 a = none ∨ cbk13 a ≠ cbk13 b := by
  obtain ⟨hi, rfl⟩ := List.getElem?_eq_some_iff.1 ha
  obtain ⟨hj, rfl⟩ := List.getElem?_eq_some_iff.1 hb
  have hp := List.pairwise_iff_getElem.1 h
  cases hc : cbk13 Zs[i] with
  | none => exact .inl rfl
  | some g =>
    refine .inr fun e => ?_
    rcases Nat.lt_or_gt_of_ne hij with hl | hl
    · exact hp i j hi hj hl g hc e.symm
    · exact hp j i hj hi hl g e.symm hc
/-- All rows of a module are the call's own. -/
structure Oc13 (w : World) (lo : Nat) (t : Ma) (d : Md) : Prop where
  g : w.ownsRow lo 69 3 (.slice t.G d.g.length t.gc) d.g.length (cev d.g)
  p : w.ownsRow lo 69 3 (.slice t.P d.p.length t.pc) d.p.length (cev d.p)
  z : ∀ z ∈ t.Z, Wz w lo z
  dj : Dj13 t.Z
section
variable {w w' w9 : World} {lo hi g : Nat} {t : Ma} {d : Md}
theorem Oc13.keep (h : Oc13 w lo t d) (hb : Below w.heap.size w w') : Oc13 w' lo t d := ⟨own_below h.g hb (Nat.le_refl _), own_below h.p hb (Nat.le_refl _), fun z hz => (h.z z hz).keep hb, h.dj⟩
theorem At8.gr13 {z : Me} {ad : Addr} {row : Option Nat} (h : At8 w ad z) (hg : w.grownBy w9 row) (hne : some ad.block ≠ row) : At8 w9 ad z := by
  obtain ⟨h1, h2, h3, h4, h5, h6, h7, h8⟩ := h
  exact ⟨hg.cell h1 hne, hg.cell h2 hne, hg.cell h3 hne, hg.cell h4 hne, hg.cell h5 hne, hg.cell h6 hne, hg.cell h7 hne, hg.cell h8 hne⟩
/-- An instruction is appended to the code of the method j. -/
theorem ap13 {j kk c9 : Nat} {A9 : Option Addr} {z : Me} {x : Ins} (hq : Hq w t d) (ho : Oc13 w lo t d) (hA : t.A = some ⟨g, 0, none⟩) (hg : Bk w g 52 kk) (hz : t.Z[j]? = some z) (hx : InOk x)
    (ho9 : w9.ownsRow lo 57 3 (.slice A9 (z.x.k + 1) c9) (z.x.k + 1) (cei (z.k ++ [x]))) (hgr : w.grownBy w9 (Value.slice z.x.D z.x.k z.x.e).ownBlock) :
    w9.cell? ⟨g, j * 8 + 7, none⟩ = some (.slice z.x.D z.x.k z.x.e) ∧ w9.frozen? ⟨g, j * 8 + 7, none⟩ = false ∧
    Hq (w9.setCell ⟨g, j * 8 + 7, none⟩ (.slice A9 (z.x.k + 1) c9)) { t with Z := t.Z.set j ⟨{ z.x with D := A9, k := z.x.k + 1, e := c9 }, z.m, z.k ++ [x]⟩ } { d with s := d.s.set j (z.m, z.k ++ [x]) } := by
  have hzm : z ∈ t.Z := List.mem_of_getElem? hz
  have hjz := (List.getElem?_eq_some_iff.1 hz).1
  have hzw := ho.z z hzm
  have hgl : g < w.heap.size := hg.lt
  have hrow : some g ≠ (Value.slice z.x.D z.x.k z.x.e).ownBlock := fun e => by
    obtain ⟨cur, hh, hn⟩ := hg
    rcases hzw.2.2.2.2 with ⟨hv, _⟩ | ⟨g2, cap2, cur2, hv, _, hh2, _⟩
    · rw [hv] at e; cases e
    · rw [hv] at e
      injection e with e
      subst e
      rw [hh] at hh2
      injection hh2 with hh2
      injection hh2 with _ h3 _
      revert h3
      decide
  have hbl : w9.heap[g]? = w.heap[g]? := hgr.block g hgl hrow
  have hg9 : Bk w9 g 52 kk := by
    obtain ⟨cur, hh, hn⟩ := hg
    exact ⟨cur, hbl.trans hh, hn⟩
  obtain ⟨ad, ha, hat⟩ : ∃ ad, t.A = some ad ∧ ∀ i u, t.Z[i]? = some u → At8 w (ad.add (i * 8)) u := by
    rcases hq.2.2.1.2.2.2 with ⟨hn, -⟩ | h
    · rw [hA] at hn; cases hn
    · exact h
  rw [hA] at ha
  injection ha with ha
  subst ha
  have hat9 : ∀ i u, t.Z[i]? = some u → At8 w9 ⟨g, i * 8, none⟩ u := fun i u hu => by
    have := hat i u hu
    rw [add013] at this
    exact this.gr13 hgr hrow
  have hzj := hat9 j z hz
  refine ⟨hzj.2.2.2.2.2.2.2, ?_, ?_⟩
  · obtain ⟨cur, hh, hn⟩ := hg9
    exact frozen_of_row w9 g _ _ _ hh
  have hw9 : ∀ i u, i ≠ j → t.Z[i]? = some u → Wz w9 lo u := fun i u hij hu => by
    have h := ho.z u (List.mem_of_getElem? hu)
    exact ⟨h.1, own_grown h.2.1 hzw.2.2.2 (by decide) hgr, own_grown h.2.2.1 hzw.2.2.2 (by decide) hgr, h.2.2.2.kept hgr (ho.dj.at_ hu hz hij)⟩
  have hz9 : Wz w9 lo ⟨{ z.x with D := A9, k := z.x.k + 1, e := c9 }, z.m, z.k ++ [x]⟩ :=
    ⟨⟨hzw.1.1, hzw.1.2.1, hzw.1.2.2.1, fun u hu => by
      rcases List.mem_append.1 hu with hu | hu
      · exact hzw.1.2.2.2.1 u hu
      · rw [List.mem_singleton.1 hu]; exact hx, by
      have := hzw.1.2.2.2.2
      simp [this]⟩, own_grown hzw.2.1 hzw.2.2.2 (by decide) hgr, own_grown hzw.2.2.1 hzw.2.2.2 (by decide) hgr, ho9⟩
  have hG := own_tag (own_grown ho.g hzw.2.2.2 (by decide) hgr) hg9 (by decide) (j * 8 + 7) (.slice A9 (z.x.k + 1) c9)
  have hP := own_tag (own_grown ho.p hzw.2.2.2 (by decide) hgr) hg9 (by decide) (j * 8 + 7) (.slice A9 (z.x.k + 1) c9)
  refine ⟨(Rv.of_own hG hq.1.1).1, (Rv.of_own hP hq.2.1.1).1, ⟨fun u hu => ?_, ?_, hq.2.2.1.2.2.1, .inr ⟨_, hA, fun i u hu => ?_⟩⟩, ?_, hq.2.2.2.2⟩
  · obtain ⟨i, hi, rfl⟩ := List.getElem_of_mem hu
    have hu2 := List.getElem?_eq_getElem hi
    generalize (t.Z.set j ⟨{ z.x with D := A9, k := z.x.k + 1, e := c9 }, z.m, z.k ++ [x]⟩)[i] = u at hu2
    rw [List.getElem?_set] at hu2
    by_cases hij : j = i
    · rw [if_pos hij, if_pos (by omega)] at hu2
      injection hu2 with hu2
      subst hu2
      exact (hz9.tag hg9 _ _).ok
    · rw [if_neg hij] at hu2
      exact ((hw9 i u (fun e => hij e.symm) hu2).tag hg9 _ _).ok
  · show (t.Z.set j _).length ≤ _
    rw [List.length_set]
    exact hq.2.2.1.2.1
  · rw [add013]
    dsimp only at hu
    rw [List.getElem?_set] at hu
    by_cases hij : j = i
    · subst hij
      rw [if_pos rfl, if_pos hjz] at hu
      injection hu with hu
      subst hu
      exact at8_k13 hzj
    · rw [if_neg hij] at hu
      exact (hat9 i u hu).other (.inr (by dsimp only; omega)) _ ⟨_, _, rfl⟩
  · dsimp only
    rw [List.map_set, hq.2.2.2.1]
end
section
variable {w wr : World} {B1 T : Nat} {y : Ma} {d : Md} {A1 A2 A3 : Option Addr} {c1 c2 c3 : Nat} {Zs : List Me}
theorem Rc8.finz (h : Rc8 w B1 T y d A1 A2 c1 c2 Zs A3 c3 d.s.length wr) (hq : Hq w y d) (hp : Dj13 Zs) :
    (Db (put4 wr (B1 + 1) ⟨A1, c1, A2, c2, A3, c3, Zs⟩ d) (B1 + 1) ⟨A1, c1, A2, c2, A3, c3, Zs⟩ d ∧ Hq (put4 wr (B1 + 1) ⟨A1, c1, A2, c2, A3, c3, Zs⟩ d) ⟨A1, c1, A2, c2, A3, c3, Zs⟩ d ∧
      Ow (put4 wr (B1 + 1) ⟨A1, c1, A2, c2, A3, c3, Zs⟩ d) w.heap.size (put4 wr (B1 + 1) ⟨A1, c1, A2, c2, A3, c3, Zs⟩ d).heap.size ⟨A1, c1, A2, c2, A3, c3, Zs⟩ d ∧ Below w.heap.size w (put4 wr (B1 + 1) ⟨A1, c1, A2, c2, A3, c3, Zs⟩ d)) ∧
      Oc13 (put4 wr (B1 + 1) ⟨A1, c1, A2, c2, A3, c3, Zs⟩ d) w.heap.size ⟨A1, c1, A2, c2, A3, c3, Zs⟩ d := by
  refine ⟨h.fin hq, ?_⟩
  obtain ⟨h1, h2, h3, h4, h5, h6, h7, h8, h9, ⟨ha, hb2, hc⟩, hd⟩ := h
  have k4 := put4_ownN h7 (show B1 + 1 < B1 + 2 by omega) ⟨A1, c1, A2, c2, A3, c3, Zs⟩ d
  have k5 := put4_ownN h8 (show B1 + 1 < B1 + 2 by omega) ⟨A1, c1, A2, c2, A3, c3, Zs⟩ d
  have k7 : ∀ z ∈ Zs, Wz (put4 wr (B1 + 1) ⟨A1, c1, A2, c2, A3, c3, Zs⟩ d) (B1 + 2) z := fun z hz => (ha z hz).put4 (by omega) _ d
  exact ⟨own_base k4 (by omega), own_base k5 (by omega), fun z hz => (k7 z hz).based (by omega), hp⟩
end
set_option maxHeartbeats 8000000 in
theorem r8copyz_v (y : Ma) (d : Md) (w : World) (hq : Hq w y d) (bb1 : d.g.length ≤ 1000) (bb2 : d.p.length ≤ 1000) (bb3 : d.s.length ≤ 1000) (bb4 : ∀ z ∈ y.Z, z.m.a.length ≤ 1000 ∧ z.m.l.length ≤ 1000 ∧ z.x.k ≤ 1000) :
    Calls Try.prog 8 #[dv y d] w fun r w' => ∃ t, r = .returned (dv t d) ∧ Hq w' t d ∧ Ow w' w.heap.size w'.heap.size t d ∧ Below w.heap.size w w' ∧ Oc13 w' w.heap.size t d := by
  obtain ⟨i0, hi, hz0, hz1, hz2⟩ := info_parts Try.info5
  obtain ⟨G, gc, P, pc, A, c, Z⟩ := y
  have HZL := Lib.hid hq.zlen
  have HZA := Lib.hid (fun (i : Nat) (h1 : i < Z.length) (h2 : i < d.s.length) => hq.zat h1 h2)
  dsimp only at HZL HZA bb4
  have HQ0 := Lib.hid hq
  have HB4 := Lib.hid bb4
  have S0 : Hid (Sx w ((w.alloc (dcel ⟨G, gc, P, pc, A, c, Z⟩ d)).alloc (dcel Ma.zero Md.zero)) [fF w.heap.size, fD w.heap.size ⟨G, gc, P, pc, A, c, Z⟩ d, fMz (w.heap.size + 1), fQm ⟨G, gc, P, pc, A, c, Z⟩ d]) := by
    have h1 := (((Sx.start w).add (fQm ⟨G, gc, P, pc, A, c, Z⟩ d) hq).mkD ⟨G, gc, P, pc, A, c, Z⟩ d).mkD Ma.zero Md.zero
    have h2 := Db.new (w.alloc (dcel ⟨G, gc, P, pc, A, c, Z⟩ d)) Ma.zero Md.zero
    have h3 := Mf.new (w.alloc (dcel ⟨G, gc, P, pc, A, c, Z⟩ d)) #[.slice none 0 0, .slice none 0 0, .slice none 0 0, .int .i64 0] 25
    rw [size1] at h1 h2 h3
    exact ⟨h1.1, (Mf.new w _ _).keep new1, h1.2.2.1, ⟨h3, h2⟩, h1.2.2.2⟩
  clear hq bb4
  go_enter Try.func8, Try.ntmps8
  go_upto_region 1 with (fail)
  have S0' : Hid (Sx w ((w.alloc (.cells #[.slice G d.g.length gc, .slice P d.p.length pc, .slice A d.s.length c, .int .i64 d.i] 25)).alloc (.cells #[.slice none 0 0, .slice none 0 0, .slice none 0 0, .int .i64 0] 25)) [fF w.heap.size, fD w.heap.size ⟨G, gc, P, pc, A, c, Z⟩ d, fMz (w.heap.size + 1), fQm ⟨G, gc, P, pc, A, c, Z⟩ d]) := S0
  clear S0
  generalize (w.alloc (.cells #[.slice G d.g.length gc, .slice P d.p.length pc, .slice A d.s.length c, .int .i64 d.i] 25)).alloc (.cells #[.slice none 0 0, .slice none 0 0, .slice none 0 0, .int .i64 0] 25) = w0 at *
  have S0 := S0'
  clear S0'
  obtain ⟨B1, hB1⟩ : ∃ B, w.heap.size = B := ⟨_, rfl⟩
  have HBQ := Lib.hid hB1
  rw [hB1] at S0 ⊢
  clear hB1
  rename_i Qx Kx hKx
  have TAIL : ∀ (T : Nat) (A1 : Option Addr) (c1 : Nat) (A2 : Option Addr) (c2 : Nat) (wE : World) (HC : Hid (Rc8 w B1 T ⟨G, gc, P, pc, A, c, Z⟩ d A1 A2 c1 c2 [] none 0 0 wE)) (u4 u5 u6 u7 u8 u9 u10 u11 u12 u13 u14 : Value),
      Exit.then Kx Qx .normal { tmps := #[dv ⟨G, gc, P, pc, A, c, Z⟩ d, .pointer (some ⟨B1, 0, none⟩), .pointer (some ⟨B1 + 1, 0, none⟩), .pointer (some ⟨T, 0, none⟩), u4, u5, u6, u7, u8, u9, u10, u11, u12, u13, u14, undef, undef, undef, undef, undef, undef, undef, undef, undef, undef, undef, undef, undef, undef, undef, undef, undef, undef, undef, undef, undef, undef, undef, undef, undef, undef, undef, undef, undef, undef, undef, undef, undef], defers := [] } wE := by
    intro T A1 c1 A2 c2 wE HC u4 u5 u6 u7 u8 u9 u10 u11 u12 u13 u14
    clear S0
    go_wp2_with fail
    go_loopw [4] (fun i wr => ∃ (j : Nat) (Zs : List Me) (A3 : Option Addr) (c3 : Nat), j ≤ d.s.length ∧ i = .int .i64 j ∧ Hid (Rc8 w B1 T ⟨G, gc, P, pc, A, c, Z⟩ d A1 A2 c1 c2 Zs A3 c3 j wr) ∧ Hid (Dj13 Zs)) (fun i _ => d.s.length - (intOf i).toNat)
    case atStart => exact ⟨0, [], none, 0, by omega, rfl, HC, Lib.hid List.Pairwise.nil⟩
    case round =>
      obtain ⟨j, Zs, A3, c3, hj, rfl, HR, HPW⟩ := hrel
      clear HC
      obtain ⟨y0, y1, y2, y3, y4⟩ := HR.out.2.1
      dsimp only at y1 y2 y3
      by_cases h1 : j < d.s.length
      · have h1z : j < Z.length := by rw [HZL.out]; exact h1
        have hq := HQ0.out.keep HR.out.1
        obtain ⟨ad, hA, h8, hok⟩ := hq.2.2.1.at_ h1z
        dsimp only at hA h8 hok
        subst hA
        have HZE : Hid (ze Z[j] = d.s[j]) := Lib.hid (HZA.out j h1z h1).symm
        have HZB := Lib.hid (HB4.out Z[j] (List.getElem_mem h1z))
        clear hq
        generalize Z[j] = z at *
        obtain ⟨x, m, k⟩ := z
        obtain ⟨q1, q2, q3⟩ := HZB.out
        dsimp only at q1 q2 q3
        have HOK := Lib.hid hok
        clear hok HZB
        obtain ⟨x0, x1, x2, x3, x4, x5, x6, x7⟩ := h8
        dsimp only at x0 x1 x2 x3 x4 x5 x6 x7
        have Q1 := Lib.hid (Tz.new wr x m)
        go_upto_region 6 with (fail)
        obtain ⟨wb, hwb⟩ : ∃ wb, wr.alloc (hcel x m) = wb := ⟨_, rfl⟩
        rw [hwb] at Q1
        rw [hcel] at hwb
        rw [hwb]
        clear hwb x0 x1 x2 x3 x4 x5 x6 x7 y0 y1 y2 y3 y4
        obtain ⟨Tb, hTb⟩ : ∃ Tb, wr.heap.size = Tb := ⟨_, rfl⟩
        have HTb := Lib.hid hTb
        rw [hTb] at Q1 ⊢
        clear hTb
        obtain ⟨z0, z1, z2, z3, z4, z5, z6, z7, z8⟩ := Q1.out.2.2
        go_wp2_with (at_builtin; refine wpList_append_rd _ rfl (.tmp 27) (.tmp 29) 49 rfl wb.heap.size 5 i0 Try.underlying49 hi hz0 hz1 hz2 _ 0 [] rfl (World.ownsRow_lit wb #[] 0 (Nat.le_refl _) (Nat.zero_le _) rfl) x.A m.a.length x.c m.a rfl (Rd.alloc (HOK.out.1.1.keep (HTb.out ▸ Q1.out.1)) _) rfl (by omega) (by simp) ?_)
        intro A4 c4 w1 ho1 hg1 hb1 _
        have Q2 := Lib.hid (Q1.out.call (new1.trans hb1))
        have HO4 : Hid (w1.ownsRow (Tb + 1) 5 1 (.slice A4 m.a.length c4) m.a.length (cel m.a)) := own_base (by simpa using ho1) (Nat.succ_le_of_lt Q1.out.2.1.1)
        have Q3 := Lib.hid (Q2.out.set 0 (.slice A4 m.a.length c4) (Q2.out.2.2.setA A4 c4 m.a _ rfl))
        have HO4b : Hid ((w1.setCell ⟨Tb, 0, none⟩ (.slice A4 m.a.length c4)).ownsRow (Tb + 1) 5 1 (.slice A4 m.a.length c4) m.a.length (cel m.a)) := ownsRow_setCell_below HO4.out (by show Tb < _; omega) _
        clear ho1 hg1 hb1 Q1 HO4 z0 z1 z2 z3 z4 z5 z6 z7 z8
        obtain ⟨f0, f1, f2, f3, f4, f5, f6, f7⟩ := Q2.out.2.1.keepM
        obtain ⟨z0, z1, z2, z3, z4, z5, z6, z7, z8⟩ := Q2.out.2.2
        go_upto_region 7 with (fail)
        clear f0 f1 f2 f3 f4 f5 f6 f7 z0 z1 z2 z3 z4 z5 z6 z7 z8 Q2
        generalize w1.setCell ⟨Tb, 0, none⟩ (.slice A4 m.a.length c4) = w2 at Q3 HO4b ⊢
        obtain ⟨z0, z1, z2, z3, z4, z5, z6, z7, z8⟩ := Q3.out.2.2
        dsimp only at z1 z2 z8
        go_wp2_with (at_builtin; refine wpList_append_rd _ rfl (.tmp 32) (.tmp 34) 49 rfl w2.heap.size 5 i0 Try.underlying49 hi hz0 hz1 hz2 _ 0 [] rfl (World.ownsRow_lit w2 #[] 0 (Nat.le_refl _) (Nat.zero_le _) rfl) x.B m.l.length x.d m.l rfl (Rd.alloc (HOK.out.1.2.1.keep (HTb.out ▸ Q3.out.1)) _) rfl (by omega) (by simp) ?_)
        intro A5 c5 w3 ho1 hg1 hb1 _
        have Q4 := Lib.hid (Q3.out.call (new1.trans hb1))
        have HO5 : Hid (w3.ownsRow (Tb + 1) 5 1 (.slice A5 m.l.length c5) m.l.length (cel m.l)) := own_base (by simpa using ho1) (Nat.succ_le_of_lt Q3.out.2.1.1)
        have HO4c := Lib.hid (own_below HO4b.out (new1.trans hb1) (Nat.le_refl _))
        have Q5 := Lib.hid (Q4.out.set 1 (.slice A5 m.l.length c5) (Q4.out.2.2.setB A5 c5 m.l _ rfl))
        have HO4d : Hid ((w3.setCell ⟨Tb, 1, none⟩ (.slice A5 m.l.length c5)).ownsRow (Tb + 1) 5 1 (.slice A4 m.a.length c4) m.a.length (cel m.a)) := ownsRow_setCell_below HO4c.out (by show Tb < _; omega) _
        have HO5b : Hid ((w3.setCell ⟨Tb, 1, none⟩ (.slice A5 m.l.length c5)).ownsRow (Tb + 1) 5 1 (.slice A5 m.l.length c5) m.l.length (cel m.l)) := ownsRow_setCell_below HO5.out (by show Tb < _; omega) _
        clear ho1 hg1 hb1 Q3 HO4b HO4c HO5 z0 z1 z2 z3 z4 z5 z6 z7 z8
        obtain ⟨f0, f1, f2, f3, f4, f5, f6, f7⟩ := Q4.out.2.1.keepM
        obtain ⟨z0, z1, z2, z3, z4, z5, z6, z7, z8⟩ := Q4.out.2.2
        dsimp only at z1 z2 z8
        go_upto_region 8 with (fail)
        clear f0 f1 f2 f3 f4 f5 f6 f7 z0 z1 z2 z3 z4 z5 z6 z7 z8 Q4
        generalize w3.setCell ⟨Tb, 1, none⟩ (.slice A5 m.l.length c5) = w4 at Q5 HO4d HO5b ⊢
        obtain ⟨z0, z1, z2, z3, z4, z5, z6, z7, z8⟩ := Q5.out.2.2
        dsimp only at z1 z2 z8
        go_wp2_with fail
        refine (rcopy_any x.D x.e x.k k _ (HOK.out.2.1.keep (HTb.out ▸ Q5.out.1)) HOK.out.2.2 (by omega)).mono ?_
        rintro r w5 ⟨A6, c6, rfl, ho1, hb1⟩
        have Q6 := Lib.hid (Q5.out.call hb1)
        have HO6 := Lib.hid (own_base ho1 (Nat.succ_le_of_lt Q5.out.2.1.1))
        have HO4e := Lib.hid (own_below HO4d.out hb1 (Nat.le_refl _))
        have HO5c := Lib.hid (own_below HO5b.out hb1 (Nat.le_refl _))
        have Q7 := Lib.hid (Q6.out.set (x2 := ⟨A4, c4, A5, c5, A6, x.k, c6⟩) 7 (.slice A6 x.k c6) (Q6.out.2.2.setD A6 x.k c6))
        have HW : Hid (Wz (w5.setCell ⟨Tb, 7, none⟩ (.slice A6 x.k c6)) (Tb + 1) ⟨⟨A4, c4, A5, c5, A6, x.k, c6⟩, m, k⟩) :=
          Lib.hid ⟨⟨HOK.out.1.1.byt, HOK.out.1.2.1.byt, HOK.out.1.2.2, HOK.out.2.1.1, HOK.out.2.2⟩, ownsRow_setCell_below HO4e.out (by show Tb < _; omega) _, ownsRow_setCell_below HO5c.out (by show Tb < _; omega) _, ownsRow_setCell_below HO6.out (by show Tb < _; omega) _⟩
        clear ho1 hb1 Q5 HO4d HO5b HO4e HO5c HO6 z0 z1 z2 z3 z4 z5 z6 z7 z8
        obtain ⟨f0, f1, f2, f3, f4, f5, f6, f7⟩ := Q6.out.2.1.keepM
        obtain ⟨z0, z1, z2, z3, z4, z5, z6, z7, z8⟩ := Q6.out.2.2
        dsimp only at z1 z2 z8
        go_upto_region 9 with (fail)
        clear f0 f1 f2 f3 f4 f5 f6 f7 z0 z1 z2 z3 z4 z5 z6 z7 z8 Q6
        generalize w5.setCell ⟨Tb, 7, none⟩ (.slice A6 x.k c6) = w6 at Q7 HW ⊢
        have hTB := HR.out.2.2.2.2.2.2.2.2.2.2
        have hTw : B1 + 2 ≤ Tb := by have := HR.out.2.2.2.1.1; rw [HTb.out] at this; omega
        have HR2 := Lib.hid (HR.out.call (w' := w6) (HTb.out ▸ Q7.out.1))
        have HW2 := Lib.hid (HW.out.based (Nat.le_succ_of_le hTw))
        have HPW2 := Lib.hid (dj13_snoc HPW.out HR.out.2.2.2.2.2.2.2.2.2.1.1 HTb.out HW.out)
        clear HW HR HOK HPW
        have HR3 := Lib.hid (HR2.out.call (new1 (a := .cells (ce8 ⟨⟨A4, c4, A5, c5, A6, x.k, c6⟩, m, k⟩).toArray 52)))
        have HW3 := Lib.hid (HW2.out.keep (new1 (a := .cells (ce8 ⟨⟨A4, c4, A5, c5, A6, x.k, c6⟩, m, k⟩).toArray 52)))
        obtain ⟨z0, z1, z2, z3, z4, z5, z6, z7, z8⟩ := Q7.out.2.2
        dsimp only at z1 z2 z8
        obtain ⟨t0, t1, t2, t3, t4⟩ := HR2.out.2.2.2.2.1
        go_wp2_with (at_builtin; refine wpList_append_rm _ rfl (.tmp 42) (.tmp 44) rfl (B1 + 2) (.slice A3 j c3) j Zs rfl HR3.out.2.2.2.2.2.2.2.2.1 ⟨w6.heap.size, 0, none⟩ ⟨⟨A4, c4, A5, c5, A6, x.k, c6⟩, m, k⟩ rfl (ce8_new w6 _ _) (by omega) (Nat.le_trans hTB (Nat.le_of_lt HR3.out.2.2.2.1.1)) ?_)
        intro A7 c7 w7 ho1 hg1 hb1 _
        have HR4 := Lib.hid (HR3.out.grow hg1 hb1 HW3.out ho1 (by rw [List.getElem?_eq_getElem h1]; exact congrArg some HZE.out.symm))
        have HR5 := Lib.hid (HR4.out.put)
        clear ho1 hg1 hb1 HR2 HR3 HW2 HW3 Q7 z0 z1 z2 z3 z4 z5 z6 z7 z8 t0 t1 t2 t3 t4
        obtain ⟨t0, t1, t2, t3, t4⟩ := HR4.out.2.2.2.2.1
        have f2 := HR4.out.2.2.2.1.2 2
        go_wp2_with fail
        go_roundw
        case rel => exact ⟨j + 1, Zs ++ [⟨⟨A4, c4, A5, c5, A6, x.k, c6⟩, m, k⟩], A7, c7, by omega, by go_num, HR5, HPW2⟩
        case measure => simp [intOf]; omega
      · obtain rfl : j = d.s.length := by omega
        have HF := Lib.hid (HR.out.finz HQ0.out HPW.out)
        obtain ⟨t0, t1, t2, t3, t4⟩ := HR.out.2.2.2.2.1
        obtain ⟨⟨e0, ef⟩, ⟨e1, e2, e3, e4, e5⟩⟩ := HR.out.2.2.1
        have f0 := ef 0
        have f1 := ef 1
        have f2 := ef 2
        have f3 := ef 3
        clear HR ef
        go_wp2_with fail
        obtain ⟨⟨h1, h2, h3, h4⟩, h5⟩ := HF.out
        exact rcopy_end _ _ (B1 + 1) ⟨A1, c1, A2, c2, A3, c3, Zs⟩ d rfl h1 _ ⟨_, rfl, h2, h3, h4, h5⟩
  refine wp_region_L [10] (S := fun w' => Hid (Sx w w' [fF B1, fD B1 ⟨G, gc, P, pc, A, c, Z⟩ d, fMz (B1 + 1), fQm ⟨G, gc, P, pc, A, c, Z⟩ d])) (by kernel_rfl) (Hsx.drew S0) (fun hHeld => ?_)
  refine wpL_reckon (i := 0) (v := ?_) rfl (by kernel_rfl) (fun _ _ _ h => h) (Or.inl ⟨by rfl, ?_⟩) (Or.inr (by assumption)) ?_
  rotate_left 1
  · intro w _; go_simp; try with_reducible rfl
  try simp only [Act.put, List.getElem_toArray, List.getElem_cons_zero, List.getElem_cons_succ, List.setIfInBounds_toArray, List.set_cons_zero, List.set_cons_succ]
  refine wpL_take (i := 1) (v := ?_) rfl (by kernel_rfl) (fun _ _ _ h => h) (Or.inl ⟨by rfl, ?_⟩) (by assumption) ?_
  rotate_left 1
  · intro w hSw; (try dsimp only at hSw); obtain ⟨-, -, ⟨y0, y1, y2, y3, y4⟩, -⟩ := hSw.out; go_simp; try with_reducible rfl
  try simp only [Act.put, List.getElem_toArray, List.getElem_cons_zero, List.getElem_cons_succ, List.setIfInBounds_toArray, List.set_cons_zero, List.set_cons_succ]
  refine wpL_reckon (i := 3) (v := ?_) rfl (by kernel_rfl) (fun _ _ _ h => h) (Or.inl ⟨by rfl, ?_⟩) (Or.inr (by assumption)) ?_
  rotate_left 1
  · intro w _; go_simp; try with_reducible rfl
  try simp only [Act.put, List.getElem_toArray, List.getElem_cons_zero, List.getElem_cons_succ, List.setIfInBounds_toArray, List.set_cons_zero, List.set_cons_succ]
  refine wpL_take (i := 4) (v := ?_) rfl (by kernel_rfl) (fun _ _ _ h => h) (Or.inl ⟨by rfl, ?_⟩) (by assumption) ?_
  rotate_left 1
  · intro w hSw; (try dsimp only at hSw); obtain ⟨-, -, ⟨y0, y1, y2, y3, y4⟩, -⟩ := hSw.out; go_simp; try with_reducible rfl
  try simp only [Act.put, List.getElem_toArray, List.getElem_cons_zero, List.getElem_cons_succ, List.setIfInBounds_toArray, List.set_cons_zero, List.set_cons_succ]
  refine wpL_reckon (i := 6) (v := ?_) rfl (by kernel_rfl) (fun _ _ _ h => h) (Or.inl ⟨by rfl, ?_⟩) (Or.inr (by assumption)) ?_
  rotate_left 1
  · intro w _; go_simp; try with_reducible rfl
  try simp only [Act.put, List.getElem_toArray, List.getElem_cons_zero, List.getElem_cons_succ, List.setIfInBounds_toArray, List.set_cons_zero, List.set_cons_succ]
  refine wpL_take (i := 7) (v := ?_) rfl (by kernel_rfl) (fun _ _ _ h => h) (Or.inl ⟨by rfl, ?_⟩) (by assumption) ?_
  rotate_left 1
  · intro w hSw; (try dsimp only at hSw); obtain ⟨-, -, ⟨y0, y1, y2, y3, y4⟩, -⟩ := hSw.out; go_simp; try with_reducible rfl
  try simp only [Act.put, List.getElem_toArray, List.getElem_cons_zero, List.getElem_cons_succ, List.setIfInBounds_toArray, List.set_cons_zero, List.set_cons_succ]
  refine wpL_ready (rs := [2, 9]) (by kernel_rfl) (by simp) ?_
  refine AllL.cons rfl (fun K hK => ?_) ?_
  · skip
    go_simp
    refine (r3copy_any G gc d.g.length d.g _ hHeld.out.2.2.2.2.1.1 rfl (by omega)).mono ?_
    rintro r wb1 ⟨A1, c1, rfl, ho, hb⟩
    have HO1 := Lib.hid (own_base ho (Nat.succ_le_of_lt hHeld.out.2.2.2.1.1.1))
    have HB1 := Lib.hid hb
    clear ho hb
    go_wp2_with fail
    refine hK.out _ _ (Hsx.call HB1.out hHeld) (fun hHeld => ?_)
    clear hK K
    try simp only [Act.put, List.getElem_toArray, List.getElem_cons_zero, List.getElem_cons_succ, List.setIfInBounds_toArray, List.set_cons_zero, List.set_cons_succ]
    refine wpL_ready (rs := [5, 9]) (by kernel_rfl) (by simp) ?_
    refine AllL.cons rfl (fun K hK => ?_) ?_
    · skip
      go_simp
      refine (r3copy_any P pc d.p.length d.p _ hHeld.out.2.2.2.2.1.2.1 rfl (by omega)).mono ?_
      rintro r wb2 ⟨A2, c2, rfl, ho, hb⟩
      have HO2 := Lib.hid (own_base ho (Nat.succ_le_of_lt hHeld.out.2.2.2.1.1.1))
      have HB2 := Lib.hid hb
      clear ho hb
      replace HO1 := Lib.hid (own_below HO1.out HB2.out (Nat.le_refl _))
      go_wp2_with fail
      refine hK.out _ _ (Hsx.call HB2.out hHeld) (fun hHeld => ?_)
      clear hK K
      try simp only [Act.put, List.getElem_toArray, List.getElem_cons_zero, List.getElem_cons_succ, List.setIfInBounds_toArray, List.set_cons_zero, List.set_cons_succ]
      refine wpL_reckon (i := 8) (v := ?_) rfl (by kernel_rfl) (fun _ _ _ h => h) (Or.inl ⟨by rfl, ?_⟩) (Or.inr (by assumption)) ?_
      rotate_left 1
      · intro w _; go_simp; try with_reducible rfl
      try simp only [Act.put, List.getElem_toArray, List.getElem_cons_zero, List.getElem_cons_succ, List.setIfInBounds_toArray, List.set_cons_zero, List.set_cons_succ]
      refine wpL_ready (rs := [9]) (by kernel_rfl) (by simp) ?_
      refine AllL.cons rfl (fun K hK => ?_) AllL.nil
      go_simp
      have HT := Lib.hid (T8.new wb2)
      have SA := Lib.hid (hHeld.out.call (new1 (w := wb2) (a := .cells #[.slice none 0 0, .slice none 0 0, .slice none 0 0, .int .i64 0] 25)))
      show K _ (wb2.alloc (.cells #[.slice none 0 0, .slice none 0 0, .slice none 0 0, .int .i64 0] 25))
      obtain ⟨T, hT⟩ : ∃ T, wb2.heap.size = T := ⟨_, rfl⟩
      have hTB : B1 + 2 ≤ T := by rw [← hT]; exact Nat.succ_le_of_lt hHeld.out.2.2.2.1.1.1
      have HT : Hid (T8 (wb2.alloc (.cells #[.slice none 0 0, .slice none 0 0, .slice none 0 0, .int .i64 0] 25)) T) := hT ▸ HT
      rw [hT]
      clear hT
      replace HO1 := Lib.hid (own_below HO1.out (new1 (w := wb2) (a := .cells #[.slice none 0 0, .slice none 0 0, .slice none 0 0, .int .i64 0] 25)) (Nat.le_refl _))
      replace HO2 := Lib.hid (own_below HO2.out (new1 (w := wb2) (a := .cells #[.slice none 0 0, .slice none 0 0, .slice none 0 0, .int .i64 0] 25)) (Nat.le_refl _))
      generalize wb2.alloc (.cells #[.slice none 0 0, .slice none 0 0, .slice none 0 0, .int .i64 0] 25) = wa2 at *
      refine hK.out _ _ (SA) (fun hHeld => ?_)
      clear hK K
      try simp only [Act.put, List.getElem_toArray, List.getElem_cons_zero, List.getElem_cons_succ, List.setIfInBounds_toArray, List.set_cons_zero, List.set_cons_succ]
      refine wpL_ready (rs := [10]) (by kernel_rfl) (by simp) ?_
      refine AllL.late rfl (by kernel_rfl) (fun K hK => ?_) AllL.nil
      have SZ := hHeld
      obtain ⟨⟨h20, h21⟩, ⟨h10, h11, h12, h13, h14⟩, -⟩ := HT.out
      have h30 := h21 0
      have h31 := h21 1
      have h32 := h21 2
      have h33 := h21 3
      clear h21
      go_simp
      refine hK.out _ _ ?_
      clear hK K
      try simp only [Act.put, List.getElem_toArray, List.getElem_cons_zero, List.getElem_cons_succ, List.setIfInBounds_toArray, List.set_cons_zero, List.set_cons_succ]
      refine wpL_done (by kernel_rfl) ?_ _
      exact TAIL _ _ _ _ _ _ (rc8_start SZ.out HBQ.out HT.out hTB HO1.out HO2.out) _ _ _ _ _ _ _ _ _ _ _
    refine AllL.cons rfl (fun K hK => ?_) AllL.nil
    go_simp
    have HT := Lib.hid (T8.new wb1)
    have SA := Lib.hid (hHeld.out.call (new1 (w := wb1) (a := .cells #[.slice none 0 0, .slice none 0 0, .slice none 0 0, .int .i64 0] 25)))
    show K _ (wb1.alloc (.cells #[.slice none 0 0, .slice none 0 0, .slice none 0 0, .int .i64 0] 25))
    obtain ⟨T, hT⟩ : ∃ T, wb1.heap.size = T := ⟨_, rfl⟩
    have hTB : B1 + 2 ≤ T := by rw [← hT]; exact Nat.succ_le_of_lt hHeld.out.2.2.2.1.1.1
    have HT : Hid (T8 (wb1.alloc (.cells #[.slice none 0 0, .slice none 0 0, .slice none 0 0, .int .i64 0] 25)) T) := hT ▸ HT
    rw [hT]
    clear hT
    replace HO1 := Lib.hid (own_below HO1.out (new1 (w := wb1) (a := .cells #[.slice none 0 0, .slice none 0 0, .slice none 0 0, .int .i64 0] 25)) (Nat.le_refl _))
    generalize wb1.alloc (.cells #[.slice none 0 0, .slice none 0 0, .slice none 0 0, .int .i64 0] 25) = wa1 at *
    refine hK.out _ _ (SA) (fun hHeld => ?_)
    clear hK K
    try simp only [Act.put, List.getElem_toArray, List.getElem_cons_zero, List.getElem_cons_succ, List.setIfInBounds_toArray, List.set_cons_zero, List.set_cons_succ]
    refine wpL_ready (rs := [5]) (by kernel_rfl) (by simp) ?_
    refine AllL.cons rfl (fun K hK => ?_) AllL.nil
    go_simp
    refine (r3copy_any P pc d.p.length d.p _ hHeld.out.2.2.2.2.1.2.1 rfl (by omega)).mono ?_
    rintro r wb2 ⟨A2, c2, rfl, ho, hb⟩
    have HO2 := Lib.hid (own_base ho (Nat.succ_le_of_lt hHeld.out.2.2.2.1.1.1))
    have HB2 := Lib.hid hb
    clear ho hb
    replace HT := Lib.hid (HT.out.keep HB2.out)
    replace HO1 := Lib.hid (own_below HO1.out HB2.out (Nat.le_refl _))
    go_wp2_with fail
    refine hK.out _ _ (Hsx.call HB2.out hHeld) (fun hHeld => ?_)
    clear hK K
    try simp only [Act.put, List.getElem_toArray, List.getElem_cons_zero, List.getElem_cons_succ, List.setIfInBounds_toArray, List.set_cons_zero, List.set_cons_succ]
    refine wpL_reckon (i := 8) (v := ?_) rfl (by kernel_rfl) (fun _ _ _ h => h) (Or.inl ⟨by rfl, ?_⟩) (Or.inr (by assumption)) ?_
    rotate_left 1
    · intro w _; go_simp; try with_reducible rfl
    try simp only [Act.put, List.getElem_toArray, List.getElem_cons_zero, List.getElem_cons_succ, List.setIfInBounds_toArray, List.set_cons_zero, List.set_cons_succ]
    refine wpL_ready (rs := [10]) (by kernel_rfl) (by simp) ?_
    refine AllL.late rfl (by kernel_rfl) (fun K hK => ?_) AllL.nil
    have SZ := hHeld
    obtain ⟨⟨h20, h21⟩, ⟨h10, h11, h12, h13, h14⟩, -⟩ := HT.out
    have h30 := h21 0
    have h31 := h21 1
    have h32 := h21 2
    have h33 := h21 3
    clear h21
    go_simp
    refine hK.out _ _ ?_
    clear hK K
    try simp only [Act.put, List.getElem_toArray, List.getElem_cons_zero, List.getElem_cons_succ, List.setIfInBounds_toArray, List.set_cons_zero, List.set_cons_succ]
    refine wpL_done (by kernel_rfl) ?_ _
    exact TAIL _ _ _ _ _ _ (rc8_start SZ.out HBQ.out HT.out hTB HO1.out HO2.out) _ _ _ _ _ _ _ _ _ _ _
  refine AllL.cons rfl (fun K hK => ?_) AllL.nil
  go_simp
  have HT := Lib.hid (T8.new w0.drew)
  have SA := Lib.hid (hHeld.out.call (new1 (w := w0.drew) (a := .cells #[.slice none 0 0, .slice none 0 0, .slice none 0 0, .int .i64 0] 25)))
  show K _ (w0.drew.alloc (.cells #[.slice none 0 0, .slice none 0 0, .slice none 0 0, .int .i64 0] 25))
  obtain ⟨T, hT⟩ : ∃ T, w0.heap.size = T := ⟨_, rfl⟩
  have hTB : B1 + 2 ≤ T := by rw [← hT]; exact Nat.succ_le_of_lt hHeld.out.2.2.2.1.1.1
  have HT : Hid (T8 (w0.drew.alloc (.cells #[.slice none 0 0, .slice none 0 0, .slice none 0 0, .int .i64 0] 25)) T) := hT ▸ HT
  rw [hT]
  clear hT
  generalize w0.drew.alloc (.cells #[.slice none 0 0, .slice none 0 0, .slice none 0 0, .int .i64 0] 25) = wa0 at *
  refine hK.out _ _ (SA) (fun hHeld => ?_)
  clear hK K
  try simp only [Act.put, List.getElem_toArray, List.getElem_cons_zero, List.getElem_cons_succ, List.setIfInBounds_toArray, List.set_cons_zero, List.set_cons_succ]
  refine wpL_ready (rs := [2]) (by kernel_rfl) (by simp) ?_
  refine AllL.cons rfl (fun K hK => ?_) AllL.nil
  go_simp
  refine (r3copy_any G gc d.g.length d.g _ hHeld.out.2.2.2.2.1.1 rfl (by omega)).mono ?_
  rintro r wb1 ⟨A1, c1, rfl, ho, hb⟩
  have HO1 := Lib.hid (own_base ho (Nat.succ_le_of_lt hHeld.out.2.2.2.1.1.1))
  have HB1 := Lib.hid hb
  clear ho hb
  replace HT := Lib.hid (HT.out.keep HB1.out)
  go_wp2_with fail
  refine hK.out _ _ (Hsx.call HB1.out hHeld) (fun hHeld => ?_)
  clear hK K
  try simp only [Act.put, List.getElem_toArray, List.getElem_cons_zero, List.getElem_cons_succ, List.setIfInBounds_toArray, List.set_cons_zero, List.set_cons_succ]
  refine wpL_ready (rs := [5]) (by kernel_rfl) (by simp) ?_
  refine AllL.cons rfl (fun K hK => ?_) AllL.nil
  go_simp
  refine (r3copy_any P pc d.p.length d.p _ hHeld.out.2.2.2.2.1.2.1 rfl (by omega)).mono ?_
  rintro r wb2 ⟨A2, c2, rfl, ho, hb⟩
  have HO2 := Lib.hid (own_base ho (Nat.succ_le_of_lt hHeld.out.2.2.2.1.1.1))
  have HB2 := Lib.hid hb
  clear ho hb
  replace HT := Lib.hid (HT.out.keep HB2.out)
  replace HO1 := Lib.hid (own_below HO1.out HB2.out (Nat.le_refl _))
  go_wp2_with fail
  refine hK.out _ _ (Hsx.call HB2.out hHeld) (fun hHeld => ?_)
  clear hK K
  try simp only [Act.put, List.getElem_toArray, List.getElem_cons_zero, List.getElem_cons_succ, List.setIfInBounds_toArray, List.set_cons_zero, List.set_cons_succ]
  refine wpL_reckon (i := 8) (v := ?_) rfl (by kernel_rfl) (fun _ _ _ h => h) (Or.inl ⟨by rfl, ?_⟩) (Or.inr (by assumption)) ?_
  rotate_left 1
  · intro w _; go_simp; try with_reducible rfl
  try simp only [Act.put, List.getElem_toArray, List.getElem_cons_zero, List.getElem_cons_succ, List.setIfInBounds_toArray, List.set_cons_zero, List.set_cons_succ]
  refine wpL_ready (rs := [10]) (by kernel_rfl) (by simp) ?_
  refine AllL.late rfl (by kernel_rfl) (fun K hK => ?_) AllL.nil
  have SZ := hHeld
  obtain ⟨⟨h20, h21⟩, ⟨h10, h11, h12, h13, h14⟩, -⟩ := HT.out
  have h30 := h21 0
  have h31 := h21 1
  have h32 := h21 2
  have h33 := h21 3
  clear h21
  go_simp
  refine hK.out _ _ ?_
  clear hK K
  try simp only [Act.put, List.getElem_toArray, List.getElem_cons_zero, List.getElem_cons_succ, List.setIfInBounds_toArray, List.set_cons_zero, List.set_cons_succ]
  refine wpL_done (by kernel_rfl) ?_ _
  exact TAIL _ _ _ _ _ _ (rc8_start SZ.out HBQ.out HT.out hTB HO1.out HO2.out) _ _ _ _ _ _ _ _ _ _ _

theorem r8copyz (y : Ma) (d : Md) (w : World) (hq : Hq w y d) (hg : qG d = false) : Calls Try.prog 8 #[dv y d] w fun r w' => ∃ t, r = .returned (dv t d) ∧ Hq w' t d ∧ Ow w' w.heap.size w'.heap.size t d ∧ Below w.heap.size w w' ∧ Oc13 w' w.heap.size t d := by
  obtain ⟨h1, h2, h3, h4⟩ := qG_bd hq hg
  exact r8copyz_v y d w hq (by omega) (by omega) (by omega) (fun z hz => by have := h4 z hz; omega)
end Go.Proofs.Ytimjnmkfbdijeaa
