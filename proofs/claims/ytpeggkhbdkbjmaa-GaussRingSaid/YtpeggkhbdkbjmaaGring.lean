/-
  The walk of GaussRing: for every three pairs it returns true; nothing that was there has changed.
-/
import Derived.Test.YtpeggkhbdkbjmaaGmath
namespace Go.Proofs.Ytpeggkhbdkbjmaa
open Go.RowKit

/-- The pairs that memory holds, each in a block above the next one's. -/
def Sr (w0 w : World) (L : List (Nat × Int × Int)) : Prop := St w0 w L ∧ L.Pairwise (fun e f => f.1 < e.1)
theorem Prs.lt {w : World} {L : List (Nat × Int × Int)} (h : Prs w L) : ∀ e ∈ L, e.1 < w.heap.size := by
  induction L with
  | nil => intro e he; cases he
  | cons e L ih =>
    obtain ⟨B, x, y⟩ := e
    intro f hf
    rcases List.mem_cons.1 hf with rfl | hf
    · exact h.1.1
    · exact ih h.2 f hf
theorem Sr.call {w0 w w' : World} {L : List (Nat × Int × Int)} (h : Sr w0 w L) (hb : Below w.heap.size w w') : Sr w0 w' L := ⟨h.1.call hb, h.2⟩
theorem Sr.new {w0 w w' : World} {L : List (Nat × Int × Int)} (h : Sr w0 w L) {x y : Int} (hb : Below (w.alloc (.cells #[.int .i64 x, .int .i64 y] 23)).heap.size (w.alloc (.cells #[.int .i64 x, .int .i64 y] 23)) w') : Sr w0 w' ((w.heap.size, x, y) :: L) :=
  ⟨h.1.new hb, List.pairwise_cons.2 ⟨fun e he => h.1.2.lt e he, h.2⟩⟩
theorem Sr.mk {w0 w : World} {L : List (Nat × Int × Int)} (h : Sr w0 w L) (x y : Int) : Sr w0 (w.alloc (.cells #[.int .i64 x, .int .i64 y] 23)) ((w.heap.size, x, y) :: L) := h.new (Below.refl _ _)
theorem Prs.others {w : World} {C : Nat} {x' y' : Value} {L : List (Nat × Int × Int)} (h : Prs w L) (hn : ∀ e ∈ L, e.1 ≠ C) : Prs ((w.setCell ⟨C, 0, none⟩ x').setCell ⟨C, 1, none⟩ y') L := by
  induction L with
  | nil => trivial
  | cons e L ih =>
    obtain ⟨B, x, y⟩ := e
    exact ⟨h.1.other (hn (B, x, y) List.mem_cons_self) _ _, ih h.2 fun e he => hn e (List.mem_cons_of_mem _ he)⟩
theorem Prs.app {w : World} {L M : List (Nat × Int × Int)} : Prs w (L ++ M) ↔ Prs w L ∧ Prs w M := by
  induction L with
  | nil => simp [Prs]
  | cons e L ih => obtain ⟨B, x, y⟩ := e; simp only [List.cons_append, Prs, ih, and_assoc]
/-- One of the pairs is set anew. -/
theorem Sr.set {w0 w : World} (L : List (Nat × Int × Int)) {B : Nat} {x y : Int} {M : List (Nat × Int × Int)} (h : Sr w0 w (L ++ (B, x, y) :: M)) (hB : w0.heap.size ≤ B) (x' y' : Int) :
    Sr w0 ((w.setCell ⟨B, 0, none⟩ (.int .i64 x')).setCell ⟨B, 1, none⟩ (.int .i64 y')) (L ++ (B, x', y') :: M) := by
  have hp := List.pairwise_append.1 h.2
  have hm := List.pairwise_cons.1 hp.2.1
  obtain ⟨h1, h2, h3⟩ := (by have := Prs.app.1 h.1.2; exact ⟨this.1, this.2.1, this.2.2⟩ : Prs w L ∧ Pr w B x y ∧ Prs w M)
  refine ⟨⟨below_set2 h.1.1 hB hB _ _, Prs.app.2 ⟨h1.others fun e he => ?_, h2.set x' y', h3.others fun e he => ?_⟩⟩, ?_⟩
  · have := hp.2.2 e he (B, x, y) List.mem_cons_self
    simp at this; omega
  · have := hm.1 e he
    simp at this; omega
  · refine List.pairwise_append.2 ⟨hp.1, List.pairwise_cons.2 ⟨hm.1, hm.2⟩, fun e he f hf => ?_⟩
    rcases List.mem_cons.1 hf with rfl | hf
    · exact hp.2.2 e he (B, x, y) List.mem_cons_self
    · exact hp.2.2 e he f (List.mem_cons_of_mem _ hf)

theorem add_comm' (a b c d : Int) : addI c d a b = addI a b c d := by
  unfold addI
  rw [Int.add_comm c a, Int.add_comm d b, Bool.and_comm (okB c d) (okB a b)]
theorem mul_comm' (a b c d : Int) : mulI c d a b = mulI a b c d ∧ c * a - d * b = a * c - b * d ∧ c * b + d * a = a * d + b * c := by
  have e1 : c * a - d * b = a * c - b * d := by grind
  have e2 : c * b + d * a = a * d + b * c := by grind
  refine ⟨?_, e1, e2⟩
  unfold mulI
  rw [e1, e2, Bool.and_comm (okB c d) (okB a b)]
theorem bool_not {b : Bool} (h : b = true → False) : b = false := by cases b <;> simp_all

theorem ring_plain {pa pb qa qb ra rb A1 A2 C1 C2 K1 K2 D1 D2 L1 L2 R1 R2 E1 E2 U1 U2 V1 V2 F1 F2 X1 X2 Y1 Y2 : Int} {vp vq vi vk vm vn vo vs vt vu vv vw vx vy : Bool} (hp : okB pa pb = vp) (hq : okB qa qb = vq)
    (h0 : addI pa pb qa qb = vi ∧ gX vi (pa + qa) = A1 ∧ gX vi (pb + qb) = A2) (h2 : mulI pa pb qa qb = vk ∧ gX vk (pa * qa - pb * qb) = C1 ∧ gX vk (pa * qb + pb * qa) = C2) (h4 : subI A1 A2 qa qb = vm ∧ gX vm (A1 - qa) = K1 ∧ gX vm (A2 - qb) = K2) (h5 : addI qa qb ra rb = vn ∧ gX vn (qa + ra) = D1 ∧ gX vn (qb + rb) = D2) (h6 : addI A1 A2 ra rb = vo ∧ gX vo (A1 + ra) = L1 ∧ gX vo (A2 + rb) = L2) (h7 : addI pa pb D1 D2 = vs ∧ gX vs (pa + D1) = R1 ∧ gX vs (pb + D2) = R2) (h8 : mulI qa qb ra rb = vt ∧ gX vt (qa * ra - qb * rb) = E1 ∧ gX vt (qa * rb + qb * ra) = E2) (h9 : mulI C1 C2 ra rb = vu ∧ gX vu (C1 * ra - C2 * rb) = U1 ∧ gX vu (C1 * rb + C2 * ra) = U2) (h10 : mulI pa pb E1 E2 = vv ∧ gX vv (pa * E1 - pb * E2) = V1 ∧ gX vv (pa * E2 + pb * E1) = V2) (h11 : mulI pa pb ra rb = vw ∧ gX vw (pa * ra - pb * rb) = F1 ∧ gX vw (pa * rb + pb * ra) = F2) (h12 : mulI pa pb D1 D2 = vx ∧ gX vx (pa * D1 - pb * D2) = X1 ∧ gX vx (pa * D2 + pb * D1) = X2) (h13 : addI C1 C2 F1 F2 = vy ∧ gX vy (C1 + F1) = Y1 ∧ gX vy (C2 + F2) = Y2) :
    (vp = false → vi = false ∧ vk = false) ∧ (vq = false → vi = false ∧ vk = false) ∧ (vi = true → vm = true ∧ K1 = pa ∧ K2 = pb) ∧
    (vi = true → vn = true → vo = true → vs = true → L1 = R1 ∧ L2 = R2) ∧ (vk = true → vt = true → vu = true → vv = true → U1 = V1 ∧ U2 = V2) ∧
    (vn = true → vk = true → vw = true → vx = vy ∧ X1 = Y1 ∧ X2 = Y2) := by
  refine ⟨fun h => ?_, fun h => ?_, fun h => ?_, fun hi hn ho hs => ?_, fun hk ht hu hv => ?_, fun hn hk hw => ?_⟩
  · subst h
    refine ⟨bool_not fun e => ?_, bool_not fun e => ?_⟩
    · rw [e] at h0
      have := (addI_iff.1 h0.1).1
      rw [hp] at this; cases this
    · rw [e] at h2
      have := (mulI_iff.1 h2.1).1
      rw [hp] at this; cases this
  · subst h
    refine ⟨bool_not fun e => ?_, bool_not fun e => ?_⟩
    · rw [e] at h0
      have := (addI_iff.1 h0.1).2.1
      rw [hq] at this; cases this
    · rw [e] at h2
      have := (mulI_iff.1 h2.1).2.1
      rw [hq] at this; cases this
  · subst h
    obtain ⟨e0, rfl, rfl⟩ := h0
    obtain ⟨e1, rfl, rfl⟩ := h4
    obtain ⟨k1, k2, k3⟩ := addI_iff.1 e0
    simp only [gX_t] at e1 ⊢
    have e2 : pa + qa - qa = pa := by omega
    have e3 : pb + qb - qb = pb := by omega
    have : vm = true := by
      rw [← e1]
      exact subI_iff.2 ⟨k3, k2, by rw [e2, e3]; exact k1⟩
    subst this
    exact ⟨rfl, e2, e3⟩
  · subst hi hn ho hs
    obtain ⟨_, rfl, rfl⟩ := h0
    obtain ⟨_, rfl, rfl⟩ := h5
    obtain ⟨_, rfl, rfl⟩ := h6
    obtain ⟨_, rfl, rfl⟩ := h7
    simp only [gX_t]
    constructor <;> omega
  · subst hk ht hu hv
    obtain ⟨_, rfl, rfl⟩ := h2
    obtain ⟨_, rfl, rfl⟩ := h8
    obtain ⟨_, rfl, rfl⟩ := h9
    obtain ⟨_, rfl, rfl⟩ := h10
    simp only [gX_t]
    constructor <;> grind
  · subst hn hk hw
    obtain ⟨a5, rfl, rfl⟩ := h5
    obtain ⟨a2, rfl, rfl⟩ := h2
    obtain ⟨a11, rfl, rfl⟩ := h11
    simp only [gX_t] at h12 h13
    obtain ⟨a12, rfl, rfl⟩ := h12
    obtain ⟨a13, rfl, rfl⟩ := h13
    obtain ⟨k1, k2, k3⟩ := mulI_iff.1 a2
    obtain ⟨l1, l2, l3⟩ := mulI_iff.1 a11
    obtain ⟨m1, m2, m3⟩ := addI_iff.1 a5
    have e1 : pa * (qa + ra) - pb * (qb + rb) = pa * qa - pb * qb + (pa * ra - pb * rb) := by grind
    have e2 : pa * (qb + rb) + pb * (qa + ra) = pa * qb + pb * qa + (pa * rb + pb * ra) := by grind
    have : vx = vy := by
      rw [← a12, ← a13]
      unfold mulI addI
      rw [k1, k3, l3, m3, e1, e2]
    subst this
    rw [e1, e2]
    exact ⟨rfl, rfl, rfl⟩

set_option maxRecDepth 100000 in
set_option maxHeartbeats 8000000 in
theorem ring_walk (pa pb qa qb ra rb : Int) (w : World) : Calls Try.prog 4 #[.agg #[.int .i64 pa, .int .i64 pb], .agg #[.int .i64 qa, .int .i64 qb], .agg #[.int .i64 ra, .int .i64 rb]] w fun e w' => e = .returned (.bool true) ∧ Below w.heap.size w w' := by
  obtain ⟨vp, hp⟩ : ∃ v, okB pa pb = v := ⟨_, rfl⟩
  obtain ⟨vq, hq⟩ : ∃ v, okB qa qb = v := ⟨_, rfl⟩
  obtain ⟨vi, A1, A2, h0⟩ : ∃ (v : Bool) (x y : Int), addI pa pb qa qb = v ∧ gX v (pa + qa) = x ∧ gX v (pb + qb) = y := ⟨_, _, _, rfl, rfl, rfl⟩
  obtain ⟨vk, C1, C2, h2⟩ : ∃ (v : Bool) (x y : Int), mulI pa pb qa qb = v ∧ gX v (pa * qa - pb * qb) = x ∧ gX v (pa * qb + pb * qa) = y := ⟨_, _, _, rfl, rfl, rfl⟩
  obtain ⟨vm, K1, K2, h4⟩ : ∃ (v : Bool) (x y : Int), subI A1 A2 qa qb = v ∧ gX v (A1 - qa) = x ∧ gX v (A2 - qb) = y := ⟨_, _, _, rfl, rfl, rfl⟩
  obtain ⟨vn, D1, D2, h5⟩ : ∃ (v : Bool) (x y : Int), addI qa qb ra rb = v ∧ gX v (qa + ra) = x ∧ gX v (qb + rb) = y := ⟨_, _, _, rfl, rfl, rfl⟩
  obtain ⟨vo, L1, L2, h6⟩ : ∃ (v : Bool) (x y : Int), addI A1 A2 ra rb = v ∧ gX v (A1 + ra) = x ∧ gX v (A2 + rb) = y := ⟨_, _, _, rfl, rfl, rfl⟩
  obtain ⟨vs, R1, R2, h7⟩ : ∃ (v : Bool) (x y : Int), addI pa pb D1 D2 = v ∧ gX v (pa + D1) = x ∧ gX v (pb + D2) = y := ⟨_, _, _, rfl, rfl, rfl⟩
  obtain ⟨vt, E1, E2, h8⟩ : ∃ (v : Bool) (x y : Int), mulI qa qb ra rb = v ∧ gX v (qa * ra - qb * rb) = x ∧ gX v (qa * rb + qb * ra) = y := ⟨_, _, _, rfl, rfl, rfl⟩
  obtain ⟨vu, U1, U2, h9⟩ : ∃ (v : Bool) (x y : Int), mulI C1 C2 ra rb = v ∧ gX v (C1 * ra - C2 * rb) = x ∧ gX v (C1 * rb + C2 * ra) = y := ⟨_, _, _, rfl, rfl, rfl⟩
  obtain ⟨vv, V1, V2, h10⟩ : ∃ (v : Bool) (x y : Int), mulI pa pb E1 E2 = v ∧ gX v (pa * E1 - pb * E2) = x ∧ gX v (pa * E2 + pb * E1) = y := ⟨_, _, _, rfl, rfl, rfl⟩
  obtain ⟨vw, F1, F2, h11⟩ : ∃ (v : Bool) (x y : Int), mulI pa pb ra rb = v ∧ gX v (pa * ra - pb * rb) = x ∧ gX v (pa * rb + pb * ra) = y := ⟨_, _, _, rfl, rfl, rfl⟩
  obtain ⟨vx, X1, X2, h12⟩ : ∃ (v : Bool) (x y : Int), mulI pa pb D1 D2 = v ∧ gX v (pa * D1 - pb * D2) = x ∧ gX v (pa * D2 + pb * D1) = y := ⟨_, _, _, rfl, rfl, rfl⟩
  obtain ⟨vy, Y1, Y2, h13⟩ : ∃ (v : Bool) (x y : Int), addI C1 C2 F1 F2 = v ∧ gX v (C1 + F1) = x ∧ gX v (C2 + F2) = y := ⟨_, _, _, rfl, rfl, rfl⟩
  have h1 : addI qa qb pa pb = vi ∧ gX vi (qa + pa) = A1 ∧ gX vi (qb + pb) = A2 := by rw [add_comm', Int.add_comm qa pa, Int.add_comm qb pb]; exact h0
  have h3 : mulI qa qb pa pb = vk ∧ gX vk (qa * pa - qb * pb) = C1 ∧ gX vk (qa * pb + qb * pa) = C2 := by rw [(mul_comm' pa pb qa qb).1, (mul_comm' pa pb qa qb).2.1, (mul_comm' pa pb qa qb).2.2]; exact h2
  obtain ⟨f1, f2, f3, f4, f5, f6⟩ := ring_plain hp hq h0 h2 h4 h5 h6 h7 h8 h9 h10 h11 h12 h13
  have G1 := Lib.hid f1
  have G2 := Lib.hid f2
  have G3 := Lib.hid f3
  have G4 := Lib.hid f4
  have G5 := Lib.hid f5
  have G6 := Lib.hid f6
  have HP := Lib.hid hp
  have HQ := Lib.hid hq
  have H0 := Lib.hid h0
  have H1 := Lib.hid h1
  have H2 := Lib.hid h2
  have H3 := Lib.hid h3
  have H4 := Lib.hid h4
  have H5 := Lib.hid h5
  have H6 := Lib.hid h6
  have H7 := Lib.hid h7
  have H8 := Lib.hid h8
  have H9 := Lib.hid h9
  have H10 := Lib.hid h10
  have H11 := Lib.hid h11
  have H12 := Lib.hid h12
  have H13 := Lib.hid h13
  clear hp hq f1 f2 f3 f4 f5 f6 h0 h1 h2 h3 h4 h5 h6 h7 h8 h9 h10 h11 h12 h13
  have eq := fun (a b x y : Int) (w : World) => eq_pair 9998 a b x y w
  go_enter Try.func4, Try.ntmps4
  go_wp2_with fail
  refine (awake_any _).mono ?_
  rintro e w1 ⟨rfl, hb1⟩
  have p : Pr w1 w.heap.size pa pb := (((Pr.new w pa pb).alloc (.cells #[.int .i64 qa, .int .i64 qb] 23)).alloc (.cells #[.int .i64 ra, .int .i64 rb] 23)).keep hb1
  have q : Pr w1 (w.heap.size + 1) qa qb := by simpa using ((Pr.new (w.alloc (.cells #[.int .i64 pa, .int .i64 pb] 23)) qa qb).alloc (.cells #[.int .i64 ra, .int .i64 rb] 23)).keep hb1
  have r : Pr w1 (w.heap.size + 2) ra rb := by simpa using (Pr.new ((w.alloc (.cells #[.int .i64 pa, .int .i64 pb] 23)).alloc (.cells #[.int .i64 qa, .int .i64 qb] 23)) ra rb).keep hb1
  have S : Hid (Sr w w1 [(w.heap.size + 2, ra, rb), (w.heap.size + 1, qa, qb), (w.heap.size, pa, pb)]) := ⟨⟨below3 hb1, r, q, p, trivial⟩, by simp⟩
  clear hb1 p q r
  obtain ⟨⟨-, -, ⟨q0, q1, q2, q3, q4⟩, ⟨p0, p1, p2, p3, p4⟩, -⟩, -⟩ := S.out
  go_wp2_with fail
  refine (add_e _ _ _ _ _ _ _ _ H0.out).mono ?_
  rintro e w2 ⟨rfl, hb⟩
  clear q0 q1 q2 q3 q4 p0 p1 p2 p3 p4 
  have S' := Lib.hid (S.out.call hb)
  clear hb S
  have S := S'
  clear S'
  obtain ⟨⟨-, -, ⟨q0, q1, q2, q3, q4⟩, ⟨p0, p1, p2, p3, p4⟩, -⟩, -⟩ := S.out
  go_wp2_with fail
  refine (add_e _ _ _ _ _ _ _ _ H1.out).mono ?_
  rintro e w3 ⟨rfl, hb⟩
  clear q0 q1 q2 q3 q4 p0 p1 p2 p3 p4 
  have S' := Lib.hid (S.out.new hb)
  clear hb S
  have S := S'
  clear S'
  obtain ⟨⟨-, -, -, ⟨q0, q1, q2, q3, q4⟩, ⟨p0, p1, p2, p3, p4⟩, -⟩, -⟩ := S.out
  go_wp2_with fail
  refine (mul_e _ _ _ _ _ _ _ _ H2.out).mono ?_
  rintro e w4 ⟨rfl, hb⟩
  clear q0 q1 q2 q3 q4 p0 p1 p2 p3 p4 
  have S' := Lib.hid (S.out.new hb)
  clear hb S
  have S := S'
  clear S'
  obtain ⟨⟨-, -, -, -, ⟨q0, q1, q2, q3, q4⟩, ⟨p0, p1, p2, p3, p4⟩, -⟩, -⟩ := S.out
  go_wp2_with fail
  refine (mul_e _ _ _ _ _ _ _ _ H3.out).mono ?_
  rintro e w5 ⟨rfl, hb⟩
  clear q0 q1 q2 q3 q4 p0 p1 p2 p3 p4 
  have S' := Lib.hid (S.out.new hb)
  clear hb S
  have S := S'
  clear S'
  go_upto_region 7 with (fail)
  go_cut [90] from 57 to 90 (fun s wx => s = .bool false ∧ Hid (Sr w wx [(w5.heap.size, C1, C2), (w4.heap.size, C1, C2), (w3.heap.size, A1, A2), (w2.heap.size, A1, A2), (w.heap.size + 2, ra, rb), (w.heap.size + 1, qa, qb), (w.heap.size, pa, pb)]))
  case first =>
    cases vp with
    | false =>
      obtain ⟨rfl, rfl⟩ := G1.out rfl
      obtain ⟨⟨-, ⟨c0, c1, c2, c3, c4⟩, ⟨b0, b1, b2, b3, b4⟩, ⟨a0, a1, a2, a3, a4⟩, -, -, ⟨p0, p1, p2, p3, p4⟩, -⟩, -⟩ := S.out
      go_wp2_with fail
      refine (may_v _ _ _ _ HP.out).mono ?_
      rintro e wyp ⟨rfl, hb⟩
      clear c0 c1 c2 c3 c4 b0 b1 b2 b3 b4 a0 a1 a2 a3 a4 p0 p1 p2 p3 p4 
      have S' := Lib.hid (S.out.new hb)
      clear hb S
      have S := S'
      clear S'
      go_wp2_with fail
      go_meet
      exact ⟨rfl, S⟩
    | true =>
      cases vq with
      | false =>
        obtain ⟨rfl, rfl⟩ := G2.out rfl
        obtain ⟨⟨-, ⟨c0, c1, c2, c3, c4⟩, ⟨b0, b1, b2, b3, b4⟩, ⟨a0, a1, a2, a3, a4⟩, -, ⟨q0, q1, q2, q3, q4⟩, ⟨p0, p1, p2, p3, p4⟩, -⟩, -⟩ := S.out
        go_wp2_with fail
        refine (may_v _ _ _ _ HP.out).mono ?_
        rintro e wyp ⟨rfl, hb⟩
        clear c0 c1 c2 c3 c4 b0 b1 b2 b3 b4 a0 a1 a2 a3 a4 q0 q1 q2 q3 q4 p0 p1 p2 p3 p4 
        have S' := Lib.hid (S.out.new hb)
        clear hb S
        have S := S'
        clear S'
        obtain ⟨⟨-, -, -, -, -, -, ⟨q0, q1, q2, q3, q4⟩, -, -⟩, -⟩ := S.out
        go_wp2_with fail
        refine (may_v _ _ _ _ HQ.out).mono ?_
        rintro e wyq ⟨rfl, hb⟩
        clear q0 q1 q2 q3 q4 
        have S' := Lib.hid (S.out.call hb)
        clear hb S
        have S := S'
        clear S'
        go_wp2_with fail
        go_meet
        exact ⟨rfl, S⟩
      | true =>
        obtain ⟨⟨-, ⟨c0, c1, c2, c3, c4⟩, ⟨b0, b1, b2, b3, b4⟩, ⟨a0, a1, a2, a3, a4⟩, -, ⟨q0, q1, q2, q3, q4⟩, ⟨p0, p1, p2, p3, p4⟩, -⟩, -⟩ := S.out
        go_wp2_with fail
        refine (may_v _ _ _ _ HP.out).mono ?_
        rintro e wyp ⟨rfl, hb⟩
        clear c0 c1 c2 c3 c4 b0 b1 b2 b3 b4 a0 a1 a2 a3 a4 q0 q1 q2 q3 q4 p0 p1 p2 p3 p4 
        have S' := Lib.hid (S.out.new hb)
        clear hb S
        have S := S'
        clear S'
        obtain ⟨⟨-, -, -, -, -, -, ⟨q0, q1, q2, q3, q4⟩, -, -⟩, -⟩ := S.out
        go_wp2_with fail
        refine (may_v _ _ _ _ HQ.out).mono ?_
        rintro e wyq ⟨rfl, hb⟩
        clear q0 q1 q2 q3 q4 
        have S' := Lib.hid (S.out.call hb)
        clear hb S
        have S := S'
        clear S'
        go_wp2_with fail
        go_meet
        exact ⟨rfl, S⟩
  case rest =>
    obtain ⟨rfl, S'⟩ := hcut
    clear S
    have S := S'
    clear S'
    obtain ⟨⟨-, -, -, -, ⟨a0, a1, a2, a3, a4⟩, -, ⟨q0, q1, q2, q3, q4⟩, -, -⟩, -⟩ := S.out
    go_wp2_with fail
    refine (sub_e _ _ _ _ _ _ _ _ H4.out).mono ?_
    rintro e w6 ⟨rfl, hb⟩
    clear a0 a1 a2 a3 a4 q0 q1 q2 q3 q4 
    have S' := Lib.hid (S.out.call hb)
    clear hb S
    have S := S'
    clear S'
    go_upto_region 10 with (fail)
    go_cut [106] from 97 to 106 (fun s wx => s = .bool false ∧ Hid (Sr w wx [(w6.heap.size, K1, K2), (w5.heap.size, C1, C2), (w4.heap.size, C1, C2), (w3.heap.size, A1, A2), (w2.heap.size, A1, A2), (w.heap.size + 2, ra, rb), (w.heap.size + 1, qa, qb), (w.heap.size, pa, pb)]))
    case first =>
      cases vi with
      | false =>
        go_wp2_with fail
        go_meet
        exact ⟨rfl, Lib.hid (S.out.mk _ _)⟩
      | true =>
        obtain ⟨rfl, rfl, rfl⟩ := G3.out rfl
        obtain ⟨⟨-, -, -, -, -, -, -, ⟨p0, p1, p2, p3, p4⟩, -⟩, -⟩ := S.out
        go_wp2_with fail
        clear p0 p1 p2 p3 p4 
        go_meet
        exact ⟨rfl, Lib.hid (S.out.mk _ _)⟩
    case rest =>
      obtain ⟨rfl, S'⟩ := hcut
      clear S
      have S := S'
      clear S'
      obtain ⟨⟨-, -, -, -, -, -, ⟨r0, r1, r2, r3, r4⟩, ⟨q0, q1, q2, q3, q4⟩, -, -⟩, -⟩ := S.out
      go_wp2_with fail
      refine (add_e _ _ _ _ _ _ _ _ H5.out).mono ?_
      rintro e w7 ⟨rfl, hb⟩
      clear r0 r1 r2 r3 r4 q0 q1 q2 q3 q4 
      have S' := Lib.hid (S.out.call hb)
      clear hb S
      have S := S'
      clear S'
      obtain ⟨⟨-, -, -, -, -, ⟨a0, a1, a2, a3, a4⟩, ⟨r0, r1, r2, r3, r4⟩, -, -, -⟩, -⟩ := S.out
      go_wp2_with fail
      refine (add_e _ _ _ _ _ _ _ _ H6.out).mono ?_
      rintro e w8 ⟨rfl, hb⟩
      clear a0 a1 a2 a3 a4 r0 r1 r2 r3 r4 
      have S' := Lib.hid (S.out.new hb)
      clear hb S
      have S := S'
      clear S'
      obtain ⟨⟨-, ⟨qr0, qr1, qr2, qr3, qr4⟩, -, -, -, -, -, -, -, ⟨p0, p1, p2, p3, p4⟩, -⟩, -⟩ := S.out
      go_wp2_with fail
      refine (add_e _ _ _ _ _ _ _ _ H7.out).mono ?_
      rintro e w9 ⟨rfl, hb⟩
      clear qr0 qr1 qr2 qr3 qr4 p0 p1 p2 p3 p4 
      have S' := Lib.hid (S.out.new hb)
      clear hb S
      have S := S'
      clear S'
      go_upto_region 15 with (fail)
      go_cut [139] from 125 to 139 (fun s wx => s = .bool false ∧ Hid (Sr w wx [(w9.heap.size, R1, R2), (w8.heap.size, L1, L2), (w7.heap.size, D1, D2), (w6.heap.size, K1, K2), (w5.heap.size, C1, C2), (w4.heap.size, C1, C2), (w3.heap.size, A1, A2), (w2.heap.size, A1, A2), (w.heap.size + 2, ra, rb), (w.heap.size + 1, qa, qb), (w.heap.size, pa, pb)]))
      case first =>
        cases vi with
        | false =>
          go_wp2_with fail
          go_meet
          exact ⟨rfl, Lib.hid (S.out.mk _ _)⟩
        | true =>
          cases vn with
          | false =>
            go_wp2_with fail
            go_meet
            exact ⟨rfl, Lib.hid (S.out.mk _ _)⟩
          | true =>
            cases vo with
            | false =>
              go_wp2_with fail
              go_meet
              exact ⟨rfl, Lib.hid (S.out.mk _ _)⟩
            | true =>
              cases vs with
              | false =>
                go_wp2_with fail
                go_meet
                exact ⟨rfl, Lib.hid (S.out.mk _ _)⟩
              | true =>
                obtain ⟨rfl, rfl⟩ := G4.out rfl rfl rfl rfl
                obtain ⟨⟨-, ⟨left0, left1, left2, left3, left4⟩, -, -, -, -, -, -, -, -, -, -⟩, -⟩ := S.out
                go_wp2_with fail
                clear left0 left1 left2 left3 left4 
                go_meet
                exact ⟨rfl, Lib.hid (S.out.mk _ _)⟩
      case rest =>
        obtain ⟨rfl, S'⟩ := hcut
        clear S
        have S := S'
        clear S'
        obtain ⟨⟨-, -, -, -, -, -, -, -, -, ⟨r0, r1, r2, r3, r4⟩, ⟨q0, q1, q2, q3, q4⟩, -, -⟩, -⟩ := S.out
        go_wp2_with fail
        refine (mul_e _ _ _ _ _ _ _ _ H8.out).mono ?_
        rintro e w10 ⟨rfl, hb⟩
        clear r0 r1 r2 r3 r4 q0 q1 q2 q3 q4 
        have S' := Lib.hid (S.out.call hb)
        clear hb S
        have S := S'
        clear S'
        obtain ⟨⟨-, -, -, -, -, -, ⟨c0, c1, c2, c3, c4⟩, -, -, ⟨r0, r1, r2, r3, r4⟩, -, -, -⟩, -⟩ := S.out
        go_wp2_with fail
        refine (mul_e _ _ _ _ _ _ _ _ H9.out).mono ?_
        rintro e w11 ⟨rfl, hb⟩
        clear c0 c1 c2 c3 c4 r0 r1 r2 r3 r4 
        have S' := Lib.hid (S.out.new hb)
        clear hb S
        have S := S'
        clear S'
        obtain ⟨⟨-, ⟨mqr0, mqr1, mqr2, mqr3, mqr4⟩, -, ⟨left0, left1, left2, left3, left4⟩, -, -, -, -, -, -, -, -, ⟨p0, p1, p2, p3, p4⟩, -⟩, -⟩ := S.out
        have hd := S.out.2
        simp at hd
        have n_mqr : ¬ (w10.heap.size = w8.heap.size) := by omega
        have m_mqr : ¬ (w8.heap.size = w10.heap.size) := by omega
        have n_p : ¬ (w.heap.size = w8.heap.size) := by omega
        have m_p : ¬ (w8.heap.size = w.heap.size) := by omega
        clear hd
        go_wp2_with fail
        refine (mul_e _ _ _ _ _ _ _ _ H10.out).mono ?_
        rintro e w12 ⟨rfl, hb⟩
        clear mqr0 mqr1 mqr2 mqr3 mqr4 left0 left1 left2 left3 left4 p0 p1 p2 p3 p4 n_mqr m_mqr n_p m_p 
        have hB : w.heap.size ≤ w8.heap.size := by have := S.out.1.1.size; have := S.out.2; simp at this; omega
        have S' := Lib.hid (Sr.set [(w10.heap.size, E1, E2), (w9.heap.size, R1, R2)] S.out hB U1 U2)
        clear S hB
        have S : Hid (Sr w _ [(w10.heap.size, E1, E2), (w9.heap.size, R1, R2), (w8.heap.size, U1, U2), (w7.heap.size, D1, D2), (w6.heap.size, K1, K2), (w5.heap.size, C1, C2), (w4.heap.size, C1, C2), (w3.heap.size, A1, A2), (w2.heap.size, A1, A2), (w.heap.size + 2, ra, rb), (w.heap.size + 1, qa, qb), (w.heap.size, pa, pb)]) := S'
        clear S'
        have S' := Lib.hid (S.out.call hb)
        clear hb S
        have S := S'
        clear S'
        obtain ⟨⟨-, -, ⟨right0, right1, right2, right3, right4⟩, -, -, -, -, -, -, -, -, -, -, -⟩, -⟩ := S.out
        have hd := S.out.2
        simp at hd
        clear hd
        go_upto_region 20 with (fail)
        clear right0 right1 right2 right3 right4 
        go_cut [172] from 158 to 172 (fun s wx => s = .bool false ∧ Hid (Sr w wx [(w10.heap.size, E1, E2), (w9.heap.size, V1, V2), (w8.heap.size, U1, U2), (w7.heap.size, D1, D2), (w6.heap.size, K1, K2), (w5.heap.size, C1, C2), (w4.heap.size, C1, C2), (w3.heap.size, A1, A2), (w2.heap.size, A1, A2), (w.heap.size + 2, ra, rb), (w.heap.size + 1, qa, qb), (w.heap.size, pa, pb)]))
        case first =>
          cases vk with
          | false =>
            go_wp2_with fail
            have hB : w.heap.size ≤ w9.heap.size := by have := S.out.1.1.size; have := S.out.2; simp at this; omega
            have S' := fun x y : Int => Lib.hid (Sr.set [(w10.heap.size, _, _)] S.out hB x y)
            go_meet
            exact ⟨rfl, S' _ _⟩
          | true =>
            cases vt with
            | false =>
              go_wp2_with fail
              have hB : w.heap.size ≤ w9.heap.size := by have := S.out.1.1.size; have := S.out.2; simp at this; omega
              have S' := fun x y : Int => Lib.hid (Sr.set [(w10.heap.size, _, _)] S.out hB x y)
              go_meet
              exact ⟨rfl, S' _ _⟩
            | true =>
              cases vu with
              | false =>
                go_wp2_with fail
                have hB : w.heap.size ≤ w9.heap.size := by have := S.out.1.1.size; have := S.out.2; simp at this; omega
                have S' := fun x y : Int => Lib.hid (Sr.set [(w10.heap.size, _, _)] S.out hB x y)
                go_meet
                exact ⟨rfl, S' _ _⟩
              | true =>
                cases vv with
                | false =>
                  go_wp2_with fail
                  have hB : w.heap.size ≤ w9.heap.size := by have := S.out.1.1.size; have := S.out.2; simp at this; omega
                  have S' := fun x y : Int => Lib.hid (Sr.set [(w10.heap.size, _, _)] S.out hB x y)
                  go_meet
                  exact ⟨rfl, S' _ _⟩
                | true =>
                  obtain ⟨rfl, rfl⟩ := G5.out rfl rfl rfl rfl
                  obtain ⟨⟨-, -, ⟨right0, right1, right2, right3, right4⟩, ⟨left0, left1, left2, left3, left4⟩, -, -, -, -, -, -, -, -, -, -⟩, -⟩ := S.out
                  have hd := S.out.2
                  simp at hd
                  have n_left : ¬ (w8.heap.size = w9.heap.size) := by omega
                  have m_left : ¬ (w9.heap.size = w8.heap.size) := by omega
                  clear hd
                  go_wp2_with fail
                  clear right0 right1 right2 right3 right4 left0 left1 left2 left3 left4 n_left m_left 
                  have hB : w.heap.size ≤ w9.heap.size := by have := S.out.1.1.size; have := S.out.2; simp at this; omega
                  have S' := fun x y : Int => Lib.hid (Sr.set [(w10.heap.size, _, _)] S.out hB x y)
                  go_meet
                  exact ⟨rfl, S' _ _⟩
        case rest =>
          obtain ⟨rfl, S'⟩ := hcut
          clear S
          have S := S'
          clear S'
          obtain ⟨⟨-, -, -, -, -, -, -, -, -, -, ⟨r0, r1, r2, r3, r4⟩, -, ⟨p0, p1, p2, p3, p4⟩, -⟩, -⟩ := S.out
          go_wp2_with fail
          refine (mul_e _ _ _ _ _ _ _ _ H11.out).mono ?_
          rintro e w13 ⟨rfl, hb⟩
          clear r0 r1 r2 r3 r4 p0 p1 p2 p3 p4 
          have S' := Lib.hid (S.out.call hb)
          clear hb S
          have S := S'
          clear S'
          obtain ⟨⟨-, -, -, -, ⟨qr0, qr1, qr2, qr3, qr4⟩, -, -, -, -, -, -, -, ⟨p0, p1, p2, p3, p4⟩, -⟩, -⟩ := S.out
          go_wp2_with fail
          refine (mul_e _ _ _ _ _ _ _ _ H12.out).mono ?_
          rintro e w14 ⟨rfl, hb⟩
          clear qr0 qr1 qr2 qr3 qr4 p0 p1 p2 p3 p4 
          have S' := Lib.hid (S.out.new hb)
          clear hb S
          have S := S'
          clear S'
          obtain ⟨⟨-, ⟨pr0, pr1, pr2, pr3, pr4⟩, -, -, ⟨left0, left1, left2, left3, left4⟩, -, -, -, ⟨c0, c1, c2, c3, c4⟩, -, -, -, -, -, -⟩, -⟩ := S.out
          have hd := S.out.2
          simp at hd
          have n_pr : ¬ (w13.heap.size = w8.heap.size) := by omega
          have m_pr : ¬ (w8.heap.size = w13.heap.size) := by omega
          have n_c : ¬ (w4.heap.size = w8.heap.size) := by omega
          have m_c : ¬ (w8.heap.size = w4.heap.size) := by omega
          clear hd
          go_wp2_with fail
          refine (add_e _ _ _ _ _ _ _ _ H13.out).mono ?_
          rintro e w15 ⟨rfl, hb⟩
          clear pr0 pr1 pr2 pr3 pr4 left0 left1 left2 left3 left4 c0 c1 c2 c3 c4 n_pr m_pr n_c m_c 
          have hB : w.heap.size ≤ w8.heap.size := by have := S.out.1.1.size; have := S.out.2; simp at this; omega
          have S' := Lib.hid (Sr.set [(w13.heap.size, F1, F2), (w10.heap.size, E1, E2), (w9.heap.size, V1, V2)] S.out hB X1 X2)
          clear S hB
          have S : Hid (Sr w _ [(w13.heap.size, F1, F2), (w10.heap.size, E1, E2), (w9.heap.size, V1, V2), (w8.heap.size, X1, X2), (w7.heap.size, D1, D2), (w6.heap.size, K1, K2), (w5.heap.size, C1, C2), (w4.heap.size, C1, C2), (w3.heap.size, A1, A2), (w2.heap.size, A1, A2), (w.heap.size + 2, ra, rb), (w.heap.size + 1, qa, qb), (w.heap.size, pa, pb)]) := S'
          clear S'
          have S' := Lib.hid (S.out.call hb)
          clear hb S
          have S := S'
          clear S'
          cases vn with
          | false =>
            obtain ⟨⟨-, -, -, ⟨right0, right1, right2, right3, right4⟩, -, -, -, -, -, -, -, -, -, -, -⟩, -⟩ := S.out
            have hd := S.out.2
            simp at hd
            clear hd
            go_wp2_with fail
            clear right0 right1 right2 right3 right4 
            have hB : w.heap.size ≤ w9.heap.size := by have := S.out.1.1.size; have := S.out.2; simp at this; omega
            have S' := fun x y : Int => Lib.hid (Sr.set [(w13.heap.size, _, _), (w10.heap.size, _, _)] S.out hB x y)
            go_ret
            exact ⟨rfl, (S' _ _).out.1.1⟩
          | true =>
            cases vk with
            | false =>
              obtain ⟨⟨-, -, -, ⟨right0, right1, right2, right3, right4⟩, -, -, -, -, -, -, -, -, -, -, -⟩, -⟩ := S.out
              have hd := S.out.2
              simp at hd
              clear hd
              go_wp2_with fail
              clear right0 right1 right2 right3 right4 
              have hB : w.heap.size ≤ w9.heap.size := by have := S.out.1.1.size; have := S.out.2; simp at this; omega
              have S' := fun x y : Int => Lib.hid (Sr.set [(w13.heap.size, _, _), (w10.heap.size, _, _)] S.out hB x y)
              go_ret
              exact ⟨rfl, (S' _ _).out.1.1⟩
            | true =>
              cases vw with
              | false =>
                obtain ⟨⟨-, -, -, ⟨right0, right1, right2, right3, right4⟩, -, -, -, -, -, -, -, -, -, -, -⟩, -⟩ := S.out
                have hd := S.out.2
                simp at hd
                clear hd
                go_wp2_with fail
                clear right0 right1 right2 right3 right4 
                have hB : w.heap.size ≤ w9.heap.size := by have := S.out.1.1.size; have := S.out.2; simp at this; omega
                have S' := fun x y : Int => Lib.hid (Sr.set [(w13.heap.size, _, _), (w10.heap.size, _, _)] S.out hB x y)
                go_ret
                exact ⟨rfl, (S' _ _).out.1.1⟩
              | true =>
                obtain ⟨rfl, rfl, rfl⟩ := G6.out rfl rfl rfl
                obtain ⟨⟨-, -, -, ⟨right0, right1, right2, right3, right4⟩, ⟨left0, left1, left2, left3, left4⟩, -, -, -, -, -, -, -, -, -, -⟩, -⟩ := S.out
                have hd := S.out.2
                simp at hd
                have n_left : ¬ (w8.heap.size = w9.heap.size) := by omega
                have m_left : ¬ (w9.heap.size = w8.heap.size) := by omega
                clear hd
                go_wp2_with fail
                clear right0 right1 right2 right3 right4 left0 left1 left2 left3 left4 n_left m_left 
                have hB : w.heap.size ≤ w9.heap.size := by have := S.out.1.1.size; have := S.out.2; simp at this; omega
                have S' := fun x y : Int => Lib.hid (Sr.set [(w13.heap.size, _, _), (w10.heap.size, _, _)] S.out hB x y)
                go_ret
                exact ⟨rfl, (S' _ _).out.1.1⟩
end Go.Proofs.Ytpeggkhbdkbjmaa
