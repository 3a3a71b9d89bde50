/-
  What octet.GetRow answers, for every argument: a copy of the bytes, the next offset and the error; nothing that was there has changed.
-/
import Derived.Test.YtingcchamhbgkaaGets
namespace Go.Proofs.Ytingcchamhbgkaa
open Go.RowKit

/-- Three result variables in three blocks. -/
def Res (W : World) (g T : Nat) (v1 v2 v3 : Value) : Prop :=
  W.heap[g]? = some (.cells #[v1] T (0, 0)) ∧ W.heap[g + 1]? = some (.cells #[v2] 3 (0, 0)) ∧ W.heap[g + 1 + 1]? = some (.cells #[v3] 24 (0, 0))
section
variable {W W' : World} {g T : Nat} {v1 v2 v3 : Value}
theorem Res.c1 (h : Res W g T v1 v2 v3) : W.cell? ⟨g, 0, none⟩ = some v1 := cell_of_one h.1
theorem Res.c2 (h : Res W g T v1 v2 v3) : W.cell? ⟨g + 1, 0, none⟩ = some v2 := cell_of_one h.2.1
theorem Res.c3 (h : Res W g T v1 v2 v3) : W.cell? ⟨g + 1 + 1, 0, none⟩ = some v3 := cell_of_one h.2.2
theorem Res.f1 (h : Res W g T v1 v2 v3) : W.frozen? ⟨g, 0, none⟩ = false := free_of_one h.1
theorem Res.f2 (h : Res W g T v1 v2 v3) : W.frozen? ⟨g + 1, 0, none⟩ = false := free_of_one h.2.1
theorem Res.f3 (h : Res W g T v1 v2 v3) : W.frozen? ⟨g + 1 + 1, 0, none⟩ = false := free_of_one h.2.2
theorem Res.lt (h : Res W g T v1 v2 v3) : g + 1 + 1 < W.heap.size := (Array.getElem?_eq_some_iff.1 h.2.2).1
theorem Res.s1 (h : Res W g T v1 v2 v3) (u : Value) : Res (W.setCell ⟨g, 0, none⟩ u) g T u v2 v3 :=
  ⟨one_setCell h.1, (Below.heap_setCell _ _ _ _ (by simp)).trans h.2.1, (Below.heap_setCell _ _ _ _ (by simp; omega)).trans h.2.2⟩
theorem Res.s2 (h : Res W g T v1 v2 v3) (u : Value) : Res (W.setCell ⟨g + 1, 0, none⟩ u) g T v1 u v3 :=
  ⟨(Below.heap_setCell _ _ _ _ (by simp)).trans h.1, one_setCell h.2.1, (Below.heap_setCell _ _ _ _ (by simp)).trans h.2.2⟩
theorem Res.s3 (h : Res W g T v1 v2 v3) (u : Value) : Res (W.setCell ⟨g + 1 + 1, 0, none⟩ u) g T v1 v2 u :=
  ⟨(Below.heap_setCell _ _ _ _ (by simp; omega)).trans h.1, (Below.heap_setCell _ _ _ _ (by simp)).trans h.2.1, one_setCell h.2.2⟩
theorem Res.below (h : Res W g T v1 v2 v3) (hb : Below W.heap.size W W') : Res W' g T v1 v2 v3 :=
  ⟨(hb.block _ (Array.getElem?_eq_some_iff.1 h.1).1).trans h.1, (hb.block _ (Array.getElem?_eq_some_iff.1 h.2.1).1).trans h.2.1, (hb.block _ (Array.getElem?_eq_some_iff.1 h.2.2).1).trans h.2.2⟩
end
theorem res_new (w : World) (T : Nat) (v1 v2 v3 : Value) : Res (((w.alloc (.cells #[v1] T)).alloc (.cells #[v2] 3)).alloc (.cells #[v3] 24)) w.heap.size T v1 v2 v3 := by
  refine ⟨?_, ?_, ?_⟩
  · rw [Below.heap_alloc _ _ _ (by simp; omega), Below.heap_alloc _ _ _ (by simp)]; exact heap_alloc_new _ _
  · rw [Below.heap_alloc _ _ _ (by simp)]
    have := heap_alloc_new (w.alloc (.cells #[v1] T)) (.cells #[v2] 3)
    simpa using this
  · have := heap_alloc_new ((w.alloc (.cells #[v1] T)).alloc (.cells #[v2] 3)) (.cells #[v3] 24)
    simpa using this

theorem row_door (tm : Array Value) (W : World) (g : Nat) (A : Option Addr) (n c : Nat) (x e : Int) (R : Ending → World → Prop) (h4 : tm[4]?.getD undef = .pointer (some ⟨g, 0, none⟩)) (h5 : tm[5]?.getD undef = .pointer (some ⟨g + 1, 0, none⟩)) (h6 : tm[6]?.getD undef = .pointer (some ⟨g + 1 + 1, 0, none⟩))
    (h : Res W g 22 (.slice A n c) (.int .i64 x) (.int .i64 e))
    (hR : if e = 0 then R (.returned (.tuple #[.slice A n c, .int .i64 x, .int .i64 e])) W else R (.returned (.tuple #[.slice none 0 0, .int .i64 0, .int .i64 e])) ((W.setCell ⟨g, 0, none⟩ (.slice none 0 0)).setCell ⟨g + 1, 0, none⟩ (.int .i64 0))) :
    bodyPostD Try.prog Try.f20 R Exit.ret { tmps := tm, defers := [{ target := Target.fn (Fn.func 33) #[], args := #[.pointer (some ⟨g, 0, none⟩), .pointer (some ⟨g + 1, 0, none⟩), .pointer (some ⟨g + 1 + 1, 0, none⟩)] }] } W := by
  have hres : ∀ (W : World) (A : Option Addr) (n c : Nat) (v2 v3 : Int), Res W g 22 (.slice A n c) (.int .i64 v2) (.int .i64 v3) → (results Try.f20 tm).run Try.prog W = .ok (.tuple #[.slice A n c, .int .i64 v2, .int .i64 v3]) W := by
    intro W A n c v2 v3 h
    have c1 := h.c1
    have c2 := h.c2
    have c3 := h.c3
    simp [results, Try.results20, go_sem, h4, h5, h6, c1, c2, c3]
  refine leaves_cons (f := 33) (args := #[.pointer (some ⟨g, 0, none⟩), .pointer (some ⟨g + 1, 0, none⟩), .pointer (some ⟨g + 1 + 1, 0, none⟩)]) (by simp) (by simp [go_sem]) ?_
  by_cases he : e = 0
  · subst he
    rw [if_pos rfl] at hR
    refine (settle_row_ok _ _ _ .returning _ h.c3).mono ?_
    rintro e u' w'' ⟨rfl, rfl, rfl⟩
    exact ⟨_, hres _ _ _ _ _ _ h, hR⟩
  · rw [if_neg he] at hR
    refine (settle_row_err _ _ _ _ _ e .returning _ h.c1 h.c2 h.c3 h.f1 h.f2 (by simp) (by simpa using he)).mono ?_
    rintro e u' w'' ⟨rfl, rfl, rfl⟩
    exact ⟨_, hres _ _ _ _ _ _ ((h.s1 _).s2 _), hR⟩
/-- GetRow's error, bytes and next. -/
def grE (l : List Int) (p : Int) : Int := if getE l p 2 = 0 then cutE l (p + 2) (getV l p 2) else getE l p 2
def grL (l : List Int) (p : Int) : List Int := if grE l p = 0 then cutL l (p + 2) (getV l p 2) else []
def grN (l : List Int) (p : Int) : Int := if grE l p = 0 then p + 2 + getV l p 2 else 0

theorem getV_2 {l : List Int} (h : Byt l) (p : Int) : getV l p 2 ≤ 65535 := by
  rw [getV]
  split
  · have h1 := num_lt (byt_cut h p 2)
    have h2 := p256_le (cutL_le l p 2 2 (Int.le_refl _))
    rw [p256_2] at h2
    omega
  · decide

set_option maxHeartbeats 400000 in
theorem row_get (A : Option Addr) (c : Nat) (l : List Int) (p : Int) (w : World) (hr : Rd w A c l) :
    Calls Try.prog 20 #[.slice A l.length c, .int .i64 p] w fun e w' => ∃ A' c', e = .returned (.tuple #[.slice A' (grL l p).length c', .int .i64 (grN l p), .int .i64 (grE l p)]) ∧
      w'.ownsRow w.heap.size 5 1 (.slice A' (grL l p).length c') (grL l p).length (cel (grL l p)) ∧ Below w.heap.size w w' := by
  have hres := res_new w 22 (.slice none 0 0) (.int .i64 0) (.int .i64 0)
  have hr2 : Rd (((w.alloc (.cells #[.slice none 0 0] 22)).alloc (.cells #[.int .i64 0] 3)).alloc (.cells #[.int .i64 0] 24)) A c l := ((hr.alloc _).alloc _).alloc _
  have hbel : Below w.heap.size w (((w.alloc (.cells #[.slice none 0 0] 22)).alloc (.cells #[.int .i64 0] 3)).alloc (.cells #[.int .i64 0] 24)) := by go_grown
  have HS := Lib.hid hres
  have HR := Lib.hid hr2
  have HB := Lib.hid hbel
  clear hres hr2 hbel
  go_enter_defers Try.func20, Try.ntmps20
  go_wp2_with fail
  refine (get_any A c l p 2 _ HR.out).mono ?_
  rintro e w3 ⟨rfl, hb3⟩
  have hs3 := HS.out.below hb3
  have hbb : Below w.heap.size w w3 := HB.out.trans (hb3.mono (by simp; omega))
  have f1 := hs3.f1
  have f2 := hs3.f2
  have f3 := hs3.f3
  have c1 := hs3.c1
  have c2 := hs3.c2
  have c3 := hs3.c3
  clear hb3 HS HR HB
  by_cases h0 : getE l p 2 = 0
  · have h0' : (getE l p 2 != 0) = false := by simp [h0]
    have hv : 0 ≤ getV l p 2 := by
      rw [getV, if_pos h0]
      exact num_nonneg (byt_cut hr.byt _ _)
    have hv2 : getV l p 2 ≤ 65535 := getV_2 hr.byt p
    have hn : getN l p 2 = p + 2 := by rw [getN, if_pos h0]
    have hgr : grE l p = cutE l (p + 2) (getV l p 2) := by rw [grE, if_pos h0]
    have H0 := Lib.hid h0
    have HN := Lib.hid hn
    have HG := Lib.hid hgr
    have HS := Lib.hid (hs3.s3 (.int .i64 (getE l p 2)))
    have HB := Lib.hid (hbb.setCell (p := ⟨w.heap.size + 1 + 1, 0, none⟩) (by simp; omega) (.int .i64 (getE l p 2)))
    clear hs3 hbb h0 hn hgr
    go_wp2_with fail
    rw [HN.out]
    refine (cut_any A c l (p + 2) (getV l p 2) _ (hr.keep HB.out) hv).mono ?_
    rintro e w' ⟨A', c', rfl, hr', rfl⟩
    have HK := Lib.hid hr'
    clear hr'
    go_wp2_with fail
    have HS5 := Lib.hid (((HS.out.s1 (.slice A' (cutL l (p + 2) (getV l p 2)).length c')).s2 (.int .i64 (cutN l (p + 2) (getV l p 2)))).s3 (.int .i64 (cutE l (p + 2) (getV l p 2))))
    have HB5 := Lib.hid (((HB.out.setCell (p := ⟨w.heap.size, 0, none⟩) (Nat.le_refl _) (.slice A' (cutL l (p + 2) (getV l p 2)).length c')).setCell (p := ⟨w.heap.size + 1, 0, none⟩) (by simp) (.int .i64 (cutN l (p + 2) (getV l p 2)))).setCell (p := ⟨w.heap.size + 1 + 1, 0, none⟩) (by simp; omega) (.int .i64 (cutE l (p + 2) (getV l p 2))))
    have hle := cutL_le l (p + 2) (getV l p 2) 65535 hv2
    refine (clone_any A' c' _ _ (HK.out _ (hr.keep HB5.out)) (by omega)).mono ?_
    rintro e w6 ⟨A6, c6, rfl, hown6, hb6⟩
    have hs6 := HS5.out.below hb6
    have f1 := hs6.f1
    have c1 := hs6.c1
    have HB6 := Lib.hid (HB5.out.trans (hb6.mono HB5.out.size))
    have HO6 := Lib.hid (own_base hown6 HB5.out.size)
    have HS6 := Lib.hid (hs6.s1 (.slice A6 (cutL l (p + 2) (getV l p 2)).length c6))
    have hne : (Value.slice A6 (cutL l (p + 2) (getV l p 2)).length c6).ownBlock ≠ some w.heap.size := by
      intro he
      have := (hown6.lt _ he).1
      have := HS5.out.lt
      omega
    have HNE := Lib.hid hne
    clear hb6 hown6 hs6 hne
    go_wp2_with fail
    refine row_door _ _ w.heap.size A6 _ c6 _ _ _ rfl rfl rfl HS6.out ?_
    rw [grL, grN, HG.out]
    by_cases h9 : cutE l (p + 2) (getV l p 2) = 0
    · rw [if_pos h9, if_pos h9, if_pos h9, cutN, if_pos h9]
      exact ⟨A6, c6, rfl, ownsRow_setCell_other HO6.out HNE.out _, HB6.out.setCell (Nat.le_refl _) _⟩
    · rw [if_neg h9, if_neg h9, if_neg h9]
      refine ⟨none, 0, rfl, World.ownsRow_nil _ _ _ _, ((HB6.out.setCell ?_ _).setCell ?_ _).setCell ?_ _⟩
      all_goals simp
  · have h0' : (getE l p 2 != 0) = true := by simp [h0]
    have hgr : grE l p = getE l p 2 := by rw [grE, if_neg h0]
    have H0 := Lib.hid h0
    have HG := Lib.hid hgr
    have HS := Lib.hid (hs3.s3 (.int .i64 (getE l p 2)))
    have HB := Lib.hid hbb
    clear hs3 h0 hbb hgr
    go_wp2_with fail
    refine row_door _ _ w.heap.size none 0 0 0 (getE l p 2) _ rfl rfl rfl HS.out ?_
    rw [if_neg H0.out]
    have e1 : grL l p = [] := by rw [grL, HG.out, if_neg H0.out]
    have e2 : grN l p = 0 := by rw [grN, HG.out, if_neg H0.out]
    rw [e1, e2, HG.out]
    refine ⟨none, 0, rfl, World.ownsRow_nil _ _ _ _, ((HB.out.setCell ?_ _).setCell ?_ _).setCell ?_ _⟩
    all_goals (simp; try omega)
end Go.Proofs.Ytingcchamhbgkaa
