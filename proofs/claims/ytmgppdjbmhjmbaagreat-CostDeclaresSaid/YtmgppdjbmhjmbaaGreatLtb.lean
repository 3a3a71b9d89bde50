/-
  Tr, Th, Tc: in one text.
-/
import Derived.Test.YtmgppdjbmhjmbaaGreatLu
import Derived.Test.YtmgppdjbmhjmbaaGreatLm
import Derived.Test.YtmgppdjbmhjmbaaGreatLta
import Derived.Test.YtmgppdjbmhjmbaaGreatLt
namespace Go.Proofs.YtmgppdjbmhjmbaaGreat
open Go.RowKit
set_option maxRecDepth 100000
set_option linter.unusedSimpArgs false
set_option linter.unusedVariables false

end Go.Proofs.YtmgppdjbmhjmbaaGreat
namespace Go.Proofs.YtmgppdjbmhjmbaaGreat
open Go.RowKit
set_option maxRecDepth 100000
set_option linter.unusedSimpArgs false
set_option linter.unusedVariables false

/-- The law's one method, its module. -/
def o10 : Mh := ⟨[1], [], 1, false, 0, 0, 0⟩
def m10 (L : List Ins) : Md := ⟨[], [(1, 5, 0)], [(o10, L)], -1⟩
def x10 (g : Nat) (A : Option Addr) (c k : Nat) : Mc := ⟨some ⟨g, 0, none⟩, 1, none, 0, A, k, c⟩
def y10 (p s g : Nat) (A : Option Addr) (c : Nat) (L : List Ins) : Ma := ⟨none, 0, some ⟨p, 0, none⟩, 1, some ⟨s, 0, none⟩, 1, [⟨x10 g A c L.length, o10, L⟩]⟩
def P10 (B : Nat) (w : World) (p : Nat) : Prop := w.ownsRow B 57 3 (.slice (some ⟨p, 0, none⟩) 1 1) 1 (cev [(1, 5, 0)])
def G10 (B : Nat) (w : World) (g : Nat) : Prop := w.ownsRow B 5 1 (.slice (some ⟨g, 0, none⟩) 1 1) 1 (cel [1])
def C10 (B : Nat) (w : World) (A : Option Addr) (c : Nat) (L : List Ins) : Prop := w.ownsRow B 67 3 (.slice A L.length c) L.length (cei L)
def S10 (B : Nat) (w : World) (s g : Nat) (A : Option Addr) (c : Nat) (L : List Ins) : Prop := w.ownsRow B 39 8 (.slice (some ⟨s, 0, none⟩) 1 1) 1 (cem [⟨x10 g A c L.length, o10, L⟩])
section
variable {B : Nat} {w w' : World} {p s g : Nat} {A : Option Addr} {c : Nat} {L : List Ins}
theorem P10.keep (h : P10 B w p) (hb : Below w.heap.size w w') : P10 B w' p := own_below h hb (Nat.le_refl _)
theorem G10.keep (h : G10 B w g) (hb : Below w.heap.size w w') : G10 B w' g := own_below h hb (Nat.le_refl _)
theorem C10.keep (h : C10 B w A c L) (hb : Below w.heap.size w w') : C10 B w' A c L := own_below h hb (Nat.le_refl _)
theorem S10.keep (h : S10 B w s g A c L) (hb : Below w.heap.size w w') : S10 B w' s g A c L := own_below h hb (Nat.le_refl _)
end
/-- The rows read as the module. -/
theorem hq10 {B p s g : Nat} {w : World} {A : Option Addr} {c : Nat} {L : List Ins} (h1 : P10 B w p) (h2 : S10 B w s g A c L) (h3 : G10 B w g) (h4 : C10 B w A c L) (hok : ∀ x ∈ L, InOk x) : Hq w (y10 p s g A c L) (m10 L) := by
  refine ⟨Rv.none_ w, (Rv.of_own h1 (fun x hx => by rw [List.mem_singleton.1 hx]; unfold VlOk; decide)).1, (Rm.of_own h2 (fun z hz => ?_)).1, rfl, by unfold m10; dsimp only; decide⟩
  rw [List.mem_singleton.1 hz]
  exact ⟨⟨own_rd h3 (fun x hx => by rw [List.mem_singleton.1 hx]; decide), Rd.none_ w, by unfold Mh.nums o10; dsimp only; decide⟩, (Ri.of_own h4 hok).1, rfl⟩
def I10 (w0 : World) (A : Option Addr) (c : Nat) (L : List Ins) (w : World) : Prop := Below w0.heap.size w0 w ∧ Bk w w0.heap.size 25 4 ∧ Mf w w0.heap.size ∧ Db w w0.heap.size Ma.zero Md.zero ∧ Rn w A c (two9 L)
theorem I10.call {w0 w w' : World} {A : Option Addr} {c : Nat} {L : List Ins} (h : I10 w0 A c L w) (hb : Below w.heap.size w w') : I10 w0 A c L w' := ⟨below_on h.1 hb, h.2.1.keep hb, h.2.2.1.keep hb, h.2.2.2.1.keep hb, h.2.2.2.2.keep hb⟩
theorem put4_own {w : World} {B base e k n : Nat} {v : Value} {xs : List Value} (h : w.ownsRow base e k v n xs) (hB : Bk w B 25 4) (hne : e ≠ 25) (y : Ma) (d : Md) : (put4 w B y d).ownsRow base e k v n xs :=
  own_tag (own_tag (own_tag (own_tag h hB hne _ _) (hB.set _ _ _) hne _ _) ((hB.set _ _ _).set _ _ _) hne _ _) (((hB.set _ _ _).set _ _ _).set _ _ _) hne _ _
end Go.Proofs.YtmgppdjbmhjmbaaGreat
namespace Go.Proofs.YtmgppdjbmhjmbaaGreat
open Go.RowKit
set_option maxRecDepth 100000
set_option linter.unusedSimpArgs false
set_option linter.unusedVariables false

/-- Rows of the caller's own: each row's kinds in a block of its own, that may be written over. -/
def Ro10 (lo : Nat) (w : World) (A : Option Addr) (c : Nat) (Z : List Rx) : Prop := Rw w A c Z ∧ (∀ z ∈ Z, Rs w lo w.heap.size 5 1 z.A z.K.length) ∧
  ∀ (i j : Nat) (x z : Rx) (a b : Addr), i ≠ j → Z[i]? = some x → Z[j]? = some z → 0 < x.K.length → 0 < z.K.length → x.A = some a → z.A = some b → a.block ≠ b.block
def KTRows (F : Fct) : Prop := ∀ (y : Ma) (d : Md) (k : Int) (w : World), F.p w → Hq w y d → qG d = false → Calls Tryz.prog 18 #[dv y d, .int .i64 k] w fun e w' => ∃ A c Z, e = .returned (.tuple #[.slice A Z.length c, .int .i64 (rw10s d k).2]) ∧
  Z.map rz = (rw10s d k).1 ∧ Rw w' A c Z ∧ Below w.heap.size w w'
def KTHeight (F : Fct) : Prop := ∀ (A : Option Addr) (c n : Nat) (Z : List Rx) (w : World), F.p w → Rw w A c Z → Z.length = n → n ≤ 300 → (∀ z ∈ Z, z.K.length ≤ 1000000) → Calls Tryz.prog 54 #[.slice A n c] w fun e w' => e = .returned (.int .i64 (hg10 (Z.map rz))) ∧ Below w.heap.size w w'
def ex10 : List Ins := [(2, 0, 0), (1, 0, 0), (9, 0, 0), (31, 0, 0)]
theorem four10 {Z : List Rx} {a b c d : Rz} (h : Z.map rz = [a, b, c, d]) : ∃ x0 x1 x2 x3, Z = [x0, x1, x2, x3] ∧ rz x0 = a ∧ rz x1 = b ∧ rz x2 = c ∧ rz x3 = d := by
  match Z, h with
  | [x0, x1, x2, x3], h =>
    simp only [List.map_cons, List.map_nil, List.cons.injEq, and_true] at h
    exact ⟨x0, x1, x2, x3, rfl, h.1, h.2.1, h.2.2.1, h.2.2.2⟩
end Go.Proofs.YtmgppdjbmhjmbaaGreat
