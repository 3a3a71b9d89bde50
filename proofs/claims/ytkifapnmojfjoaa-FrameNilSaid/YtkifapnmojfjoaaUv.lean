/-
  Layer 16: the program's frame answers as the laws ask.
-/
import Derived.Test.YtkifapnmojfjoaaUr
import Derived.Test.YtkifapnmojfjoaaUt
namespace Go.Proofs.Ytkifapnmojfjoaa
open Go.RowKit Go.Maps
set_option linter.unusedVariables false

def kf16 : KF16 where
  P := Pf16
  fr := fun _ _ _ _ _ _ h hf hx => h.fr hf hx
  lt := fun _ _ _ _ h => by obtain ⟨_, _, _, _, _, _, _, _, _, h⟩ := h; exact h
  new := fun A1 A2 A3 c1 c2 c3 n1 n2 n3 a b v w ha hb hv h1 h2 h3 m1 m2 m3 => pnew_v A1 A2 A3 c1 c2 c3 n1 n2 n3 a b v w ha hb hv h1 h2 h3 m1 m2 m3
  get := pget_v
  set := pset_v
  push := ppush_v
  pop := fun X B f k w h _ _ => ppop_v X B f k w h
  top := ptop_v
  size := psize_v
  place := pplace_v
  go := pgo_v
  begin_ := fun X B f x n w h hq hx h1 h2 => (pbegin_v X B f x n w h (by omega) hx ⟨h1, h2⟩).mono fun e w' ⟨h3, h4, h5⟩ => ⟨h3, X, h4, h5, fun _ => .inl⟩
  again := pagain_v
end Go.Proofs.Ytkifapnmojfjoaa
