/-
  Num, Mem, Kit, Split, Put, Cut, Join, Settle, Get, Gets: in one text.
-/
import Derived.WalkKit
import Derived.Lib.Hide
import Derived.Handy
import Derived.Laws.AppendOwnNone
import Derived.Maps.AppendAt
import Derived.Test.YtmgppdjbmhjmbaaChecked
import Derived.Deep.QuietTactic
import Derived.BigQuiet
import Derived.Deep.DeepCutAuto
import Derived.Deep.RegionHeld3
import Derived.WalkSpells
namespace Go.Proofs.Ytmgppdjbmhjmbaa
open Go.RowKit

/-- The w low bytes of n, least first. -/
def digs (n : Int) : Nat → List Int
  | 0 => []
  | w + 1 => n % 256 :: digs (n / 256) w
/-- What bytes denote, least first. -/
def num : List Int → Int
  | [] => 0
  | b :: l => b + 256 * num l
/-- Each is a byte. -/
def Byt (l : List Int) : Prop := ∀ x ∈ l, 0 ≤ x ∧ x < 256
theorem byt_drop {l : List Int} (h : Byt l) (k : Nat) : Byt (l.drop k) := fun x hx => h x (List.mem_of_mem_drop hx)
theorem byt_take {l : List Int} (h : Byt l) (k : Nat) : Byt (l.take k) := fun x hx => h x (List.mem_of_mem_take hx)
end Go.Proofs.Ytmgppdjbmhjmbaa
namespace Go.Proofs.Ytmgppdjbmhjmbaa
open Go.RowKit

/-- The slice at A, of capacity c, reads as the bytes l. -/
def Rd (w : World) (A : Option Addr) (c : Nat) (l : List Int) : Prop :=
  Byt l ∧ l.length ≤ c ∧ c ≤ maxLen ∧ ((A = none ∧ c = 0) ∨ ∃ ad : Addr, A = some ad ∧ ∀ i x, l[i]? = some x → w.cell? (ad.add i) = some (.int .u8 x))

/-- The cells of bytes. -/
def cel (l : List Int) : List Value := l.map (Value.int .u8)
theorem length_cel (l : List Int) : (cel l).length = l.length := by simp [cel]
theorem cel_append (l m : List Int) : cel (l ++ m) = cel l ++ cel m := by simp [cel]
theorem cel_one (l : List Int) : ∀ u ∈ cel l, u.oneCell' = true := ints_oneCell _ _

section
variable {w w' : World} {A : Option Addr} {c : Nat} {l : List Int}
theorem Rd.le (h : Rd w A c l) : l.length ≤ c := h.2.1
theorem Rd.cap (h : Rd w A c l) : c ≤ 9223372036854775807 := h.2.2.1
theorem Rd.len (h : Rd w A c l) : l.length ≤ 9223372036854775807 := Nat.le_trans h.le h.cap
theorem Rd.at_ (h : Rd w A c l) {i : Nat} (hi : i < l.length) : ∃ ad : Addr, A = some ad ∧ w.cell? (ad.add i) = some (.int .u8 (l[i]?.getD 0)) := by
  rcases h.2.2.2 with ⟨_, hc⟩ | ⟨ad, ha, hc⟩
  · have := h.le; omega
  · exact ⟨ad, ha, hc i _ (by rw [List.getElem?_eq_getElem hi]; rfl)⟩
theorem Rd.byte (h : Rd w A c l) (i : Nat) : 0 ≤ l[i]?.getD 0 ∧ l[i]?.getD 0 < 256 := by
  by_cases hi : i < l.length
  · rw [List.getElem?_eq_getElem hi]; exact h.1 _ (List.getElem_mem hi)
  · rw [List.getElem?_eq_none (by omega)]; exact ⟨by decide, by decide⟩
theorem Rd.none_ (w : World) : Rd w none 0 [] := ⟨fun x hx => (by cases hx), Nat.le_refl _, Nat.zero_le _, .inl ⟨rfl, rfl⟩⟩
theorem cell_lt {p : Addr} {v : Value} (h : w.cell? p = some v) : p.block < w.heap.size := by
  rcases Nat.lt_or_ge p.block w.heap.size with hlt | hge
  · exact hlt
  · simp [World.cell?, Array.getElem?_eq_none hge] at h
theorem Rd.keep (h : Rd w A c l) (hb : Below w.heap.size w w') : Rd w' A c l := by
  refine ⟨h.1, h.2.1, h.2.2.1, ?_⟩
  rcases h.2.2.2 with hn | ⟨ad, ha, hc⟩
  · exact .inl hn
  · exact .inr ⟨ad, ha, fun i x hx => (hb.cell (cell_lt (hc i x hx))).trans (hc i x hx)⟩
theorem Rd.grown (h : Rd w A c l) {row : Option Nat} (hg : w.grownBy w' row) (hr : ∀ ad, A = some ad → 0 < l.length → some ad.block ≠ row) : Rd w' A c l := by
  refine ⟨h.1, h.2.1, h.2.2.1, ?_⟩
  rcases h.2.2.2 with hn | ⟨ad, ha, hc⟩
  · exact .inl hn
  · refine .inr ⟨ad, ha, fun i x hx => hg.cell (hc i x hx) ?_⟩
    have hb : (ad.add i).block = ad.block := by unfold Addr.add; split <;> rfl
    rw [hb]
    exact hr ad ha (by have := (List.getElem?_eq_some_iff.1 hx).1; omega)
theorem Rd.drew (h : Rd w A c l) : Rd w.drew A c l := h
theorem Rd.alloc (h : Rd w A c l) (o : Obj) : Rd (w.alloc o) A c l := h.keep ((Below.refl _ _).alloc (Nat.le_refl _) _)
theorem add_add (a : Addr) (i j : Nat) : (a.add i).add j = a.add (i + j) := by
  unfold Addr.add
  by_cases hi : i = 0 <;> by_cases hj : j = 0 <;> simp [hi, hj, Nat.add_assoc]
/-- A part of it, cut out by 'b[lo:hi]'. -/
theorem Rd.sub (h : Rd w A c l) (lo hi : Nat) (h1 : lo ≤ hi) (h2 : hi ≤ l.length) : Rd w (if c = lo then A else A.map (·.add lo)) (c - lo) ((l.drop lo).take (hi - lo)) := by
  have hc := h.le
  refine ⟨byt_take (byt_drop h.1 _) _, by simp; omega, Nat.le_trans (Nat.sub_le _ _) h.2.2.1, ?_⟩
  rcases h.2.2.2 with ⟨rfl, rfl⟩ | ⟨ad, rfl, hx⟩
  · exact .inl ⟨by simp, by simp⟩
  · by_cases e : c = lo
    · rw [if_pos e]
      refine .inr ⟨ad, rfl, fun i x hi' => ?_⟩
      have := (List.getElem?_eq_some_iff.1 hi').1
      simp at this
      omega
    · rw [if_neg e]
      refine .inr ⟨ad.add lo, rfl, fun i x hi' => ?_⟩
      rw [add_add]
      rw [List.getElem?_take] at hi'
      split at hi'
      · exact hx _ x (by rw [← hi', List.getElem?_drop])
      · cases hi'
theorem Rd.of_own {base e : Nat} {n : Nat} (h : w.ownsRow base e 1 (.slice A n c) n (cel l)) (hb : Byt l) : Rd w A c l ∧ n = l.length := by
  have hn : n = l.length := by have := h.1; rw [length_cel] at this; omega
  refine ⟨⟨hb, ?_⟩, hn⟩
  have hcell := fun g => h.cells (g := g)
  rcases h.2 with ⟨hv, h0⟩ | ⟨g, cap, cur, hv, _, _, hcap, hm, _⟩
  · injection hv with e1 e2 e3
    exact ⟨by omega, by omega, .inl ⟨e1, e3⟩⟩
  · injection hv with e1 e2 e3
    subst e1 e3
    refine ⟨by omega, hm, .inr ⟨_, rfl, fun i x hx => hcell g rfl i _ (by simp [cel, hx])⟩⟩
end

/-- What the call owns is a slice. -/
theorem own_form {w : World} {base e size n : Nat} {v : Value} {xs : List Value} (h : w.ownsRow base e size v n xs) : ∃ A c, v = .slice A n c := by
  rcases h.2 with ⟨hv, h0⟩ | ⟨g, cap, cur, hv, _⟩
  · exact ⟨none, 0, by rw [hv, h0]⟩
  · exact ⟨_, _, hv⟩
theorem own_base {w : World} {base base' e size n : Nat} {v : Value} {xs : List Value} (h : w.ownsRow base e size v n xs) (hb : base' ≤ base) : w.ownsRow base' e size v n xs := by
  refine ⟨h.1, ?_⟩
  rcases h.2 with hv | ⟨g, cap, cur, hv, hg, r⟩
  · exact .inl hv
  · exact .inr ⟨g, cap, cur, hv, by omega, r⟩
theorem own_below {w w' : World} {B base e size n : Nat} {v : Value} {xs : List Value} (h : w.ownsRow base e size v n xs) (hb : Below w.heap.size w w') (hB : B ≤ base) : w'.ownsRow B e size v n xs := by
  refine ⟨h.1, ?_⟩
  rcases h.2 with hv | ⟨g, cap, cur, hv, hg, hh, r⟩
  · exact .inl hv
  · exact .inr ⟨g, cap, cur, hv, by omega, (hb.block g (Array.getElem?_eq_some_iff.1 hh).1).trans hh, r⟩

/-- append of a slice that reads as l, to a slice of the call's own. -/
theorem wpList_append_rd {P : Program} (w : World) {ops : Array Oper} {rest : List Oper} {o : Oper} {a : Act} {Q : Exit → Act → World → Prop} (hgd : o.guard = none) (s x : Operand) (t : TypeId)
    (ho : o.op = .call { callee := .builtin .append, args := #[s, x], argTypes := #[t, t] })
    (base : Nat) (e : TypeId) (i : TypeInfo) (ht : P.underlying t = some (.slice e)) (hi : P.info? e = some i) (hz : i.zero = some (.int .u8 0)) (hsize : i.size = 1) (hby : i.bytes = 1)
    (v : Value) (n : Nat) (k : List Int) (hs : a.eval s = v) (hown : w.ownsRow base e 1 v n (cel k))
    (A : Option Addr) (m c : Nat) (l : List Int) (hx : a.eval x = .slice A m c) (hr : Rd w A c l) (hm : m = l.length) (hbytes : n + m ≤ 140737488355328) (hbase : base ≤ w.heap.size)
    (h : ∀ A' c' w', w'.ownsRow base e 1 (.slice A' (n + m) c') (n + m) (cel (k ++ l)) → w.grownBy w' v.ownBlock → Below base w w' →
      ((Value.slice A' (n + m) c').ownBlock = v.ownBlock ∨ (Value.slice A' (n + m) c').ownBlock = some w.heap.size) → wpList P ops Q rest (a.put o.dst (.slice A' (n + m) c')) w') : wpList P ops Q (o :: rest) a w := by
  have hbel : ∀ {w'}, w.grownBy w' v.ownBlock → Below base w w' := fun hg => (Below.refl _ _).grown hg hbase fun g hg' => (hown.lt g hg').1
  rcases hr.2.2.2 with ⟨rfl, rfl⟩ | ⟨ad, rfl, hcell⟩
  · have h0 : l = [] := List.eq_nil_of_length_eq_zero (by have := hr.le; omega)
    subst h0
    obtain rfl : m = 0 := hm
    refine wpList_append_own_none hgd s x t ho base e i 1 ht hi v n (cel k) hs hown hx ?_
    obtain ⟨A', c', rfl⟩ := own_form hown
    have := h A' c' w (by simpa using hown) (World.grownBy.refl w _) (hbel (World.grownBy.refl w _)) (.inl rfl)
    simpa using this
  · refine wpList_append_own_at w hgd s x t ho base e i (.int .u8 0) 1 1 ht hi hz hsize hby rfl (by decide) v n (cel k) hs hown ad m c (cel l) hx (by rw [length_cel]; omega)
      (fun j u hj => by
        simp only [cel, List.getElem?_map, Option.map_eq_some_iff] at hj
        obtain ⟨y, hy, rfl⟩ := hj
        exact hcell j y hy) (cel_one l) (by unfold maxLen; omega) (by omega) hbase ?_
    intro v' w' hown' hg _ hb
    obtain ⟨A', c', rfl⟩ := own_form hown'
    exact h A' c' w' (by rw [cel_append]; exact hown') hg (hbel hg) hb
end Go.Proofs.Ytmgppdjbmhjmbaa
namespace Go.Proofs.Ytmgppdjbmhjmbaa
open Go.RowKit

theorem Try.info5 : (Try.prog.info? 5).map (fun i => (i.zero, i.size, i.bytes)) = some (some (.int .u8 0), 1, 1) := by kernel_rfl
theorem rd_lit (w : World) (l : List Int) (hb : Byt l) (hl : l.length ≤ maxLen) : Rd (w.alloc (.cells (cel l).toArray 5)) (some ⟨w.heap.size, 0, none⟩) l.length l := by
  have h := World.ownsRow_lit (base := w.heap.size) (e := 5) (size := 1) w (cel l).toArray l.length (Nat.le_refl _) hl (by simp [length_cel])
  exact (Rd.of_own (by simpa using h) hb).1
/-- An answer's bytes, from what is owned. -/
theorem own_rd {w : World} {A : Option Addr} {base n c e : Nat} {l : List Int} (h : w.ownsRow base e 1 (.slice A n c) n (cel l)) (hb : Byt l) : Rd w A c l := (Rd.of_own h hb).1
theorem Rd.drewN {w : World} {A : Option Addr} {c : Nat} {l : List Int} (h : Rd w A c l) (q : Nat) : Rd (w.drewN q) A c l := h
theorem below_draws {B : Nat} {a w : World} (h : Below B a w) (q : Nat) : Below B a (w.drewN q) := ⟨h.os, h.tape, h.output, h.size, h.block⟩
theorem Rd.pre {w : World} {A : Option Addr} {c : Nat} {l : List Int} (h : Rd w A c l) (n : Nat) : Rd w A c (l.take n) := by
  refine ⟨byt_take h.1 _, by have := h.2.1; simp; omega, h.2.2.1, ?_⟩
  rcases h.2.2.2 with hn | ⟨ad, ha, hc⟩
  · exact .inl hn
  · refine .inr ⟨ad, ha, fun i x hx => ?_⟩
    rw [List.getElem?_take] at hx
    split at hx
    · exact hc i x hx
    · cases hx
theorem own_some {w : World} {base e n c : Nat} {A : Option Addr} {xs : List Value} (h : w.ownsRow base e 1 (.slice A n c) n xs) (hn : 0 < n) : ∃ g, A = some ⟨g, 0, none⟩ ∧ base ≤ g := by
  rcases h.2 with ⟨_, h0⟩ | ⟨g, cap, cur, hv, hg, _⟩
  · omega
  · injection hv with e1 e2 e3
    exact ⟨g, e1, hg⟩
theorem add_succ (ad : Addr) (m : Nat) : ad.add (m + 1) = ⟨ad.block, ad.off + (m + 1), none⟩ := by unfold Addr.add; rw [if_neg (by omega)]
theorem rd_one (w : World) (x : Int) (h : 0 ≤ x ∧ x < 256) : Rd (w.alloc (.cells #[.int .u8 x] 5)) (some ⟨w.heap.size, 0, none⟩) 1 [x] :=
  rd_lit w [x] (fun y hy => by simp at hy; subst hy; exact h) (by unfold maxLen; simp)
theorem wpAnyH_swap {P : Program} {md : Region.Mode} {ops : Array Oper} {Q : Exit → Act → World → Prop} {S S' : World → Prop} (h : ∀ w, S' w → S w) :
    ∀ (fuel : Nat) (listed : Array Bool) (a : Act) (w : World), wpAnyH P md ops Q S' fuel listed a w → wpAnyH P md ops Q S fuel listed a w
  | 0, _, _, _, hh => hh
  | fuel + 1, _, _, _, hh => ⟨hh.1, fun i hi => wpOp_mono (fun _ _ h2 => ⟨h _ h2.1, wpAnyH_swap h fuel _ _ _ h2.2⟩) (hh.2 i hi)⟩
end Go.Proofs.Ytmgppdjbmhjmbaa
namespace Go.Proofs.Ytmgppdjbmhjmbaa
open Go.RowKit

end Go.Proofs.Ytmgppdjbmhjmbaa
namespace Go.Proofs.Ytmgppdjbmhjmbaa
open Go.RowKit

end Go.Proofs.Ytmgppdjbmhjmbaa
namespace Go.Proofs.Ytmgppdjbmhjmbaa
open Go.RowKit

end Go.Proofs.Ytmgppdjbmhjmbaa
namespace Go.Proofs.Ytmgppdjbmhjmbaa
open Go.RowKit

end Go.Proofs.Ytmgppdjbmhjmbaa
namespace Go.Proofs.Ytmgppdjbmhjmbaa
open Go.RowKit

end Go.Proofs.Ytmgppdjbmhjmbaa
namespace Go.Proofs.Ytmgppdjbmhjmbaa
open Go.RowKit

end Go.Proofs.Ytmgppdjbmhjmbaa
namespace Go.Proofs.Ytmgppdjbmhjmbaa
open Go.RowKit

end Go.Proofs.Ytmgppdjbmhjmbaa
