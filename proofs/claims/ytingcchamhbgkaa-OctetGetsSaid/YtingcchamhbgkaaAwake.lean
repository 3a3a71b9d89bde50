/-
  That the chapter's examples hold (the statements' 'awake'), and what the statements' 'around' makes; nothing that was there has changed.
-/
import Derived.Test.YtingcchamhbgkaaRow
namespace Go.Proofs.Ytingcchamhbgkaa
open Go.RowKit

/-- 'string(b)', b a slice that reads as l. -/
theorem rd_string {P : Program} {w : World} {A : Option Addr} {c : Nat} {l : List Int} (h : Rd w A c l) (src dst e : TypeId) (hs : P.underlying src = some (.slice e)) (he : P.underlying e = some (.int .u8)) (hd : P.underlying dst = some .string) :
    (convert src dst (.slice A l.length c)).run P w = .ok (.string (strOfNums l)) w := by
  rcases h.2.2.2 with ⟨rfl, rfl⟩ | ⟨ad, rfl, hcell⟩
  · obtain rfl : l = [] := List.eq_nil_of_length_eq_zero (by have := h.le; omega)
    exact run_convert_bytes_nil w src e hs he 0 0 dst hd
  · have hl : (loadCells ad l.length).run P w = .ok (l.map (Value.int .u8)).toArray w := by
      have := run_loadCells_list (P := P) w ad (l.map (Value.int .u8)) (fun j v hj => by
        simp only [List.getElem?_map, Option.map_eq_some_iff] at hj
        obtain ⟨y, hy, rfl⟩ := hj
        exact hcell j y hy)
      simpa using this
    rw [run_convert_bytes_string w src dst e _ l.length c hs he hd, run_bytesToString w _ l.length c l hl, foldl_push_bytes]
    simp [strOfNums, ByteArray.empty, ByteArray.emptyWithCapacity]
    rfl

set_option maxHeartbeats 400000 in
theorem around_any (A1 A2 A3 : Option Addr) (c1 c2 c3 : Nat) (l1 l2 l3 : List Int) (w : World) (h1 : Rd w A1 c1 l1) (h2 : Rd w A2 c2 l2) (h3 : Rd w A3 c3 l3) (hl : l1.length + l2.length + l3.length ≤ 140737488355328) :
    Calls Try.prog 23 #[.slice A1 l1.length c1, .slice A2 l2.length c2, .slice A3 l3.length c3] w fun e w' => ∃ A c, e = .returned (.slice A (l1 ++ (l2 ++ l3)).length c) ∧
      w'.ownsRow w.heap.size 5 1 (.slice A (l1 ++ (l2 ++ l3)).length c) (l1 ++ (l2 ++ l3)).length (cel (l1 ++ (l2 ++ l3))) ∧ Below w.heap.size w w' := by
  obtain ⟨i0, hi, hz0, hz1, hz2⟩ := info_parts Try.info5
  have hown0 : (w.alloc (.cells #[] 5)).ownsRow w.heap.size 5 1 (.slice (some ⟨w.heap.size, 0, none⟩) 0 0) 0 (cel []) := World.ownsRow_lit w #[] 0 (Nat.le_refl _) (Nat.zero_le _) rfl
  have hb0 : Below w.heap.size w (w.alloc (.cells #[] 5)) := by go_grown
  go_enter Try.func23, Try.ntmps23
  go_wp2_with (at_builtin; refine wpList_append_rd _ rfl (.tmp 7) (.tmp 8) 22 rfl w.heap.size 5 i0 Try.underlying22 hi hz0 hz1 hz2 _ 0 [] rfl hown0 A1 l1.length c1 l1 rfl (h1.keep hb0) rfl (by omega) (by simp) ?_)
  intro A4 c4 w4 hown4 _ hb4 _
  have hb4' := hb0.trans hb4
  clear hb4 hown0 hb0
  go_wp2_with (at_builtin; refine wpList_append_rd _ rfl (.tmp 9) (.tmp 10) 22 rfl w.heap.size 5 i0 Try.underlying22 hi hz0 hz1 hz2 _ l1.length l1 rfl hown4 A2 l2.length c2 l2 rfl (h2.keep hb4') rfl (by omega) hb4'.size ?_)
  intro A5 c5 w5 hown5 _ hb5 _
  have hb5' := hb4'.trans hb5
  clear hb5 hown4
  go_wp2_with (at_builtin; refine wpList_append_rd _ rfl (.tmp 11) (.tmp 12) 22 rfl w.heap.size 5 i0 Try.underlying22 hi hz0 hz1 hz2 _ (l1.length + l2.length) (l1 ++ l2) rfl hown5 A3 l3.length c3 l3 rfl (h3.keep hb5') rfl (by omega) hb5'.size ?_)
  intro A6 c6 w6 hown6 _ hb6 _
  go_wp2
  go_ret
  have e : l1.length + l2.length + l3.length = (l1 ++ (l2 ++ l3)).length := by simp [Nat.add_assoc]
  rw [e] at hown6
  exact ⟨A6, c6, by rw [← e]; rfl, hown6, hb5'.trans hb6⟩

theorem around_m (A1 A2 A3 : Option Addr) (m1 m2 m3 c1 c2 c3 : Nat) (l1 l2 l3 : List Int) (w : World) (h1 : Rd w A1 c1 l1) (h2 : Rd w A2 c2 l2) (h3 : Rd w A3 c3 l3) (e1 : l1.length = m1) (e2 : l2.length = m2) (e3 : l3.length = m3) (hl : l1.length + l2.length + l3.length ≤ 140737488355328) :
    Calls Try.prog 23 #[.slice A1 m1 c1, .slice A2 m2 c2, .slice A3 m3 c3] w fun e w' => ∃ A c, e = .returned (.slice A (l1 ++ (l2 ++ l3)).length c) ∧
      w'.ownsRow w.heap.size 5 1 (.slice A (l1 ++ (l2 ++ l3)).length c) (l1 ++ (l2 ++ l3)).length (cel (l1 ++ (l2 ++ l3))) ∧ Below w.heap.size w w' := by
  subst e1 e2 e3
  exact around_any A1 A2 A3 c1 c2 c3 l1 l2 l3 w h1 h2 h3 hl

theorem rd_lit (w : World) (l : List Int) (hb : Byt l) (hl : l.length ≤ maxLen) : Rd (w.alloc (.cells (cel l).toArray 5)) (some ⟨w.heap.size, 0, none⟩) l.length l := by
  have h := World.ownsRow_lit (base := w.heap.size) (e := 5) (size := 1) w (cel l).toArray l.length (Nat.le_refl _) hl (by simp [length_cel])
  exact (Rd.of_own (by simpa using h) hb).1
theorem byt_of {l : List Int} (h : (l.all fun x => decide (0 ≤ x) && decide (x < 256)) = true) : Byt l := by
  intro x hx
  have := List.all_eq_true.1 h x hx
  simpa using this
theorem byt_putL (W n : Int) : Byt (putL W n) := by
  unfold putL
  split
  · exact byt_digs _ _
  · intro x hx; cases hx
theorem byt_rowL {l : List Int} (h : Byt l) : Byt (rowL l) := by
  unfold rowL
  split
  · intro x hx; cases hx
  · exact byt_append (byt_digs _ _) h

/-- An answer's bytes, from what is owned. -/
theorem own_rd {w : World} {A : Option Addr} {base n c e : Nat} {l : List Int} (h : w.ownsRow base e 1 (.slice A n c) n (cel l)) (hb : Byt l) : Rd w A c l := (Rd.of_own h hb).1

set_option maxHeartbeats 1000000 in
theorem awake_any (w : World) : Calls Try.prog 22 #[] w fun e w' => e = .returned (.bool true) ∧ Below w.heap.size w w' := by
  go_enter Try.func22, Try.ntmps22
  go_wp2_with fail
  refine (put_any 2 258 _).mono ?_
  rintro e w1 ⟨A1, c1, rfl, ho1, hb1⟩
  have e1 : putE 2 258 = 0 := by decide
  have e2 : putL 2 258 = [2, 1] := by decide
  rw [e2] at ho1
  rw [e1, e2]
  have HO1 := Lib.hid ho1
  clear ho1 e1 e2
  go_wp2_with fail
  refine (put_any 1 256 _).mono ?_
  rintro e w2 ⟨A2, c2, rfl, _, hb2⟩
  have e1 : putE 1 256 = 11 := by decide
  have e2 : putL 1 256 = [] := by decide
  rw [e1, e2]
  clear e1 e2
  have hb := hb1.trans (hb2.mono hb1.size)
  have HO := Lib.hid (own_below HO1.out hb2 (Nat.le_refl _))
  clear hb1 hb2 HO1
  go_wp2_with fail
  refine (put_any 9 0 _).mono ?_
  rintro e w3 ⟨A3, c3, rfl, _, hb3⟩
  have e1 : putE 9 0 = 2 := by decide
  have e2 : putL 9 0 = [] := by decide
  rw [e1, e2]
  clear e1 e2
  have hb' := hb.trans (hb3.mono hb.size)
  have HO' := Lib.hid (own_below HO.out hb3 (Nat.le_refl _))
  clear hb hb3 HO
  go_wp2_with fail
  have HB := Lib.hid hb'
  have HO := HO'
  clear hb' HO'
  have hr1 : Rd (w3.alloc (.cells #[.int .u8 1, .int .u8 2, .int .u8 3] 5)) (some ⟨w3.heap.size, 0, none⟩) 3 [1, 2, 3] := rd_lit w3 [1, 2, 3] (byt_of rfl) (by decide)
  have hz1 : Below w3.heap.size w3 (w3.alloc (.cells #[.int .u8 1, .int .u8 2, .int .u8 3] 5)) := by go_grown
  refine (get_any _ 3 [1, 2, 3] 1 2 _ hr1).mono ?_
  rintro e w4 ⟨rfl, hbx⟩
  have e1 : getV [1, 2, 3] 1 2 = 770 := by decide
  have e2 : getN [1, 2, 3] 1 2 = 3 := by decide
  have e3 : getE [1, 2, 3] 1 2 = 0 := by decide
  rw [e1, e2, e3]
  have hby := hz1.trans (hbx.mono (by simp))
  have hb := HB.out.trans (hby.mono HB.out.size)
  have ho := own_below HO.out hby (Nat.le_refl _)
  clear e1 e2 e3 hr1 hz1 hbx hby HB HO
  have HB := Lib.hid hb
  have HO := Lib.hid ho
  clear hb ho
  go_wp2_with fail
  have hr2 : Rd (w4.alloc (.cells #[.int .u8 1, .int .u8 2, .int .u8 3] 5)) (some ⟨w4.heap.size, 0, none⟩) 3 [1, 2, 3] := rd_lit w4 [1, 2, 3] (byt_of rfl) (by decide)
  have hz2 : Below w4.heap.size w4 (w4.alloc (.cells #[.int .u8 1, .int .u8 2, .int .u8 3] 5)) := by go_grown
  refine (get_any _ 3 [1, 2, 3] 2 2 _ hr2).mono ?_
  rintro e w5 ⟨rfl, hbx⟩
  have e1 : getV [1, 2, 3] 2 2 = 0 := by decide
  have e2 : getN [1, 2, 3] 2 2 = 0 := by decide
  have e3 : getE [1, 2, 3] 2 2 = 10 := by decide
  rw [e1, e2, e3]
  have hby := hz2.trans (hbx.mono (by simp))
  have hb := HB.out.trans (hby.mono HB.out.size)
  have ho := own_below HO.out hby (Nat.le_refl _)
  clear e1 e2 e3 hr2 hz2 hbx hby HB HO
  have HB := Lib.hid hb
  have HO := Lib.hid ho
  clear hb ho
  go_wp2_with fail
  have hr3 : Rd (w5.alloc (.cells #[.int .u8 1, .int .u8 2, .int .u8 3] 5)) (some ⟨w5.heap.size, 0, none⟩) 3 [1, 2, 3] := rd_lit w5 [1, 2, 3] (byt_of rfl) (by decide)
  have hz3 : Below w5.heap.size w5 (w5.alloc (.cells #[.int .u8 1, .int .u8 2, .int .u8 3] 5)) := by go_grown
  refine (get_any _ 3 [1, 2, 3] 4 2 _ hr3).mono ?_
  rintro e w6 ⟨rfl, hbx⟩
  have e1 : getV [1, 2, 3] 4 2 = 0 := by decide
  have e2 : getN [1, 2, 3] 4 2 = 0 := by decide
  have e3 : getE [1, 2, 3] 4 2 = 2 := by decide
  rw [e1, e2, e3]
  have hby := hz3.trans (hbx.mono (by simp))
  have hb := HB.out.trans (hby.mono HB.out.size)
  have ho := own_below HO.out hby (Nat.le_refl _)
  clear e1 e2 e3 hr3 hz3 hbx hby HB HO
  have HB := Lib.hid hb
  have HO := Lib.hid ho
  clear hb ho
  go_wp2_with fail
  have hr4 : Rd (w6.alloc (.cells #[.int .u8 7, .int .u8 8] 5)) (some ⟨w6.heap.size, 0, none⟩) 2 [7, 8] := rd_lit w6 [7, 8] (byt_of rfl) (by decide)
  have hz4 : Below w6.heap.size w6 (w6.alloc (.cells #[.int .u8 7, .int .u8 8] 5)) := by go_grown
  refine (row_any _ 2 [7, 8] _ hr4).mono ?_
  rintro e w7 ⟨A7, c7, rfl, ho7, hbx⟩
  have e1 : rowE [7, 8] = 0 := by decide
  have e2 : rowL [7, 8] = [2, 0, 7, 8] := by decide
  rw [e2] at ho7
  rw [e1, e2]
  have hby := hz4.trans (hbx.mono (by simp))
  have hb := HB.out.trans (hby.mono HB.out.size)
  have ho := own_below HO.out hby (Nat.le_refl _)
  have HO7 := Lib.hid ho7
  clear e1 e2 hr4 hz4 hbx hby HB HO ho7
  have HB := Lib.hid hb
  have HO := Lib.hid ho
  clear hb ho
  have hcv : (convert 22 9 (.slice A1 2 c1)).run Try.prog w7 = .ok (.string ⟨#[2, 1]⟩) w7 := rd_string (P := Try.prog) (own_rd HO.out (byt_of rfl)) 22 9 5 Try.underlying22 Try.underlying5 Try.underlying9
  go_wp2_with fail
  refine (signed_any (-2) _).mono ?_
  rintro e w8 ⟨rfl, ho8, hb8⟩
  have e2 : digs (-2) 8 = [254, 255, 255, 255, 255, 255, 255, 255] := by decide
  rw [e2] at ho8
  have hcv8 : (convert 22 9 (.slice (some ⟨w7.heap.size, 0, none⟩) 8 8)).run Try.prog w8 = .ok (.string ⟨#[254, 255, 255, 255, 255, 255, 255, 255]⟩) w8 := rd_string (P := Try.prog) (own_rd ho8 (byt_of rfl)) 22 9 5 Try.underlying22 Try.underlying5 Try.underlying9
  have ho9 := own_below HO7.out hb8 (Nat.le_refl _)
  have hcv9 : (convert 22 9 (.slice A7 4 c7)).run Try.prog w8 = .ok (.string ⟨#[2, 0, 7, 8]⟩) w8 := rd_string (P := Try.prog) (own_rd ho9 (byt_of rfl)) 22 9 5 Try.underlying22 Try.underlying5 Try.underlying9
  have hb := HB.out.trans (hb8.mono HB.out.size)
  have HB := Lib.hid hb
  clear hb hb8 ho8 ho9 e2 hcv
  go_wp2_with fail
  go_ret
  exact ⟨rfl, HB.out⟩
end Go.Proofs.Ytingcchamhbgkaa
