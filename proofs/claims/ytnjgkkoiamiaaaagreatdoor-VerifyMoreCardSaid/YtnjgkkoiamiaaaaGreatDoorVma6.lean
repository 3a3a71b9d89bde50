import Derived.Test.YtnjgkkoiamiaaaaGreatDoorVma1
import Derived.Test.YtnjgkkoiamiaaaaGreatDoorVma4
set_option maxRecDepth 100000
set_option maxHeartbeats 16000000
set_option linter.unusedSimpArgs false
set_option linter.unusedVariables false
namespace Go.Proofs.YtnjgkkoiamiaaaaGreatDoor
open Go.RowKit
def tkL (n:Int):List Int:=
 if n=24 then [3,1,1] else if n=23 then [3,1] else if n=25 then [3] else if 9≤n∧n≤16 then [1,1] else if n=22∨n=27 then [1] else if n=19∨n=20 then [2,2] else if n=17∨n=18∨n=21 then [2] else if n=6 then [0] else []
def gvL (n:Int):List Int:=
 if (9≤n∧n≤15)∨n=17∨n=18∨n=23∨n=25 then [1] else if n=16∨n=19∨n=20∨n=21 then [2] else if n=22 then [3] else []
def fxB (n:Int):Bool:=decide (n=0∨n=6∨(9≤n∧n≤29)∨n=32)
theorem own_nil (w:World) (base:Nat):w.ownsRow base 5 1 (.slice none 0 0) 0 (cel []):=World.ownsRow_nil w base 5 1
theorem own_lit (w:World) (x:Int):(w.alloc (.cells #[.int .u8 x] 5)).ownsRow w.heap.size 5 1 (.slice (some ⟨w.heap.size,0,none⟩) 1 1) 1 (cel [x]):=by
 have:=World.ownsRow_lit (base:=w.heap.size) (e:=5) (size:=1) w (cel [x]).toArray 1 (Nat.le_refl _) (by unfold maxLen;omega) (by simp [length_cel]);simpa [cel] using this
theorem gives_any (n : Int) (w : World) : Calls Tryz.prog 249 #[.int .u8 n] w fun e w' => ∃ A c, e = .returned (.slice A (gvL n).length c) ∧ w'.ownsRow w.heap.size 5 1 (.slice A (gvL n).length c) (gvL n).length (cel (gvL n)) ∧ Below w.heap.size w w' := by
  have O1 := Lib.hid (own_lit w 1)
  have O2 := Lib.hid (own_lit w 2)
  have O3 := Lib.hid (own_lit w 3)
  have O0 := Lib.hid (own_nil w w.heap.size)
  go_enter Tryz.func249, Tryz.ntmps249
  go_wp2_with fail
  all_goals go_ret
  all_goals first
    | (have hg : gvL n = [1] := by simp_all [gvL]
       rw [hg]; exact ⟨_, _, rfl, O1.out, new1⟩)
    | (have hg : gvL n = [2] := by simp_all [gvL]
       rw [hg]; exact ⟨_, _, rfl, O2.out, new1⟩)
    | (have hg : gvL n = [3] := by simp_all [gvL]
       rw [hg]; exact ⟨_, _, rfl, O3.out, new1⟩)
    | (have hg : gvL n = [] := by simp_all [gvL]; omega
       rw [hg]; exact ⟨_, _, rfl, O0.out, Below.refl _ _⟩)
theorem rev_0 (A:Option Addr) (c:Nat) (w:World):Calls Tryz.prog 257 #[.slice A 0 c] w fun e w'=>e=.returned (.tuple #[])∧w=w':=by
 go_enter Tryz.func257,Tryz.ntmps257;go_wp2_with fail;go_loop [2,3] (fun i j=>i=.int .i64 0∧j=.int .i64 (-1)) (fun _ _=>0)
 case atStart=>exact ⟨rfl,rfl⟩
 case round =>
  obtain ⟨rfl,rfl⟩:=hrel;go_wp2_with fail;go_end0;exact ⟨rfl,rfl⟩
theorem rev_1 (A:Option Addr) (c:Nat) (w:World):Calls Tryz.prog 257 #[.slice A 1 c] w fun e w'=>e=.returned (.tuple #[])∧w=w':=by
 go_enter Tryz.func257,Tryz.ntmps257;go_wp2_with fail;go_loop [2,3] (fun i j=>i=.int .i64 0∧j=.int .i64 0) (fun _ _=>0)
 case atStart=>exact ⟨rfl,rfl⟩
 case round =>
  obtain ⟨rfl,rfl⟩:=hrel;go_wp2_with fail;go_end0;exact ⟨rfl,rfl⟩
theorem rev_2 (A:Option Addr) (c:Nat) (x y:Int) (base:Nat) (w:World) (ho:w.ownsRow base 5 1 (.slice A 2 c) 2 (cel [x,y])) :
  Calls Tryz.prog 257 #[.slice A 2 c] w fun e w'=>e=.returned (.tuple #[])∧w'.ownsRow base 5 1 (.slice A 2 c) 2 (cel [y,x])∧Below base w w':=by
 obtain ⟨g,rfl,hg⟩:=own_some ho (by omega)
 have c0:w.cell? ⟨g,0,none⟩=some (.int .u8 x):=ho.cellAt 0 (by omega)
 have c1:w.cell? ⟨g,1,none⟩=some (.int .u8 y):=ho.cellAt 1 (by omega)
 have f0:=ho.frozenAt 0
 have f1:=ho.frozenAt 1
 have hs:((w.setCell ⟨g,0,none⟩ (.int .u8 y)).setCell ⟨g,1,none⟩ (.int .u8 x)).ownsRow base 5 1 (.slice (some ⟨g,0,none⟩) 2 c) 2 (cel [y,x]):=((ho.stored 0 (.int .u8 y)).1.stored 1 (.int .u8 x)).1
 have HS:=zhy hs
 clear hs ho
 go_enter Tryz.func257,Tryz.ntmps257
 go_wp2_with fail
 go_loopw [2,3] (fun i j wr=>(i=.int .i64 0∧j=.int .i64 1∧wr=w)∨(i=.int .i64 1∧j=.int .i64 0∧Hid (wr.ownsRow base 5 1 (.slice (some ⟨g,0,none⟩) 2 c) 2 (cel [y,x])∧Below base w wr))) (fun i _ _=>(2-intOf i).toNat)
 case atStart=>exact .inl ⟨rfl,rfl,rfl⟩
 case round =>
  rcases hrel with ⟨rfl,rfl,rfl⟩ | ⟨rfl,rfl,HI⟩
  ·go_upto_region 3 with (fail)
   go_region
   all_goals (try go_wp2_with fail)
   all_goals go_roundw
   case rel=>exact .inr ⟨rfl,rfl,zhy ⟨HS.out,below_draws (((Below.refl _ _).setCell hg _).setCell hg _) 1⟩⟩
   case measure=>decide
  ·go_wp2_with fail
   go_end0
   exact ⟨rfl,HI.out⟩
theorem rev_3 (A:Option Addr) (c:Nat) (x y z:Int) (base:Nat) (w:World) (ho:w.ownsRow base 5 1 (.slice A 3 c) 3 (cel [x,y,z])) :
  Calls Tryz.prog 257 #[.slice A 3 c] w fun e w'=>e=.returned (.tuple #[])∧w'.ownsRow base 5 1 (.slice A 3 c) 3 (cel [z,y,x])∧Below base w w':=by
 obtain ⟨g,rfl,hg⟩:=own_some ho (by omega)
 have c0:w.cell? ⟨g,0,none⟩=some (.int .u8 x):=ho.cellAt 0 (by omega)
 have c1:w.cell? ⟨g,1,none⟩=some (.int .u8 y):=ho.cellAt 1 (by omega)
 have c2:w.cell? ⟨g,2,none⟩=some (.int .u8 z):=ho.cellAt 2 (by omega)
 have f0:=ho.frozenAt 0
 have f2:=ho.frozenAt 2
 have hs:((w.setCell ⟨g,0,none⟩ (.int .u8 z)).setCell ⟨g,2,none⟩ (.int .u8 x)).ownsRow base 5 1 (.slice (some ⟨g,0,none⟩) 3 c) 3 (cel [z,y,x]):=((ho.stored 0 (.int .u8 z)).1.stored 2 (.int .u8 x)).1
 have HS:=zhy hs
 clear hs ho
 go_enter Tryz.func257,Tryz.ntmps257
 go_wp2_with fail
 go_loopw [2,3] (fun i j wr=>(i=.int .i64 0∧j=.int .i64 2∧wr=w)∨(i=.int .i64 1∧j=.int .i64 1∧Hid (wr.ownsRow base 5 1 (.slice (some ⟨g,0,none⟩) 3 c) 3 (cel [z,y,x])∧Below base w wr))) (fun i _ _=>(2-intOf i).toNat)
 case atStart=>exact .inl ⟨rfl,rfl,rfl⟩
 case round =>
  rcases hrel with ⟨rfl,rfl,rfl⟩ | ⟨rfl,rfl,HI⟩
  ·go_upto_region 3 with (fail)
   go_region
   all_goals (try go_wp2_with fail)
   all_goals go_roundw
   case rel=>exact .inr ⟨rfl,rfl,zhy ⟨HS.out,below_draws (((Below.refl _ _).setCell hg _).setCell hg _) 1⟩⟩
   case measure=>decide
  ·go_wp2_with fail
   go_end0
   exact ⟨rfl,HI.out⟩
theorem below_mk {w w':World} {a:Obj} (h:Below w.heap.size (w.alloc a) w'):Below w.heap.size w w':=new1.trans h
theorem takes_0 (w:World):Calls Tryz.prog 248 #[.int .u8 0] w fun e w'=>∃A c,e=.returned (.tuple #[.slice A 0 c,.bool true])∧w'.ownsRow w.heap.size 5 1 (.slice A 0 c) 0 (cel [])∧Below w.heap.size w w':=by
 have hinfo:=Tryz.info5;rw [Option.map_eq_some_iff] at hinfo;obtain ⟨i0,hi,hz⟩:=hinfo;simp only [Prod.mk.injEq] at hz;obtain ⟨hz0,hz1,hz2⟩:=hz;go_enter Tryz.func248,Tryz.ntmps248;go_wp2_with fail;refine (rev_0 _ _ _).mono ?_;rintro e w1 ⟨rfl,rfl⟩;go_wp2_with fail;go_ret2;exact ⟨_,_,rfl,own_nil _ _,Below.refl _ _⟩
theorem takes_6 (w:World):Calls Tryz.prog 248 #[.int .u8 6] w fun e w'=>∃A c,e=.returned (.tuple #[.slice A 1 c,.bool true])∧w'.ownsRow w.heap.size 5 1 (.slice A 1 c) 1 (cel [0])∧Below w.heap.size w w':=by
 have hinfo:=Tryz.info5;rw [Option.map_eq_some_iff] at hinfo;obtain ⟨i0,hi,hz⟩:=hinfo;simp only [Prod.mk.injEq] at hz;obtain ⟨hz0,hz1,hz2⟩:=hz;go_enter Tryz.func248,Tryz.ntmps248;go_wp2_with (at_builtin;refine wpList_append_rd _ rfl _ _ 40 rfl w.heap.size 5 i0 Tryz.underlying40 hi hz0 hz1 hz2 _ 0 [] rfl (own_nil _ w.heap.size) _ 1 1 [0] rfl (rd_one w 0 (by decide)) rfl (by omega) (by simp) ?_);intro A1 c1 w1 hown1 hg1 hb1 _;have O1:=zhy hown1;have B1:=zhy (below_mk hb1);clear hown1 hg1 hb1;go_wp2_with fail;refine (rev_1 _ _ _).mono ?_;rintro e w2 ⟨rfl,rfl⟩;go_wp2_with fail;go_ret2;exact ⟨_,_,rfl,O1.out,B1.out⟩
theorem takes_9 (w:World):Calls Tryz.prog 248 #[.int .u8 9] w fun e w'=>∃A c,e=.returned (.tuple #[.slice A 2 c,.bool true])∧w'.ownsRow w.heap.size 5 1 (.slice A 2 c) 2 (cel [1,1])∧Below w.heap.size w w':=by
 have hinfo:=Tryz.info5;rw [Option.map_eq_some_iff] at hinfo;obtain ⟨i0,hi,hz⟩:=hinfo;simp only [Prod.mk.injEq] at hz;obtain ⟨hz0,hz1,hz2⟩:=hz;go_enter Tryz.func248,Tryz.ntmps248;go_wp2_with (at_builtin;refine wpList_append_rd _ rfl _ _ 40 rfl w.heap.size 5 i0 Tryz.underlying40 hi hz0 hz1 hz2 _ 0 [] rfl (own_nil _ w.heap.size) _ 1 1 [1] rfl (rd_one w 1 (by decide)) rfl (by omega) (by simp) ?_);intro A1 c1 w1 hown1 hg1 hb1 _;have O1:=zhy hown1;have B1:=zhy (below_mk hb1);clear hown1 hg1 hb1;go_wp2_with (at_builtin;refine wpList_append_rd _ rfl _ _ 40 rfl w.heap.size 5 i0 Tryz.underlying40 hi hz0 hz1 hz2 _ 1 [1] rfl (own_below O1.out new1 (Nat.le_refl _)) _ 1 1 [1] rfl (rd_one w1 1 (by decide)) rfl (by omega) (Nat.le_trans B1.out.size (by simp)) ?_);intro A2 c2 w2 hown2 hg2 hb2 _;have O2:=zhy hown2;have B2:=zhy ((B1.out.trans ((Below.refl _ _).alloc B1.out.size _)).trans hb2);clear hown2 hg2 hb2;go_wp2_with fail;refine (rev_2 _ _ 1 1 w.heap.size _ O2.out).mono ?_;rintro e w9 ⟨rfl,ho9,hb9⟩;have O9:=zhy ho9;have B9:=zhy (B2.out.trans hb9);clear ho9 hb9;go_wp2_with fail;go_ret2;exact ⟨_,_,rfl,O9.out,B9.out⟩
theorem takes_10 (w:World):Calls Tryz.prog 248 #[.int .u8 10] w fun e w'=>∃A c,e=.returned (.tuple #[.slice A 2 c,.bool true])∧w'.ownsRow w.heap.size 5 1 (.slice A 2 c) 2 (cel [1,1])∧Below w.heap.size w w':=by
 have hinfo:=Tryz.info5;rw [Option.map_eq_some_iff] at hinfo;obtain ⟨i0,hi,hz⟩:=hinfo;simp only [Prod.mk.injEq] at hz;obtain ⟨hz0,hz1,hz2⟩:=hz;go_enter Tryz.func248,Tryz.ntmps248;go_wp2_with (at_builtin;refine wpList_append_rd _ rfl _ _ 40 rfl w.heap.size 5 i0 Tryz.underlying40 hi hz0 hz1 hz2 _ 0 [] rfl (own_nil _ w.heap.size) _ 1 1 [1] rfl (rd_one w 1 (by decide)) rfl (by omega) (by simp) ?_);intro A1 c1 w1 hown1 hg1 hb1 _;have O1:=zhy hown1;have B1:=zhy (below_mk hb1);clear hown1 hg1 hb1;go_wp2_with (at_builtin;refine wpList_append_rd _ rfl _ _ 40 rfl w.heap.size 5 i0 Tryz.underlying40 hi hz0 hz1 hz2 _ 1 [1] rfl (own_below O1.out new1 (Nat.le_refl _)) _ 1 1 [1] rfl (rd_one w1 1 (by decide)) rfl (by omega) (Nat.le_trans B1.out.size (by simp)) ?_);intro A2 c2 w2 hown2 hg2 hb2 _;have O2:=zhy hown2;have B2:=zhy ((B1.out.trans ((Below.refl _ _).alloc B1.out.size _)).trans hb2);clear hown2 hg2 hb2;go_wp2_with fail;refine (rev_2 _ _ 1 1 w.heap.size _ O2.out).mono ?_;rintro e w9 ⟨rfl,ho9,hb9⟩;have O9:=zhy ho9;have B9:=zhy (B2.out.trans hb9);clear ho9 hb9;go_wp2_with fail;go_ret2;exact ⟨_,_,rfl,O9.out,B9.out⟩
theorem takes_11 (w:World):Calls Tryz.prog 248 #[.int .u8 11] w fun e w'=>∃A c,e=.returned (.tuple #[.slice A 2 c,.bool true])∧w'.ownsRow w.heap.size 5 1 (.slice A 2 c) 2 (cel [1,1])∧Below w.heap.size w w':=by
 have hinfo:=Tryz.info5;rw [Option.map_eq_some_iff] at hinfo;obtain ⟨i0,hi,hz⟩:=hinfo;simp only [Prod.mk.injEq] at hz;obtain ⟨hz0,hz1,hz2⟩:=hz;go_enter Tryz.func248,Tryz.ntmps248;go_wp2_with (at_builtin;refine wpList_append_rd _ rfl _ _ 40 rfl w.heap.size 5 i0 Tryz.underlying40 hi hz0 hz1 hz2 _ 0 [] rfl (own_nil _ w.heap.size) _ 1 1 [1] rfl (rd_one w 1 (by decide)) rfl (by omega) (by simp) ?_);intro A1 c1 w1 hown1 hg1 hb1 _;have O1:=zhy hown1;have B1:=zhy (below_mk hb1);clear hown1 hg1 hb1;go_wp2_with (at_builtin;refine wpList_append_rd _ rfl _ _ 40 rfl w.heap.size 5 i0 Tryz.underlying40 hi hz0 hz1 hz2 _ 1 [1] rfl (own_below O1.out new1 (Nat.le_refl _)) _ 1 1 [1] rfl (rd_one w1 1 (by decide)) rfl (by omega) (Nat.le_trans B1.out.size (by simp)) ?_);intro A2 c2 w2 hown2 hg2 hb2 _;have O2:=zhy hown2;have B2:=zhy ((B1.out.trans ((Below.refl _ _).alloc B1.out.size _)).trans hb2);clear hown2 hg2 hb2;go_wp2_with fail;refine (rev_2 _ _ 1 1 w.heap.size _ O2.out).mono ?_;rintro e w9 ⟨rfl,ho9,hb9⟩;have O9:=zhy ho9;have B9:=zhy (B2.out.trans hb9);clear ho9 hb9;go_wp2_with fail;go_ret2;exact ⟨_,_,rfl,O9.out,B9.out⟩
theorem takes_12 (w:World):Calls Tryz.prog 248 #[.int .u8 12] w fun e w'=>∃A c,e=.returned (.tuple #[.slice A 2 c,.bool true])∧w'.ownsRow w.heap.size 5 1 (.slice A 2 c) 2 (cel [1,1])∧Below w.heap.size w w':=by
 have hinfo:=Tryz.info5;rw [Option.map_eq_some_iff] at hinfo;obtain ⟨i0,hi,hz⟩:=hinfo;simp only [Prod.mk.injEq] at hz;obtain ⟨hz0,hz1,hz2⟩:=hz;go_enter Tryz.func248,Tryz.ntmps248;go_wp2_with (at_builtin;refine wpList_append_rd _ rfl _ _ 40 rfl w.heap.size 5 i0 Tryz.underlying40 hi hz0 hz1 hz2 _ 0 [] rfl (own_nil _ w.heap.size) _ 1 1 [1] rfl (rd_one w 1 (by decide)) rfl (by omega) (by simp) ?_);intro A1 c1 w1 hown1 hg1 hb1 _;have O1:=zhy hown1;have B1:=zhy (below_mk hb1);clear hown1 hg1 hb1;go_wp2_with (at_builtin;refine wpList_append_rd _ rfl _ _ 40 rfl w.heap.size 5 i0 Tryz.underlying40 hi hz0 hz1 hz2 _ 1 [1] rfl (own_below O1.out new1 (Nat.le_refl _)) _ 1 1 [1] rfl (rd_one w1 1 (by decide)) rfl (by omega) (Nat.le_trans B1.out.size (by simp)) ?_);intro A2 c2 w2 hown2 hg2 hb2 _;have O2:=zhy hown2;have B2:=zhy ((B1.out.trans ((Below.refl _ _).alloc B1.out.size _)).trans hb2);clear hown2 hg2 hb2;go_wp2_with fail;refine (rev_2 _ _ 1 1 w.heap.size _ O2.out).mono ?_;rintro e w9 ⟨rfl,ho9,hb9⟩;have O9:=zhy ho9;have B9:=zhy (B2.out.trans hb9);clear ho9 hb9;go_wp2_with fail;go_ret2;exact ⟨_,_,rfl,O9.out,B9.out⟩
theorem takes_13 (w:World):Calls Tryz.prog 248 #[.int .u8 13] w fun e w'=>∃A c,e=.returned (.tuple #[.slice A 2 c,.bool true])∧w'.ownsRow w.heap.size 5 1 (.slice A 2 c) 2 (cel [1,1])∧Below w.heap.size w w':=by
 have hinfo:=Tryz.info5;rw [Option.map_eq_some_iff] at hinfo;obtain ⟨i0,hi,hz⟩:=hinfo;simp only [Prod.mk.injEq] at hz;obtain ⟨hz0,hz1,hz2⟩:=hz;go_enter Tryz.func248,Tryz.ntmps248;go_wp2_with (at_builtin;refine wpList_append_rd _ rfl _ _ 40 rfl w.heap.size 5 i0 Tryz.underlying40 hi hz0 hz1 hz2 _ 0 [] rfl (own_nil _ w.heap.size) _ 1 1 [1] rfl (rd_one w 1 (by decide)) rfl (by omega) (by simp) ?_);intro A1 c1 w1 hown1 hg1 hb1 _;have O1:=zhy hown1;have B1:=zhy (below_mk hb1);clear hown1 hg1 hb1;go_wp2_with (at_builtin;refine wpList_append_rd _ rfl _ _ 40 rfl w.heap.size 5 i0 Tryz.underlying40 hi hz0 hz1 hz2 _ 1 [1] rfl (own_below O1.out new1 (Nat.le_refl _)) _ 1 1 [1] rfl (rd_one w1 1 (by decide)) rfl (by omega) (Nat.le_trans B1.out.size (by simp)) ?_);intro A2 c2 w2 hown2 hg2 hb2 _;have O2:=zhy hown2;have B2:=zhy ((B1.out.trans ((Below.refl _ _).alloc B1.out.size _)).trans hb2);clear hown2 hg2 hb2;go_wp2_with fail;refine (rev_2 _ _ 1 1 w.heap.size _ O2.out).mono ?_;rintro e w9 ⟨rfl,ho9,hb9⟩;have O9:=zhy ho9;have B9:=zhy (B2.out.trans hb9);clear ho9 hb9;go_wp2_with fail;go_ret2;exact ⟨_,_,rfl,O9.out,B9.out⟩
theorem takes_14 (w:World):Calls Tryz.prog 248 #[.int .u8 14] w fun e w'=>∃A c,e=.returned (.tuple #[.slice A 2 c,.bool true])∧w'.ownsRow w.heap.size 5 1 (.slice A 2 c) 2 (cel [1,1])∧Below w.heap.size w w':=by
 have hinfo:=Tryz.info5;rw [Option.map_eq_some_iff] at hinfo;obtain ⟨i0,hi,hz⟩:=hinfo;simp only [Prod.mk.injEq] at hz;obtain ⟨hz0,hz1,hz2⟩:=hz;go_enter Tryz.func248,Tryz.ntmps248;go_wp2_with (at_builtin;refine wpList_append_rd _ rfl _ _ 40 rfl w.heap.size 5 i0 Tryz.underlying40 hi hz0 hz1 hz2 _ 0 [] rfl (own_nil _ w.heap.size) _ 1 1 [1] rfl (rd_one w 1 (by decide)) rfl (by omega) (by simp) ?_);intro A1 c1 w1 hown1 hg1 hb1 _;have O1:=zhy hown1;have B1:=zhy (below_mk hb1);clear hown1 hg1 hb1;go_wp2_with (at_builtin;refine wpList_append_rd _ rfl _ _ 40 rfl w.heap.size 5 i0 Tryz.underlying40 hi hz0 hz1 hz2 _ 1 [1] rfl (own_below O1.out new1 (Nat.le_refl _)) _ 1 1 [1] rfl (rd_one w1 1 (by decide)) rfl (by omega) (Nat.le_trans B1.out.size (by simp)) ?_);intro A2 c2 w2 hown2 hg2 hb2 _;have O2:=zhy hown2;have B2:=zhy ((B1.out.trans ((Below.refl _ _).alloc B1.out.size _)).trans hb2);clear hown2 hg2 hb2;go_wp2_with fail;refine (rev_2 _ _ 1 1 w.heap.size _ O2.out).mono ?_;rintro e w9 ⟨rfl,ho9,hb9⟩;have O9:=zhy ho9;have B9:=zhy (B2.out.trans hb9);clear ho9 hb9;go_wp2_with fail;go_ret2;exact ⟨_,_,rfl,O9.out,B9.out⟩
theorem takes_15 (w:World):Calls Tryz.prog 248 #[.int .u8 15] w fun e w'=>∃A c,e=.returned (.tuple #[.slice A 2 c,.bool true])∧w'.ownsRow w.heap.size 5 1 (.slice A 2 c) 2 (cel [1,1])∧Below w.heap.size w w':=by
 have hinfo:=Tryz.info5;rw [Option.map_eq_some_iff] at hinfo;obtain ⟨i0,hi,hz⟩:=hinfo;simp only [Prod.mk.injEq] at hz;obtain ⟨hz0,hz1,hz2⟩:=hz;go_enter Tryz.func248,Tryz.ntmps248;go_wp2_with (at_builtin;refine wpList_append_rd _ rfl _ _ 40 rfl w.heap.size 5 i0 Tryz.underlying40 hi hz0 hz1 hz2 _ 0 [] rfl (own_nil _ w.heap.size) _ 1 1 [1] rfl (rd_one w 1 (by decide)) rfl (by omega) (by simp) ?_);intro A1 c1 w1 hown1 hg1 hb1 _;have O1:=zhy hown1;have B1:=zhy (below_mk hb1);clear hown1 hg1 hb1;go_wp2_with (at_builtin;refine wpList_append_rd _ rfl _ _ 40 rfl w.heap.size 5 i0 Tryz.underlying40 hi hz0 hz1 hz2 _ 1 [1] rfl (own_below O1.out new1 (Nat.le_refl _)) _ 1 1 [1] rfl (rd_one w1 1 (by decide)) rfl (by omega) (Nat.le_trans B1.out.size (by simp)) ?_);intro A2 c2 w2 hown2 hg2 hb2 _;have O2:=zhy hown2;have B2:=zhy ((B1.out.trans ((Below.refl _ _).alloc B1.out.size _)).trans hb2);clear hown2 hg2 hb2;go_wp2_with fail;refine (rev_2 _ _ 1 1 w.heap.size _ O2.out).mono ?_;rintro e w9 ⟨rfl,ho9,hb9⟩;have O9:=zhy ho9;have B9:=zhy (B2.out.trans hb9);clear ho9 hb9;go_wp2_with fail;go_ret2;exact ⟨_,_,rfl,O9.out,B9.out⟩
theorem takes_16 (w:World):Calls Tryz.prog 248 #[.int .u8 16] w fun e w'=>∃A c,e=.returned (.tuple #[.slice A 2 c,.bool true])∧w'.ownsRow w.heap.size 5 1 (.slice A 2 c) 2 (cel [1,1])∧Below w.heap.size w w':=by
 have hinfo:=Tryz.info5;rw [Option.map_eq_some_iff] at hinfo;obtain ⟨i0,hi,hz⟩:=hinfo;simp only [Prod.mk.injEq] at hz;obtain ⟨hz0,hz1,hz2⟩:=hz;go_enter Tryz.func248,Tryz.ntmps248;go_wp2_with (at_builtin;refine wpList_append_rd _ rfl _ _ 40 rfl w.heap.size 5 i0 Tryz.underlying40 hi hz0 hz1 hz2 _ 0 [] rfl (own_nil _ w.heap.size) _ 1 1 [1] rfl (rd_one w 1 (by decide)) rfl (by omega) (by simp) ?_);intro A1 c1 w1 hown1 hg1 hb1 _;have O1:=zhy hown1;have B1:=zhy (below_mk hb1);clear hown1 hg1 hb1;go_wp2_with (at_builtin;refine wpList_append_rd _ rfl _ _ 40 rfl w.heap.size 5 i0 Tryz.underlying40 hi hz0 hz1 hz2 _ 1 [1] rfl (own_below O1.out new1 (Nat.le_refl _)) _ 1 1 [1] rfl (rd_one w1 1 (by decide)) rfl (by omega) (Nat.le_trans B1.out.size (by simp)) ?_);intro A2 c2 w2 hown2 hg2 hb2 _;have O2:=zhy hown2;have B2:=zhy ((B1.out.trans ((Below.refl _ _).alloc B1.out.size _)).trans hb2);clear hown2 hg2 hb2;go_wp2_with fail;refine (rev_2 _ _ 1 1 w.heap.size _ O2.out).mono ?_;rintro e w9 ⟨rfl,ho9,hb9⟩;have O9:=zhy ho9;have B9:=zhy (B2.out.trans hb9);clear ho9 hb9;go_wp2_with fail;go_ret2;exact ⟨_,_,rfl,O9.out,B9.out⟩
theorem takes_17 (w:World):Calls Tryz.prog 248 #[.int .u8 17] w fun e w'=>∃A c,e=.returned (.tuple #[.slice A 1 c,.bool true])∧w'.ownsRow w.heap.size 5 1 (.slice A 1 c) 1 (cel [2])∧Below w.heap.size w w':=by
 have hinfo:=Tryz.info5;rw [Option.map_eq_some_iff] at hinfo;obtain ⟨i0,hi,hz⟩:=hinfo;simp only [Prod.mk.injEq] at hz;obtain ⟨hz0,hz1,hz2⟩:=hz;go_enter Tryz.func248,Tryz.ntmps248;go_wp2_with (at_builtin;refine wpList_append_rd _ rfl _ _ 40 rfl w.heap.size 5 i0 Tryz.underlying40 hi hz0 hz1 hz2 _ 0 [] rfl (own_nil _ w.heap.size) _ 1 1 [2] rfl (rd_one w 2 (by decide)) rfl (by omega) (by simp) ?_);intro A1 c1 w1 hown1 hg1 hb1 _;have O1:=zhy hown1;have B1:=zhy (below_mk hb1);clear hown1 hg1 hb1;go_wp2_with fail;refine (rev_1 _ _ _).mono ?_;rintro e w2 ⟨rfl,rfl⟩;go_wp2_with fail;go_ret2;exact ⟨_,_,rfl,O1.out,B1.out⟩
theorem takes_18 (w:World):Calls Tryz.prog 248 #[.int .u8 18] w fun e w'=>∃A c,e=.returned (.tuple #[.slice A 1 c,.bool true])∧w'.ownsRow w.heap.size 5 1 (.slice A 1 c) 1 (cel [2])∧Below w.heap.size w w':=by
 have hinfo:=Tryz.info5;rw [Option.map_eq_some_iff] at hinfo;obtain ⟨i0,hi,hz⟩:=hinfo;simp only [Prod.mk.injEq] at hz;obtain ⟨hz0,hz1,hz2⟩:=hz;go_enter Tryz.func248,Tryz.ntmps248;go_wp2_with (at_builtin;refine wpList_append_rd _ rfl _ _ 40 rfl w.heap.size 5 i0 Tryz.underlying40 hi hz0 hz1 hz2 _ 0 [] rfl (own_nil _ w.heap.size) _ 1 1 [2] rfl (rd_one w 2 (by decide)) rfl (by omega) (by simp) ?_);intro A1 c1 w1 hown1 hg1 hb1 _;have O1:=zhy hown1;have B1:=zhy (below_mk hb1);clear hown1 hg1 hb1;go_wp2_with fail;refine (rev_1 _ _ _).mono ?_;rintro e w2 ⟨rfl,rfl⟩;go_wp2_with fail;go_ret2;exact ⟨_,_,rfl,O1.out,B1.out⟩
theorem takes_19 (w:World):Calls Tryz.prog 248 #[.int .u8 19] w fun e w'=>∃A c,e=.returned (.tuple #[.slice A 2 c,.bool true])∧w'.ownsRow w.heap.size 5 1 (.slice A 2 c) 2 (cel [2,2])∧Below w.heap.size w w':=by
 have hinfo:=Tryz.info5;rw [Option.map_eq_some_iff] at hinfo;obtain ⟨i0,hi,hz⟩:=hinfo;simp only [Prod.mk.injEq] at hz;obtain ⟨hz0,hz1,hz2⟩:=hz;go_enter Tryz.func248,Tryz.ntmps248;go_wp2_with (at_builtin;refine wpList_append_rd _ rfl _ _ 40 rfl w.heap.size 5 i0 Tryz.underlying40 hi hz0 hz1 hz2 _ 0 [] rfl (own_nil _ w.heap.size) _ 1 1 [2] rfl (rd_one w 2 (by decide)) rfl (by omega) (by simp) ?_);intro A1 c1 w1 hown1 hg1 hb1 _;have O1:=zhy hown1;have B1:=zhy (below_mk hb1);clear hown1 hg1 hb1;go_wp2_with (at_builtin;refine wpList_append_rd _ rfl _ _ 40 rfl w.heap.size 5 i0 Tryz.underlying40 hi hz0 hz1 hz2 _ 1 [2] rfl (own_below O1.out new1 (Nat.le_refl _)) _ 1 1 [2] rfl (rd_one w1 2 (by decide)) rfl (by omega) (Nat.le_trans B1.out.size (by simp)) ?_);intro A2 c2 w2 hown2 hg2 hb2 _;have O2:=zhy hown2;have B2:=zhy ((B1.out.trans ((Below.refl _ _).alloc B1.out.size _)).trans hb2);clear hown2 hg2 hb2;go_wp2_with fail;refine (rev_2 _ _ 2 2 w.heap.size _ O2.out).mono ?_;rintro e w9 ⟨rfl,ho9,hb9⟩;have O9:=zhy ho9;have B9:=zhy (B2.out.trans hb9);clear ho9 hb9;go_wp2_with fail;go_ret2;exact ⟨_,_,rfl,O9.out,B9.out⟩
theorem takes_20 (w:World):Calls Tryz.prog 248 #[.int .u8 20] w fun e w'=>∃A c,e=.returned (.tuple #[.slice A 2 c,.bool true])∧w'.ownsRow w.heap.size 5 1 (.slice A 2 c) 2 (cel [2,2])∧Below w.heap.size w w':=by
 have hinfo:=Tryz.info5;rw [Option.map_eq_some_iff] at hinfo;obtain ⟨i0,hi,hz⟩:=hinfo;simp only [Prod.mk.injEq] at hz;obtain ⟨hz0,hz1,hz2⟩:=hz;go_enter Tryz.func248,Tryz.ntmps248;go_wp2_with (at_builtin;refine wpList_append_rd _ rfl _ _ 40 rfl w.heap.size 5 i0 Tryz.underlying40 hi hz0 hz1 hz2 _ 0 [] rfl (own_nil _ w.heap.size) _ 1 1 [2] rfl (rd_one w 2 (by decide)) rfl (by omega) (by simp) ?_);intro A1 c1 w1 hown1 hg1 hb1 _;have O1:=zhy hown1;have B1:=zhy (below_mk hb1);clear hown1 hg1 hb1;go_wp2_with (at_builtin;refine wpList_append_rd _ rfl _ _ 40 rfl w.heap.size 5 i0 Tryz.underlying40 hi hz0 hz1 hz2 _ 1 [2] rfl (own_below O1.out new1 (Nat.le_refl _)) _ 1 1 [2] rfl (rd_one w1 2 (by decide)) rfl (by omega) (Nat.le_trans B1.out.size (by simp)) ?_);intro A2 c2 w2 hown2 hg2 hb2 _;have O2:=zhy hown2;have B2:=zhy ((B1.out.trans ((Below.refl _ _).alloc B1.out.size _)).trans hb2);clear hown2 hg2 hb2;go_wp2_with fail;refine (rev_2 _ _ 2 2 w.heap.size _ O2.out).mono ?_;rintro e w9 ⟨rfl,ho9,hb9⟩;have O9:=zhy ho9;have B9:=zhy (B2.out.trans hb9);clear ho9 hb9;go_wp2_with fail;go_ret2;exact ⟨_,_,rfl,O9.out,B9.out⟩
theorem takes_21 (w:World):Calls Tryz.prog 248 #[.int .u8 21] w fun e w'=>∃A c,e=.returned (.tuple #[.slice A 1 c,.bool true])∧w'.ownsRow w.heap.size 5 1 (.slice A 1 c) 1 (cel [2])∧Below w.heap.size w w':=by
 have hinfo:=Tryz.info5;rw [Option.map_eq_some_iff] at hinfo;obtain ⟨i0,hi,hz⟩:=hinfo;simp only [Prod.mk.injEq] at hz;obtain ⟨hz0,hz1,hz2⟩:=hz;go_enter Tryz.func248,Tryz.ntmps248;go_wp2_with (at_builtin;refine wpList_append_rd _ rfl _ _ 40 rfl w.heap.size 5 i0 Tryz.underlying40 hi hz0 hz1 hz2 _ 0 [] rfl (own_nil _ w.heap.size) _ 1 1 [2] rfl (rd_one w 2 (by decide)) rfl (by omega) (by simp) ?_);intro A1 c1 w1 hown1 hg1 hb1 _;have O1:=zhy hown1;have B1:=zhy (below_mk hb1);clear hown1 hg1 hb1;go_wp2_with fail;refine (rev_1 _ _ _).mono ?_;rintro e w2 ⟨rfl,rfl⟩;go_wp2_with fail;go_ret2;exact ⟨_,_,rfl,O1.out,B1.out⟩
theorem takes_22 (w:World):Calls Tryz.prog 248 #[.int .u8 22] w fun e w'=>∃A c,e=.returned (.tuple #[.slice A 1 c,.bool true])∧w'.ownsRow w.heap.size 5 1 (.slice A 1 c) 1 (cel [1])∧Below w.heap.size w w':=by
 have hinfo:=Tryz.info5;rw [Option.map_eq_some_iff] at hinfo;obtain ⟨i0,hi,hz⟩:=hinfo;simp only [Prod.mk.injEq] at hz;obtain ⟨hz0,hz1,hz2⟩:=hz;go_enter Tryz.func248,Tryz.ntmps248;go_wp2_with (at_builtin;refine wpList_append_rd _ rfl _ _ 40 rfl w.heap.size 5 i0 Tryz.underlying40 hi hz0 hz1 hz2 _ 0 [] rfl (own_nil _ w.heap.size) _ 1 1 [1] rfl (rd_one w 1 (by decide)) rfl (by omega) (by simp) ?_);intro A1 c1 w1 hown1 hg1 hb1 _;have O1:=zhy hown1;have B1:=zhy (below_mk hb1);clear hown1 hg1 hb1;go_wp2_with fail;refine (rev_1 _ _ _).mono ?_;rintro e w2 ⟨rfl,rfl⟩;go_wp2_with fail;go_ret2;exact ⟨_,_,rfl,O1.out,B1.out⟩
theorem takes_23 (w:World):Calls Tryz.prog 248 #[.int .u8 23] w fun e w'=>∃A c,e=.returned (.tuple #[.slice A 2 c,.bool true])∧w'.ownsRow w.heap.size 5 1 (.slice A 2 c) 2 (cel [3,1])∧Below w.heap.size w w':=by
 have hinfo:=Tryz.info5;rw [Option.map_eq_some_iff] at hinfo;obtain ⟨i0,hi,hz⟩:=hinfo;simp only [Prod.mk.injEq] at hz;obtain ⟨hz0,hz1,hz2⟩:=hz;go_enter Tryz.func248,Tryz.ntmps248;go_wp2_with (at_builtin;refine wpList_append_rd _ rfl _ _ 40 rfl w.heap.size 5 i0 Tryz.underlying40 hi hz0 hz1 hz2 _ 0 [] rfl (own_nil _ w.heap.size) _ 1 1 [1] rfl (rd_one w 1 (by decide)) rfl (by omega) (by simp) ?_);intro A1 c1 w1 hown1 hg1 hb1 _;have O1:=zhy hown1;have B1:=zhy (below_mk hb1);clear hown1 hg1 hb1;go_wp2_with (at_builtin;refine wpList_append_rd _ rfl _ _ 40 rfl w.heap.size 5 i0 Tryz.underlying40 hi hz0 hz1 hz2 _ 1 [1] rfl (own_below O1.out new1 (Nat.le_refl _)) _ 1 1 [3] rfl (rd_one w1 3 (by decide)) rfl (by omega) (Nat.le_trans B1.out.size (by simp)) ?_);intro A2 c2 w2 hown2 hg2 hb2 _;have O2:=zhy hown2;have B2:=zhy ((B1.out.trans ((Below.refl _ _).alloc B1.out.size _)).trans hb2);clear hown2 hg2 hb2;go_wp2_with fail;refine (rev_2 _ _ 1 3 w.heap.size _ O2.out).mono ?_;rintro e w9 ⟨rfl,ho9,hb9⟩;have O9:=zhy ho9;have B9:=zhy (B2.out.trans hb9);clear ho9 hb9;go_wp2_with fail;go_ret2;exact ⟨_,_,rfl,O9.out,B9.out⟩
theorem takes_24 (w:World):Calls Tryz.prog 248 #[.int .u8 24] w fun e w'=>∃A c,e=.returned (.tuple #[.slice A 3 c,.bool true])∧w'.ownsRow w.heap.size 5 1 (.slice A 3 c) 3 (cel [3,1,1])∧Below w.heap.size w w':=by
 have hinfo:=Tryz.info5;rw [Option.map_eq_some_iff] at hinfo;obtain ⟨i0,hi,hz⟩:=hinfo;simp only [Prod.mk.injEq] at hz;obtain ⟨hz0,hz1,hz2⟩:=hz;go_enter Tryz.func248,Tryz.ntmps248;go_wp2_with (at_builtin;refine wpList_append_rd _ rfl _ _ 40 rfl w.heap.size 5 i0 Tryz.underlying40 hi hz0 hz1 hz2 _ 0 [] rfl (own_nil _ w.heap.size) _ 1 1 [1] rfl (rd_one w 1 (by decide)) rfl (by omega) (by simp) ?_);intro A1 c1 w1 hown1 hg1 hb1 _;have O1:=zhy hown1;have B1:=zhy (below_mk hb1);clear hown1 hg1 hb1;go_wp2_with (at_builtin;refine wpList_append_rd _ rfl _ _ 40 rfl w.heap.size 5 i0 Tryz.underlying40 hi hz0 hz1 hz2 _ 1 [1] rfl (own_below O1.out new1 (Nat.le_refl _)) _ 1 1 [1] rfl (rd_one w1 1 (by decide)) rfl (by omega) (Nat.le_trans B1.out.size (by simp)) ?_);intro A2 c2 w2 hown2 hg2 hb2 _;have O2:=zhy hown2;have B2:=zhy ((B1.out.trans ((Below.refl _ _).alloc B1.out.size _)).trans hb2);clear hown2 hg2 hb2;go_wp2_with (at_builtin;refine wpList_append_rd _ rfl _ _ 40 rfl w.heap.size 5 i0 Tryz.underlying40 hi hz0 hz1 hz2 _ 2 [1,1] rfl (own_below O2.out new1 (Nat.le_refl _)) _ 1 1 [3] rfl (rd_one w2 3 (by decide)) rfl (by omega) (Nat.le_trans B2.out.size (by simp)) ?_);intro A3 c3 w3 hown3 hg3 hb3 _;have O3:=zhy hown3;have B3:=zhy ((B2.out.trans ((Below.refl _ _).alloc B2.out.size _)).trans hb3);clear hown3 hg3 hb3;go_wp2_with fail;refine (rev_3 _ _ 1 1 3 w.heap.size _ O3.out).mono ?_;rintro e w9 ⟨rfl,ho9,hb9⟩;have O9:=zhy ho9;have B9:=zhy (B3.out.trans hb9);clear ho9 hb9;go_wp2_with fail;go_ret2;exact ⟨_,_,rfl,O9.out,B9.out⟩
theorem takes_25 (w:World):Calls Tryz.prog 248 #[.int .u8 25] w fun e w'=>∃A c,e=.returned (.tuple #[.slice A 1 c,.bool true])∧w'.ownsRow w.heap.size 5 1 (.slice A 1 c) 1 (cel [3])∧Below w.heap.size w w':=by
 have hinfo:=Tryz.info5;rw [Option.map_eq_some_iff] at hinfo;obtain ⟨i0,hi,hz⟩:=hinfo;simp only [Prod.mk.injEq] at hz;obtain ⟨hz0,hz1,hz2⟩:=hz;go_enter Tryz.func248,Tryz.ntmps248;go_wp2_with (at_builtin;refine wpList_append_rd _ rfl _ _ 40 rfl w.heap.size 5 i0 Tryz.underlying40 hi hz0 hz1 hz2 _ 0 [] rfl (own_nil _ w.heap.size) _ 1 1 [3] rfl (rd_one w 3 (by decide)) rfl (by omega) (by simp) ?_);intro A1 c1 w1 hown1 hg1 hb1 _;have O1:=zhy hown1;have B1:=zhy (below_mk hb1);clear hown1 hg1 hb1;go_wp2_with fail;refine (rev_1 _ _ _).mono ?_;rintro e w2 ⟨rfl,rfl⟩;go_wp2_with fail;go_ret2;exact ⟨_,_,rfl,O1.out,B1.out⟩
theorem takes_26 (w:World):Calls Tryz.prog 248 #[.int .u8 26] w fun e w'=>∃A c,e=.returned (.tuple #[.slice A 0 c,.bool true])∧w'.ownsRow w.heap.size 5 1 (.slice A 0 c) 0 (cel [])∧Below w.heap.size w w':=by
 have hinfo:=Tryz.info5;rw [Option.map_eq_some_iff] at hinfo;obtain ⟨i0,hi,hz⟩:=hinfo;simp only [Prod.mk.injEq] at hz;obtain ⟨hz0,hz1,hz2⟩:=hz;go_enter Tryz.func248,Tryz.ntmps248;go_wp2_with fail;refine (rev_0 _ _ _).mono ?_;rintro e w1 ⟨rfl,rfl⟩;go_wp2_with fail;go_ret2;exact ⟨_,_,rfl,own_nil _ _,Below.refl _ _⟩
theorem takes_27 (w:World):Calls Tryz.prog 248 #[.int .u8 27] w fun e w'=>∃A c,e=.returned (.tuple #[.slice A 1 c,.bool true])∧w'.ownsRow w.heap.size 5 1 (.slice A 1 c) 1 (cel [1])∧Below w.heap.size w w':=by
 have hinfo:=Tryz.info5;rw [Option.map_eq_some_iff] at hinfo;obtain ⟨i0,hi,hz⟩:=hinfo;simp only [Prod.mk.injEq] at hz;obtain ⟨hz0,hz1,hz2⟩:=hz;go_enter Tryz.func248,Tryz.ntmps248;go_wp2_with (at_builtin;refine wpList_append_rd _ rfl _ _ 40 rfl w.heap.size 5 i0 Tryz.underlying40 hi hz0 hz1 hz2 _ 0 [] rfl (own_nil _ w.heap.size) _ 1 1 [1] rfl (rd_one w 1 (by decide)) rfl (by omega) (by simp) ?_);intro A1 c1 w1 hown1 hg1 hb1 _;have O1:=zhy hown1;have B1:=zhy (below_mk hb1);clear hown1 hg1 hb1;go_wp2_with fail;refine (rev_1 _ _ _).mono ?_;rintro e w2 ⟨rfl,rfl⟩;go_wp2_with fail;go_ret2;exact ⟨_,_,rfl,O1.out,B1.out⟩
theorem takes_28 (w:World):Calls Tryz.prog 248 #[.int .u8 28] w fun e w'=>∃A c,e=.returned (.tuple #[.slice A 0 c,.bool true])∧w'.ownsRow w.heap.size 5 1 (.slice A 0 c) 0 (cel [])∧Below w.heap.size w w':=by
 have hinfo:=Tryz.info5;rw [Option.map_eq_some_iff] at hinfo;obtain ⟨i0,hi,hz⟩:=hinfo;simp only [Prod.mk.injEq] at hz;obtain ⟨hz0,hz1,hz2⟩:=hz;go_enter Tryz.func248,Tryz.ntmps248;go_wp2_with fail;refine (rev_0 _ _ _).mono ?_;rintro e w1 ⟨rfl,rfl⟩;go_wp2_with fail;go_ret2;exact ⟨_,_,rfl,own_nil _ _,Below.refl _ _⟩
theorem takes_29 (w:World):Calls Tryz.prog 248 #[.int .u8 29] w fun e w'=>∃A c,e=.returned (.tuple #[.slice A 0 c,.bool true])∧w'.ownsRow w.heap.size 5 1 (.slice A 0 c) 0 (cel [])∧Below w.heap.size w w':=by
 have hinfo:=Tryz.info5;rw [Option.map_eq_some_iff] at hinfo;obtain ⟨i0,hi,hz⟩:=hinfo;simp only [Prod.mk.injEq] at hz;obtain ⟨hz0,hz1,hz2⟩:=hz;go_enter Tryz.func248,Tryz.ntmps248;go_wp2_with fail;refine (rev_0 _ _ _).mono ?_;rintro e w1 ⟨rfl,rfl⟩;go_wp2_with fail;go_ret2;exact ⟨_,_,rfl,own_nil _ _,Below.refl _ _⟩
theorem takes_32 (w:World):Calls Tryz.prog 248 #[.int .u8 32] w fun e w'=>∃A c,e=.returned (.tuple #[.slice A 0 c,.bool true])∧w'.ownsRow w.heap.size 5 1 (.slice A 0 c) 0 (cel [])∧Below w.heap.size w w':=by
 have hinfo:=Tryz.info5;rw [Option.map_eq_some_iff] at hinfo;obtain ⟨i0,hi,hz⟩:=hinfo;simp only [Prod.mk.injEq] at hz;obtain ⟨hz0,hz1,hz2⟩:=hz;go_enter Tryz.func248,Tryz.ntmps248;go_wp2_with fail;refine (rev_0 _ _ _).mono ?_;rintro e w1 ⟨rfl,rfl⟩;go_wp2_with fail;go_ret2;exact ⟨_,_,rfl,own_nil _ _,Below.refl _ _⟩
theorem takes_f (n:Int) (w:World) (h:fxB n=false):Calls Tryz.prog 248 #[.int .u8 n] w fun e w'=>e=.returned (.tuple #[.slice none 0 0,.bool false])∧w=w':=by
 have h':¬(n=0∨n=6∨(9≤n∧n≤29)∨n=32):=by simpa [fxB] using h
 clear h;go_enter Tryz.func248,Tryz.ntmps248;go_wp2_with fail;go_ret2;exact ⟨rfl,rfl⟩
theorem tk_open {n:Int} (h:fxB n=false):tkL n=[]∧gvL n=[]:=by
 have h':¬(n=0∨n=6∨(9≤n∧n≤29)∨n=32):=by simpa [fxB] using h
 constructor
 ·rw [tkL];repeat' rw [if_neg (by omega)]
 ·rw [gvL];repeat' rw [if_neg (by omega)]
theorem takes_any (n:Int) (w:World):Calls Tryz.prog 248 #[.int .u8 n] w fun e w'=>∃A c,e=.returned (.tuple #[.slice A (tkL n).length c,.bool (fxB n)])∧w'.ownsRow w.heap.size 5 1 (.slice A (tkL n).length c) (tkL n).length (cel (tkL n))∧Below w.heap.size w w':=by
 cases h:fxB n with
 | false =>
  rw [(tk_open h).1];refine (takes_f n w h).mono ?_;rintro e w1 ⟨rfl,rfl⟩;exact ⟨none,0,rfl,own_nil _ _,Below.refl _ _⟩
 | true =>
  have h':n=0∨n=6∨(9≤n∧n≤29)∨n=32:=by simpa [fxB] using h
  have:n=0∨n=6∨n=9∨n=10∨n=11∨n=12∨n=13∨n=14∨n=15∨n=16∨n=17∨n=18∨n=19∨n=20∨n=21∨n=22∨n=23∨n=24∨n=25∨n=26∨n=27∨n=28∨n=29∨n=32:=by omega
  rcases this with rfl | rfl | rfl | rfl | rfl | rfl | rfl | rfl | rfl | rfl | rfl | rfl | rfl | rfl | rfl | rfl | rfl | rfl | rfl | rfl | rfl | rfl | rfl | rfl
  ·exact takes_0 w
  ·exact takes_6 w
  ·exact takes_9 w
  ·exact takes_10 w
  ·exact takes_11 w
  ·exact takes_12 w
  ·exact takes_13 w
  ·exact takes_14 w
  ·exact takes_15 w
  ·exact takes_16 w
  ·exact takes_17 w
  ·exact takes_18 w
  ·exact takes_19 w
  ·exact takes_20 w
  ·exact takes_21 w
  ·exact takes_22 w
  ·exact takes_23 w
  ·exact takes_24 w
  ·exact takes_25 w
  ·exact takes_26 w
  ·exact takes_27 w
  ·exact takes_28 w
  ·exact takes_29 w
  ·exact takes_32 w
end Go.Proofs.YtnjgkkoiamiaaaaGreatDoor
