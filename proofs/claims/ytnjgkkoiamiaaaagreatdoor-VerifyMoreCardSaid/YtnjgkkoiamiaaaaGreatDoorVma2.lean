import Derived.Test.YtnjgkkoiamiaaaaGreatDoorVma1
import Derived.Laws.StructEq
import Derived.Lib.Bytes
set_option maxRecDepth 100000
set_option maxHeartbeats 16000000
set_option linter.unusedSimpArgs false
set_option linter.unusedVariables false
namespace Go.Proofs.YtnjgkkoiamiaaaaGreatDoor
open Go.RowKit
theorem size1 (w:World) (o:Obj):(w.alloc o).heap.size=w.heap.size+1:=by simp
structure Fct where
 p:World→Prop
 keep:∀w w',p w→Below w.heap.size w w'→p w'
def Facts (w:World):List Fct→Prop
 | []=>True
 | f::L=>f.p w∧Facts w L
theorem Facts.keep {w w':World} {L:List Fct} (h:Facts w L) (hb:Below w.heap.size w w'):Facts w' L:=by
 induction L with
 | nil=>trivial
 | cons f L ih=>exact ⟨f.keep _ _ h.1 hb,ih h.2⟩
def Sx (w0 w:World) (L:List Fct):Prop:=Below w0.heap.size w0 w∧Facts w L
theorem Sx.call {w0 w w':World} {L:List Fct} (h:Sx w0 w L) (hb:Below w.heap.size w w'):Sx w0 w' L:=⟨below_on h.1 hb,h.2.keep hb⟩
theorem Sx.mk1 {w0 w:World} {L:List Fct} (h:Sx w0 w L) (o:Obj):Sx w0 (w.alloc o) L:=h.call new1
theorem Sx.add {w0 w:World} {L:List Fct} (h:Sx w0 w L) (f:Fct) (hf:f.p w):Sx w0 w (f::L):=⟨h.1,hf,h.2⟩
theorem Sx.start (w:World):Sx w w []:=⟨Below.refl _ _,trivial⟩
def Vl (w:World) (B:Nat) (k a b:Int):Prop:=B<w.heap.size∧w.cell? ⟨B,0,none⟩=some (.int .u8 k)∧w.cell? ⟨B,1,none⟩=some (.int .i64 a)∧w.cell? ⟨B,2,none⟩=some (.int .i64 b) ∧
 w.frozen? ⟨B,0,none⟩=false∧w.frozen? ⟨B,1,none⟩=false∧w.frozen? ⟨B,2,none⟩=false
theorem Vl.keep {w w':World} {B:Nat} {k a b:Int} (h:Vl w B k a b) (hb:Below w.heap.size w w'):Vl w' B k a b:=by
 obtain ⟨h1,h2,h3,h4,h5,h6,h7⟩:=h;obtain ⟨hc,hf⟩:=bcell hb;exact ⟨Nat.lt_of_lt_of_le h1 hb.size,(hc _ _ h1).trans h2,(hc _ _ h1).trans h3,(hc _ _ h1).trans h4,(hf _ _ h1).trans h5,(hf _ _ h1).trans h6,(hf _ _ h1).trans h7⟩
theorem Vl.new (w:World) (k a b:Int):Vl (w.alloc (.cells #[.int .u8 k,.int .i64 a,.int .i64 b] 139)) w.heap.size k a b:=by
 refine ⟨by simp,?_,?_,?_,?_,?_,?_⟩<;>simp [go_sem]
theorem Vl.alloc {w:World} {B:Nat} {k a b:Int} (h:Vl w B k a b) (o:Obj):Vl (w.alloc o) B k a b:=h.keep new1
theorem Vl.set0 {w:World} {B:Nat} {k a b:Int} (h:Vl w B k a b) (k':Int):Vl (w.setCell ⟨B,0,none⟩ (.int .u8 k')) B k' a b:=by
 obtain ⟨h1,h2,h3,h4,h5,h6,h7⟩:=h;refine ⟨by simpa using h1,?_,?_,?_,?_,?_,?_⟩<;>simp [go_sem,h2,h3,h4,h5,h6,h7]
theorem Vl.set1 {w:World} {B:Nat} {k a b:Int} (h:Vl w B k a b) (a':Int):Vl (w.setCell ⟨B,1,none⟩ (.int .i64 a')) B k a' b:=by
 obtain ⟨h1,h2,h3,h4,h5,h6,h7⟩:=h;refine ⟨by simpa using h1,?_,?_,?_,?_,?_,?_⟩<;>simp [go_sem,h2,h3,h4,h5,h6,h7]
theorem Vl.set2 {w:World} {B:Nat} {k a b:Int} (h:Vl w B k a b) (b':Int):Vl (w.setCell ⟨B,2,none⟩ (.int .i64 b')) B k a b':=by
 obtain ⟨h1,h2,h3,h4,h5,h6,h7⟩:=h;refine ⟨by simpa using h1,?_,?_,?_,?_,?_,?_⟩<;>simp [go_sem,h2,h3,h4,h5,h6,h7]
abbrev fV (B:Nat) (k a b:Int):Fct:=⟨fun w=>Vl w B k a b,fun _ _ h hb=>h.keep hb⟩
abbrev fR (A:Option Addr) (c:Nat) (l:List Int):Fct:=⟨fun w=>Rd w A c l,fun _ _ h hb=>h.keep hb⟩
theorem Sx.newV {w0 w w':World} {L:List Fct} (h:Sx w0 w L) {k a b:Int} (hb:Below (w.alloc (.cells #[.int .u8 k,.int .i64 a,.int .i64 b] 139)).heap.size (w.alloc (.cells #[.int .u8 k,.int .i64 a,.int .i64 b] 139)) w'):Sx w0 w' (fV w.heap.size k a b::L):=
 ((h.mk1 _).add (fV w.heap.size k a b) (Vl.new w k a b)).call hb
theorem Sx.mkV {w0 w:World} {L:List Fct} (h:Sx w0 w L) (k a b:Int):Sx w0 (w.alloc (.cells #[.int .u8 k,.int .i64 a,.int .i64 b] 139)) (fV w.heap.size k a b::L):=h.newV (Below.refl _ _)
def P2 (w:World) (B:Nat) (x y:Int):Prop:=B<w.heap.size∧w.cell? ⟨B,0,none⟩=some (.int .i64 x)∧w.cell? ⟨B,1,none⟩=some (.int .i64 y)∧w.frozen? ⟨B,0,none⟩=false∧w.frozen? ⟨B,1,none⟩=false
theorem P2.keep {w w':World} {B:Nat} {x y:Int} (h:P2 w B x y) (hb:Below w.heap.size w w'):P2 w' B x y:=by
 obtain ⟨h1,h2,h3,h4,h5⟩:=h;obtain ⟨hc,hf⟩:=bcell hb;exact ⟨Nat.lt_of_lt_of_le h1 hb.size,(hc _ _ h1).trans h2,(hc _ _ h1).trans h3,(hf _ _ h1).trans h4,(hf _ _ h1).trans h5⟩
theorem P2.new (w:World) (x y:Int) (t:Nat):P2 (w.alloc (.cells #[.int .i64 x,.int .i64 y] t)) w.heap.size x y:=by
 refine ⟨by simp,?_,?_,?_,?_⟩<;>simp [go_sem]
theorem P2.other {w:World} {B:Nat} {x y:Int} (h:P2 w B x y) {p:Addr} (hp:p.block≠B) (v:Value):P2 (w.setCell p v) B x y:=by
 obtain ⟨h1,h2,h3,h4,h5⟩:=h;have ne:∀i,p≠(⟨B,i,none⟩:Addr):=fun i e=>hp (by rw [e]);refine ⟨by simpa using h1,?_,?_,?_,?_⟩
 ·rw [World.cell?_setCell_other _ _ _ _ (ne 0)];exact h2
 ·rw [World.cell?_setCell_other _ _ _ _ (ne 1)];exact h3
 ·simpa using h4
 ·simpa using h5
abbrev fP (B:Nat) (x y:Int):Fct:=⟨fun w=>P2 w B x y,fun _ _ h hb=>h.keep hb⟩
theorem Sx.mkP {w0 w:World} {L:List Fct} (h:Sx w0 w L) (x y:Int) (t:Nat):Sx w0 (w.alloc (.cells #[.int .i64 x,.int .i64 y] t)) (fP w.heap.size x y::L):=(h.mk1 _).add (fP w.heap.size x y) (P2.new w x y t)
theorem Hsx.call {w0 w1 w2:World} {L:List Fct} (hb:Below w1.heap.size w1 w2) (h:Hid (Sx w0 w1 L)):Hid (Sx w0 w2 L):=zhy (h.out.call hb)
theorem Sx.drewN {w0 w:World} {L:List Fct} (h:Sx w0 w L) (q:Nat):Sx w0 (w.drewN q) L:=
 h.call (below_draws (Below.refl _ _) q)
theorem Hsx.drew {w0 w1:World} {L:List Fct} (h:Hid (Sx w0 w1 L)):Hid (Sx w0 w1.drew L):=zhy (h.out.drewN 1)
theorem vals2 {w0 w:World} {L:List Fct} {B C:Nat} {k a b m c d:Int} (h:Hid (Sx w0 w (fV B k a b::fV C m c d::L))) :
  w.cell? ⟨B,0,none⟩=some (.int .u8 k)∧w.cell? ⟨B,1,none⟩=some (.int .i64 a)∧w.cell? ⟨B,2,none⟩=some (.int .i64 b)∧w.cell? ⟨C,0,none⟩=some (.int .u8 m)∧w.cell? ⟨C,1,none⟩=some (.int .i64 c)∧w.cell? ⟨C,2,none⟩=some (.int .i64 d)∧Hid (Sx w0 w (fV B k a b::fV C m c d::L)):=by
 obtain ⟨_,h1,h2,_⟩:=h.out
 exact ⟨h1.2.1,h1.2.2.1,h1.2.2.2.1,h2.2.1,h2.2.2.1,h2.2.2.2.1,h⟩
theorem vals2_on {w0 w1 w2:World} {L:List Fct} {B C:Nat} {k a b m c d:Int} (hb:Below w1.heap.size w1 w2)
  (h:w1.cell? ⟨B,0,none⟩=some (.int .u8 k)∧w1.cell? ⟨B,1,none⟩=some (.int .i64 a)∧w1.cell? ⟨B,2,none⟩=some (.int .i64 b)∧w1.cell? ⟨C,0,none⟩=some (.int .u8 m)∧w1.cell? ⟨C,1,none⟩=some (.int .i64 c)∧w1.cell? ⟨C,2,none⟩=some (.int .i64 d)∧Hid (Sx w0 w1 (fV B k a b::fV C m c d::L))) :
  w2.cell? ⟨B,0,none⟩=some (.int .u8 k)∧w2.cell? ⟨B,1,none⟩=some (.int .i64 a)∧w2.cell? ⟨B,2,none⟩=some (.int .i64 b)∧w2.cell? ⟨C,0,none⟩=some (.int .u8 m)∧w2.cell? ⟨C,1,none⟩=some (.int .i64 c)∧w2.cell? ⟨C,2,none⟩=some (.int .i64 d)∧Hid (Sx w0 w2 (fV B k a b::fV C m c d::L)):=vals2 (Hsx.call hb h.2.2.2.2.2.2)
theorem vals2_st {w0 w:World} {L:List Fct} {B C:Nat} {k a b m c d:Int}
  (h:w.cell? ⟨B,0,none⟩=some (.int .u8 k)∧w.cell? ⟨B,1,none⟩=some (.int .i64 a)∧w.cell? ⟨B,2,none⟩=some (.int .i64 b)∧w.cell? ⟨C,0,none⟩=some (.int .u8 m)∧w.cell? ⟨C,1,none⟩=some (.int .i64 c)∧w.cell? ⟨C,2,none⟩=some (.int .i64 d)∧Hid (Sx w0 w (fV B k a b::fV C m c d::L))):Hid (Sx w0 w (fV B k a b::fV C m c d::L)):=h.2.2.2.2.2.2
theorem eq_val (d:Nat) (k a b k' a' b':Int) (v:Bool) (h:(k==k'&&a==a'&&b==b')=v) (w:World):(Op.equalIn (d+1+1) 139 (.agg #[.int .u8 k,.int .i64 a,.int .i64 b]) (.agg #[.int .u8 k',.int .i64 a',.int .i64 b'])).run Tryz.prog w=.ok v w:=by
 have hS:Tryz.prog.underlying 139=some (.struct (Tryz.prog.fieldsOf 139)):=by kernel_rfl
 have hp:Tryz.prog.stoodInHeld 139=false:=by kernel_rfl
 have u1:=Tryz.underlying5;have u2:=Tryz.underlying2;have h0:∀u v t:Value,(part 5 #[u,v,t] 0).run Tryz.prog w=.ok u w:=fun u v t=>by kernel_rfl
 have h1:∀u v t:Value,(part 2 #[u,v,t] 1).run Tryz.prog w=.ok v w:=fun u v t=>by kernel_rfl
 have h2:∀u v t:Value,(part 2 #[u,v,t] 2).run Tryz.prog w=.ok t w:=fun u v t=>by kernel_rfl
 rw [run_equalIn_agg w (d+1) 139 _ _ hS hp];simp only [Program.fieldsOf,Tryz.underlying139];subst h;go_simp;by_cases e1:k=k'<;>by_cases e2:a=a'<;>by_cases e3:b=b'<;>simp [e1,e2,e3]
def mayB (k a b:Int):Bool:=(k==1&&b==0)||(k==2&&okB a b)
theorem int_any (n:Int) (w:World):Calls Tryz.prog 205 #[.int .i64 n] w fun e w'=>e=.returned (.agg #[.int .u8 1,.int .i64 n,.int .i64 0])∧Below w.heap.size w w':=by
 go_enter Tryz.func205,Tryz.ntmps205;go_wp2_with fail;refine bodyPost_ret (v:=.agg #[.int .u8 1,.int .i64 n,.int .i64 0]) (by simp [results,Tryz.results205,go_sem]) rfl ⟨rfl,new1⟩
theorem vpair_t (a b:Int) (w:World) (h:okB a b=true):Calls Tryz.prog 204 #[.int .i64 a,.int .i64 b] w fun e w'=>e=.returned (.tuple #[.agg #[.int .u8 2,.int .i64 a,.int .i64 b],.bool true])∧Below w.heap.size w w':=by
 have H:=zhy h;clear h;go_enter Tryz.func204,Tryz.ntmps204;go_wp2_with fail;refine (may_v _ _ _ _ H.out).mono ?_;rintro e w1 ⟨rfl,hb1⟩;obtain ⟨hc,hf⟩:=bcell hb1;go_wp2_with fail;exact bodyPost_ret (v:=.tuple #[.agg #[.int .u8 2,.int .i64 a,.int .i64 b],.bool true]) (by simp [results,Tryz.results204,go_sem,hc]) rfl ⟨rfl,(below_set2 (below1 hb1) (by simp) (by simp) _ _).setCell (by simp) _⟩
theorem vpair_f (a b:Int) (w:World) (h:okB a b=false):Calls Tryz.prog 204 #[.int .i64 a,.int .i64 b] w fun e w'=>e=.returned (.tuple #[.agg #[.int .u8 0,.int .i64 0,.int .i64 0],.bool false])∧Below w.heap.size w w':=by
 have H:=zhy h;clear h;go_enter Tryz.func204,Tryz.ntmps204;go_wp2_with fail;refine (may_v _ _ _ _ H.out).mono ?_;rintro e w1 ⟨rfl,hb1⟩;obtain ⟨hc,hf⟩:=bcell hb1;go_wp2_with fail;exact bodyPost_ret (v:=.tuple #[.agg #[.int .u8 0,.int .i64 0,.int .i64 0],.bool false]) (by simp [results,Tryz.results204,go_sem,hc]) rfl ⟨rfl,(below_set2 (below1 hb1) (by simp) (by simp) _ _).setCell (by simp) _⟩
theorem vmay_1t (a:Int) (w:World) (hg:okB a 0=true):Calls Tryz.prog 168 #[.agg #[.int .u8 1,.int .i64 a,.int .i64 0]] w fun e w'=>e=.returned (.bool true)∧Below w.heap.size w w':=by
 have G:=zhy hg;clear hg;have q1:=eq_val 9998 1 a 0 1 a 0 true (by simp);go_enter Tryz.func168,Tryz.ntmps168;go_wp2_with fail;refine (vpair_t _ _ _ G.out).mono ?_;rintro e w1 ⟨rfl,hb1⟩;have S1:=zhy ((Sx.start w).newV hb1);clear hb1;go_upto_region 2 with (fail);have S2:=zhy (S1.out.mkV 2 a 0);clear S1;generalize w1.alloc (.cells #[.int .u8 2,.int .i64 a,.int .i64 0] 139)=w2 at *;refine wp_region_held_drew (S:=fun w'=>w'.cell? ⟨w1.heap.size,0,none⟩=some (.int .u8 2)∧w'.cell? ⟨w1.heap.size,1,none⟩=some (.int .i64 a)∧w'.cell? ⟨w1.heap.size,2,none⟩=some (.int .i64 0)∧w'.cell? ⟨w.heap.size,0,none⟩=some (.int .u8 1)∧w'.cell? ⟨w.heap.size,1,none⟩=some (.int .i64 a)∧w'.cell? ⟨w.heap.size,2,none⟩=some (.int .i64 0)∧Hid (Sx w w' [fV w1.heap.size 2 a 0,fV w.heap.size 1 a 0])) (by kernel_rfl) (vals2 (Hsx.drew S2)) (fun hHeld=>?_);refine zq 0 (hy:=fun w hSw=>by (try dsimp only at hSw);obtain ⟨s1,s2,s3,s4,s5,s6,s7⟩:=hSw;go_simp;try with_reducible rfl) (h:=?_);refine zq 1 (hy:=fun w hSw=>by (try dsimp only at hSw);obtain ⟨s1,s2,s3,s4,s5,s6,s7⟩:=hSw;go_simp;try with_reducible rfl) (h:=?_);refine zq 2 (hy:=fun w hSw=>by (try dsimp only at hSw);obtain ⟨s1,s2,s3,s4,s5,s6,s7⟩:=hSw;go_simp;try with_reducible rfl) (h:=?_);refine wpAnyH_ready (rs:=[3]) (by kernel_rfl) (by simp) ?_;refine AllReadyH.cons rfl (fun K hK=>?_) AllReadyH.nil;go_simp;refine (int_any a _).mono ?_;rintro e w' ⟨rfl,hb⟩;go_wp2_with fail;refine hK.out _ _ (vals2_on hb hHeld) (fun hHeld=>?_);clear hK K;refine zq 4 (hy:=fun w hSw=>by (try dsimp only at hSw);obtain ⟨s1,s2,s3,s4,s5,s6,s7⟩:=hSw;go_simp;try with_reducible rfl) (h:=?_);refine zq 5 (hy:=fun w hSw=>by (try dsimp only at hSw);obtain ⟨s1,s2,s3,s4,s5,s6,s7⟩:=hSw;go_simp;try with_reducible rfl) (h:=?_);refine ztk (i:=6) (v:=undef) rfl (by kernel_rfl) (fun _ _ _ h=>h) (Or.inr ⟨by rfl,rfl⟩) (by assumption) ?_;(try simp only [Act.put,zg1,zg2,zg3,zg4,zg5,zg6]);refine ztk (i:=7) (v:=undef) rfl (by kernel_rfl) (fun _ _ _ h=>h) (Or.inr ⟨by rfl,rfl⟩) (by assumption) ?_;(try simp only [Act.put,zg1,zg2,zg3,zg4,zg5,zg6]);refine ztk (i:=8) (v:=undef) rfl (by kernel_rfl) (fun _ _ _ h=>h) (Or.inr ⟨by rfl,rfl⟩) (by assumption) ?_;(try simp only [Act.put,zg1,zg2,zg3,zg4,zg5,zg6]);refine ztk (i:=9) (v:=undef) rfl (by kernel_rfl) (fun _ _ _ h=>h) (Or.inr ⟨by rfl,rfl⟩) (by assumption) ?_;(try simp only [Act.put,zg1,zg2,zg3,zg4,zg5,zg6]);refine ztk (i:=10) (v:=undef) rfl (by kernel_rfl) (fun _ _ _ h=>h) (Or.inr ⟨by rfl,rfl⟩) (by assumption) ?_;(try simp only [Act.put,zg1,zg2,zg3,zg4,zg5,zg6]);refine ztk (i:=11) (v:=undef) rfl (by kernel_rfl) (fun _ _ _ h=>h) (Or.inr ⟨by rfl,rfl⟩) (by assumption) ?_;(try simp only [Act.put,zg1,zg2,zg3,zg4,zg5,zg6]);refine zq 12 (hy:=fun w hSw=>by (try dsimp only at hSw);obtain ⟨s1,s2,s3,s4,s5,s6,s7⟩:=hSw;go_simp;try with_reducible rfl) (h:=?_);refine zq 13 (hy:=fun w hSw=>by (try dsimp only at hSw);obtain ⟨s1,s2,s3,s4,s5,s6,s7⟩:=hSw;go_simp;try with_reducible rfl) (h:=?_);refine wpAnyH_done (by kernel_rfl) ?_ _;have HS:=vals2_st hHeld;clear hHeld;go_wp2_with fail;go_ret;exact ⟨rfl,HS.out.1⟩
theorem vmay_1f (a:Int) (w:World) (hg:okB a 0=false):Calls Tryz.prog 168 #[.agg #[.int .u8 1,.int .i64 a,.int .i64 0]] w fun e w'=>e=.returned (.bool true)∧Below w.heap.size w w':=by
 have G:=zhy hg;clear hg;have q1:=eq_val 9998 1 a 0 1 a 0 true (by simp);go_enter Tryz.func168,Tryz.ntmps168;go_wp2_with fail;refine (vpair_f _ _ _ G.out).mono ?_;rintro e w1 ⟨rfl,hb1⟩;have S1:=zhy ((Sx.start w).newV hb1);clear hb1;go_upto_region 2 with (fail);have S2:=zhy (S1.out.mkV 0 0 0);clear S1;generalize w1.alloc (.cells #[.int .u8 0,.int .i64 0,.int .i64 0] 139)=w2 at *;refine wp_region_held_drew (S:=fun w'=>w'.cell? ⟨w1.heap.size,0,none⟩=some (.int .u8 0)∧w'.cell? ⟨w1.heap.size,1,none⟩=some (.int .i64 0)∧w'.cell? ⟨w1.heap.size,2,none⟩=some (.int .i64 0)∧w'.cell? ⟨w.heap.size,0,none⟩=some (.int .u8 1)∧w'.cell? ⟨w.heap.size,1,none⟩=some (.int .i64 a)∧w'.cell? ⟨w.heap.size,2,none⟩=some (.int .i64 0)∧Hid (Sx w w' [fV w1.heap.size 0 0 0,fV w.heap.size 1 a 0])) (by kernel_rfl) (vals2 (Hsx.drew S2)) (fun hHeld=>?_);refine zq 0 (hy:=fun w hSw=>by (try dsimp only at hSw);obtain ⟨s1,s2,s3,s4,s5,s6,s7⟩:=hSw;go_simp;try with_reducible rfl) (h:=?_);refine zq 1 (hy:=fun w hSw=>by (try dsimp only at hSw);obtain ⟨s1,s2,s3,s4,s5,s6,s7⟩:=hSw;go_simp;try with_reducible rfl) (h:=?_);refine zq 2 (hy:=fun w hSw=>by (try dsimp only at hSw);obtain ⟨s1,s2,s3,s4,s5,s6,s7⟩:=hSw;go_simp;try with_reducible rfl) (h:=?_);refine wpAnyH_ready (rs:=[3]) (by kernel_rfl) (by simp) ?_;refine AllReadyH.cons rfl (fun K hK=>?_) AllReadyH.nil;go_simp;refine (int_any a _).mono ?_;rintro e w' ⟨rfl,hb⟩;go_wp2_with fail;refine hK.out _ _ (vals2_on hb hHeld) (fun hHeld=>?_);clear hK K;refine zq 4 (hy:=fun w hSw=>by (try dsimp only at hSw);obtain ⟨s1,s2,s3,s4,s5,s6,s7⟩:=hSw;go_simp;try with_reducible rfl) (h:=?_);refine zq 5 (hy:=fun w hSw=>by (try dsimp only at hSw);obtain ⟨s1,s2,s3,s4,s5,s6,s7⟩:=hSw;go_simp;try with_reducible rfl) (h:=?_);refine ztk (i:=6) (v:=undef) rfl (by kernel_rfl) (fun _ _ _ h=>h) (Or.inr ⟨by rfl,rfl⟩) (by assumption) ?_;(try simp only [Act.put,zg1,zg2,zg3,zg4,zg5,zg6]);refine ztk (i:=7) (v:=undef) rfl (by kernel_rfl) (fun _ _ _ h=>h) (Or.inr ⟨by rfl,rfl⟩) (by assumption) ?_;(try simp only [Act.put,zg1,zg2,zg3,zg4,zg5,zg6]);refine ztk (i:=8) (v:=undef) rfl (by kernel_rfl) (fun _ _ _ h=>h) (Or.inr ⟨by rfl,rfl⟩) (by assumption) ?_;(try simp only [Act.put,zg1,zg2,zg3,zg4,zg5,zg6]);refine ztk (i:=9) (v:=undef) rfl (by kernel_rfl) (fun _ _ _ h=>h) (Or.inr ⟨by rfl,rfl⟩) (by assumption) ?_;(try simp only [Act.put,zg1,zg2,zg3,zg4,zg5,zg6]);refine ztk (i:=10) (v:=undef) rfl (by kernel_rfl) (fun _ _ _ h=>h) (Or.inr ⟨by rfl,rfl⟩) (by assumption) ?_;(try simp only [Act.put,zg1,zg2,zg3,zg4,zg5,zg6]);refine ztk (i:=11) (v:=undef) rfl (by kernel_rfl) (fun _ _ _ h=>h) (Or.inr ⟨by rfl,rfl⟩) (by assumption) ?_;(try simp only [Act.put,zg1,zg2,zg3,zg4,zg5,zg6]);refine zq 12 (hy:=fun w hSw=>by (try dsimp only at hSw);obtain ⟨s1,s2,s3,s4,s5,s6,s7⟩:=hSw;go_simp;try with_reducible rfl) (h:=?_);refine zq 13 (hy:=fun w hSw=>by (try dsimp only at hSw);obtain ⟨s1,s2,s3,s4,s5,s6,s7⟩:=hSw;go_simp;try with_reducible rfl) (h:=?_);refine wpAnyH_done (by kernel_rfl) ?_ _;have HS:=vals2_st hHeld;clear hHeld;go_wp2_with fail;go_ret;exact ⟨rfl,HS.out.1⟩
theorem vmay_2t (a b:Int) (w:World) (hg:okB a b=true):Calls Tryz.prog 168 #[.agg #[.int .u8 2,.int .i64 a,.int .i64 b]] w fun e w'=>e=.returned (.bool true)∧Below w.heap.size w w':=by
 have G:=zhy hg;clear hg;have q1:=eq_val 9998 2 a b 1 a 0 false (by simp);have q2:=eq_val 9998 2 a b 2 a b true (by simp);go_enter Tryz.func168,Tryz.ntmps168;go_wp2_with fail;refine (vpair_t _ _ _ G.out).mono ?_;rintro e w1 ⟨rfl,hb1⟩;have S1:=zhy ((Sx.start w).newV hb1);clear hb1;go_upto_region 2 with (fail);have S2:=zhy (S1.out.mkV 2 a b);clear S1;generalize w1.alloc (.cells #[.int .u8 2,.int .i64 a,.int .i64 b] 139)=w2 at *;refine wp_region_held_drew (S:=fun w'=>w'.cell? ⟨w1.heap.size,0,none⟩=some (.int .u8 2)∧w'.cell? ⟨w1.heap.size,1,none⟩=some (.int .i64 a)∧w'.cell? ⟨w1.heap.size,2,none⟩=some (.int .i64 b)∧w'.cell? ⟨w.heap.size,0,none⟩=some (.int .u8 2)∧w'.cell? ⟨w.heap.size,1,none⟩=some (.int .i64 a)∧w'.cell? ⟨w.heap.size,2,none⟩=some (.int .i64 b)∧Hid (Sx w w' [fV w1.heap.size 2 a b,fV w.heap.size 2 a b])) (by kernel_rfl) (vals2 (Hsx.drew S2)) (fun hHeld=>?_);refine zq 0 (hy:=fun w hSw=>by (try dsimp only at hSw);obtain ⟨s1,s2,s3,s4,s5,s6,s7⟩:=hSw;go_simp;try with_reducible rfl) (h:=?_);refine zq 1 (hy:=fun w hSw=>by (try dsimp only at hSw);obtain ⟨s1,s2,s3,s4,s5,s6,s7⟩:=hSw;go_simp;try with_reducible rfl) (h:=?_);refine zq 2 (hy:=fun w hSw=>by (try dsimp only at hSw);obtain ⟨s1,s2,s3,s4,s5,s6,s7⟩:=hSw;go_simp;try with_reducible rfl) (h:=?_);refine wpAnyH_ready (rs:=[3]) (by kernel_rfl) (by simp) ?_;refine AllReadyH.cons rfl (fun K hK=>?_) AllReadyH.nil;go_simp;refine (int_any a _).mono ?_;rintro e w' ⟨rfl,hb⟩;go_wp2_with fail;refine hK.out _ _ (vals2_on hb hHeld) (fun hHeld=>?_);clear hK K;refine zq 4 (hy:=fun w hSw=>by (try dsimp only at hSw);obtain ⟨s1,s2,s3,s4,s5,s6,s7⟩:=hSw;go_simp;try with_reducible rfl) (h:=?_);refine zq 5 (hy:=fun w hSw=>by (try dsimp only at hSw);obtain ⟨s1,s2,s3,s4,s5,s6,s7⟩:=hSw;go_simp;try with_reducible rfl) (h:=?_);refine zq 6 (hy:=fun w hSw=>by (try dsimp only at hSw);obtain ⟨s1,s2,s3,s4,s5,s6,s7⟩:=hSw;go_simp;try with_reducible rfl) (h:=?_);refine zq 7 (hy:=fun w hSw=>by (try dsimp only at hSw);obtain ⟨s1,s2,s3,s4,s5,s6,s7⟩:=hSw;go_simp;try with_reducible rfl) (h:=?_);refine zq 8 (hy:=fun w hSw=>by (try dsimp only at hSw);obtain ⟨s1,s2,s3,s4,s5,s6,s7⟩:=hSw;go_simp;try with_reducible rfl) (h:=?_);refine zq 9 (hy:=fun w hSw=>by (try dsimp only at hSw);obtain ⟨s1,s2,s3,s4,s5,s6,s7⟩:=hSw;go_simp;try with_reducible rfl) (h:=?_);refine zq 10 (hy:=fun w hSw=>by (try dsimp only at hSw);obtain ⟨s1,s2,s3,s4,s5,s6,s7⟩:=hSw;go_simp;try with_reducible rfl) (h:=?_);refine zq 11 (hy:=fun w hSw=>by (try dsimp only at hSw);obtain ⟨s1,s2,s3,s4,s5,s6,s7⟩:=hSw;go_simp;try with_reducible rfl) (h:=?_);refine zq 12 (hy:=fun w hSw=>by (try dsimp only at hSw);obtain ⟨s1,s2,s3,s4,s5,s6,s7⟩:=hSw;go_simp;try with_reducible rfl) (h:=?_);refine zq 13 (hy:=fun w hSw=>by (try dsimp only at hSw);obtain ⟨s1,s2,s3,s4,s5,s6,s7⟩:=hSw;go_simp;try with_reducible rfl) (h:=?_);refine wpAnyH_done (by kernel_rfl) ?_ _;have HS:=vals2_st hHeld;clear hHeld;go_wp2_with fail;go_ret;exact ⟨rfl,HS.out.1⟩
theorem vmay_nt (k a b:Int) (w:World) (hg:okB a b=true) (h1:(k==1&&b==0)=false) (h2:(k==2)=false):Calls Tryz.prog 168 #[.agg #[.int .u8 k,.int .i64 a,.int .i64 b]] w fun e w'=>e=.returned (.bool false)∧Below w.heap.size w w':=by
 have G:=zhy hg;clear hg;have q1:=eq_val 9998 k a b 1 a 0 false (by rw [←h1];simp);have q2:=eq_val 9998 k a b 2 a b false (by rw [h2];simp);clear h1 h2;go_enter Tryz.func168,Tryz.ntmps168;go_wp2_with fail;refine (vpair_t _ _ _ G.out).mono ?_;rintro e w1 ⟨rfl,hb1⟩;have S1:=zhy ((Sx.start w).newV hb1);clear hb1;go_upto_region 2 with (fail);have S2:=zhy (S1.out.mkV 2 a b);clear S1;generalize w1.alloc (.cells #[.int .u8 2,.int .i64 a,.int .i64 b] 139)=w2 at *;refine wp_region_held_drew (S:=fun w'=>w'.cell? ⟨w1.heap.size,0,none⟩=some (.int .u8 2)∧w'.cell? ⟨w1.heap.size,1,none⟩=some (.int .i64 a)∧w'.cell? ⟨w1.heap.size,2,none⟩=some (.int .i64 b)∧w'.cell? ⟨w.heap.size,0,none⟩=some (.int .u8 k)∧w'.cell? ⟨w.heap.size,1,none⟩=some (.int .i64 a)∧w'.cell? ⟨w.heap.size,2,none⟩=some (.int .i64 b)∧Hid (Sx w w' [fV w1.heap.size 2 a b,fV w.heap.size k a b])) (by kernel_rfl) (vals2 (Hsx.drew S2)) (fun hHeld=>?_);refine zq 0 (hy:=fun w hSw=>by (try dsimp only at hSw);obtain ⟨s1,s2,s3,s4,s5,s6,s7⟩:=hSw;go_simp;try with_reducible rfl) (h:=?_);refine zq 1 (hy:=fun w hSw=>by (try dsimp only at hSw);obtain ⟨s1,s2,s3,s4,s5,s6,s7⟩:=hSw;go_simp;try with_reducible rfl) (h:=?_);refine zq 2 (hy:=fun w hSw=>by (try dsimp only at hSw);obtain ⟨s1,s2,s3,s4,s5,s6,s7⟩:=hSw;go_simp;try with_reducible rfl) (h:=?_);refine wpAnyH_ready (rs:=[3]) (by kernel_rfl) (by simp) ?_;refine AllReadyH.cons rfl (fun K hK=>?_) AllReadyH.nil;go_simp;refine (int_any a _).mono ?_;rintro e w' ⟨rfl,hb⟩;go_wp2_with fail;refine hK.out _ _ (vals2_on hb hHeld) (fun hHeld=>?_);clear hK K;refine zq 4 (hy:=fun w hSw=>by (try dsimp only at hSw);obtain ⟨s1,s2,s3,s4,s5,s6,s7⟩:=hSw;go_simp;try with_reducible rfl) (h:=?_);refine zq 5 (hy:=fun w hSw=>by (try dsimp only at hSw);obtain ⟨s1,s2,s3,s4,s5,s6,s7⟩:=hSw;go_simp;try with_reducible rfl) (h:=?_);refine zq 6 (hy:=fun w hSw=>by (try dsimp only at hSw);obtain ⟨s1,s2,s3,s4,s5,s6,s7⟩:=hSw;go_simp;try with_reducible rfl) (h:=?_);refine zq 7 (hy:=fun w hSw=>by (try dsimp only at hSw);obtain ⟨s1,s2,s3,s4,s5,s6,s7⟩:=hSw;go_simp;try with_reducible rfl) (h:=?_);refine zq 8 (hy:=fun w hSw=>by (try dsimp only at hSw);obtain ⟨s1,s2,s3,s4,s5,s6,s7⟩:=hSw;go_simp;try with_reducible rfl) (h:=?_);refine zq 9 (hy:=fun w hSw=>by (try dsimp only at hSw);obtain ⟨s1,s2,s3,s4,s5,s6,s7⟩:=hSw;go_simp;try with_reducible rfl) (h:=?_);refine zq 10 (hy:=fun w hSw=>by (try dsimp only at hSw);obtain ⟨s1,s2,s3,s4,s5,s6,s7⟩:=hSw;go_simp;try with_reducible rfl) (h:=?_);refine zq 11 (hy:=fun w hSw=>by (try dsimp only at hSw);obtain ⟨s1,s2,s3,s4,s5,s6,s7⟩:=hSw;go_simp;try with_reducible rfl) (h:=?_);refine zq 12 (hy:=fun w hSw=>by (try dsimp only at hSw);obtain ⟨s1,s2,s3,s4,s5,s6,s7⟩:=hSw;go_simp;try with_reducible rfl) (h:=?_);refine zq 13 (hy:=fun w hSw=>by (try dsimp only at hSw);obtain ⟨s1,s2,s3,s4,s5,s6,s7⟩:=hSw;go_simp;try with_reducible rfl) (h:=?_);refine wpAnyH_done (by kernel_rfl) ?_ _;have HS:=vals2_st hHeld;clear hHeld;go_wp2_with fail;go_ret;exact ⟨rfl,HS.out.1⟩
theorem vmay_nf (k a b:Int) (w:World) (hg:okB a b=false) (h1:(k==1&&b==0)=false):Calls Tryz.prog 168 #[.agg #[.int .u8 k,.int .i64 a,.int .i64 b]] w fun e w'=>e=.returned (.bool false)∧Below w.heap.size w w':=by
 have G:=zhy hg;clear hg;have q1:=eq_val 9998 k a b 1 a 0 false (by rw [←h1];simp);clear h1;go_enter Tryz.func168,Tryz.ntmps168;go_wp2_with fail;refine (vpair_f _ _ _ G.out).mono ?_;rintro e w1 ⟨rfl,hb1⟩;have S1:=zhy ((Sx.start w).newV hb1);clear hb1;go_upto_region 2 with (fail);have S2:=zhy (S1.out.mkV 0 0 0);clear S1;generalize w1.alloc (.cells #[.int .u8 0,.int .i64 0,.int .i64 0] 139)=w2 at *;refine wp_region_held_drew (S:=fun w'=>w'.cell? ⟨w1.heap.size,0,none⟩=some (.int .u8 0)∧w'.cell? ⟨w1.heap.size,1,none⟩=some (.int .i64 0)∧w'.cell? ⟨w1.heap.size,2,none⟩=some (.int .i64 0)∧w'.cell? ⟨w.heap.size,0,none⟩=some (.int .u8 k)∧w'.cell? ⟨w.heap.size,1,none⟩=some (.int .i64 a)∧w'.cell? ⟨w.heap.size,2,none⟩=some (.int .i64 b)∧Hid (Sx w w' [fV w1.heap.size 0 0 0,fV w.heap.size k a b])) (by kernel_rfl) (vals2 (Hsx.drew S2)) (fun hHeld=>?_);refine zq 0 (hy:=fun w hSw=>by (try dsimp only at hSw);obtain ⟨s1,s2,s3,s4,s5,s6,s7⟩:=hSw;go_simp;try with_reducible rfl) (h:=?_);refine zq 1 (hy:=fun w hSw=>by (try dsimp only at hSw);obtain ⟨s1,s2,s3,s4,s5,s6,s7⟩:=hSw;go_simp;try with_reducible rfl) (h:=?_);refine zq 2 (hy:=fun w hSw=>by (try dsimp only at hSw);obtain ⟨s1,s2,s3,s4,s5,s6,s7⟩:=hSw;go_simp;try with_reducible rfl) (h:=?_);refine wpAnyH_ready (rs:=[3]) (by kernel_rfl) (by simp) ?_;refine AllReadyH.cons rfl (fun K hK=>?_) AllReadyH.nil;go_simp;refine (int_any a _).mono ?_;rintro e w' ⟨rfl,hb⟩;go_wp2_with fail;refine hK.out _ _ (vals2_on hb hHeld) (fun hHeld=>?_);clear hK K;refine zq 4 (hy:=fun w hSw=>by (try dsimp only at hSw);obtain ⟨s1,s2,s3,s4,s5,s6,s7⟩:=hSw;go_simp;try with_reducible rfl) (h:=?_);refine zq 5 (hy:=fun w hSw=>by (try dsimp only at hSw);obtain ⟨s1,s2,s3,s4,s5,s6,s7⟩:=hSw;go_simp;try with_reducible rfl) (h:=?_);refine zq 6 (hy:=fun w hSw=>by (try dsimp only at hSw);obtain ⟨s1,s2,s3,s4,s5,s6,s7⟩:=hSw;go_simp;try with_reducible rfl) (h:=?_);refine zq 7 (hy:=fun w hSw=>by (try dsimp only at hSw);obtain ⟨s1,s2,s3,s4,s5,s6,s7⟩:=hSw;go_simp;try with_reducible rfl) (h:=?_);refine ztk (i:=8) (v:=undef) rfl (by kernel_rfl) (fun _ _ _ h=>h) (Or.inr ⟨by rfl,rfl⟩) (by assumption) ?_;(try simp only [Act.put,zg1,zg2,zg3,zg4,zg5,zg6]);refine ztk (i:=9) (v:=undef) rfl (by kernel_rfl) (fun _ _ _ h=>h) (Or.inr ⟨by rfl,rfl⟩) (by assumption) ?_;(try simp only [Act.put,zg1,zg2,zg3,zg4,zg5,zg6]);refine ztk (i:=10) (v:=undef) rfl (by kernel_rfl) (fun _ _ _ h=>h) (Or.inr ⟨by rfl,rfl⟩) (by assumption) ?_;(try simp only [Act.put,zg1,zg2,zg3,zg4,zg5,zg6]);refine zq 11 (hy:=fun w hSw=>by (try dsimp only at hSw);obtain ⟨s1,s2,s3,s4,s5,s6,s7⟩:=hSw;go_simp;try with_reducible rfl) (h:=?_);refine zq 12 (hy:=fun w hSw=>by (try dsimp only at hSw);obtain ⟨s1,s2,s3,s4,s5,s6,s7⟩:=hSw;go_simp;try with_reducible rfl) (h:=?_);refine zq 13 (hy:=fun w hSw=>by (try dsimp only at hSw);obtain ⟨s1,s2,s3,s4,s5,s6,s7⟩:=hSw;go_simp;try with_reducible rfl) (h:=?_);refine wpAnyH_done (by kernel_rfl) ?_ _;have HS:=vals2_st hHeld;clear hHeld;go_wp2_with fail;go_ret;exact ⟨rfl,HS.out.1⟩
theorem vmay_v (k a b:Int) (v:Bool) (w:World) (h:mayB k a b=v):Calls Tryz.prog 168 #[.agg #[.int .u8 k,.int .i64 a,.int .i64 b]] w fun e w'=>e=.returned (.bool v)∧Below w.heap.size w w':=by
 subst h;by_cases h1:(k==1&&b==0)=true
 ·simp only [Bool.and_eq_true,beq_iff_eq] at h1;obtain ⟨rfl,rfl⟩:=h1;have e:mayB 1 a 0=true:=by simp [mayB]
  rw [e];cases hg:okB a 0 with
  | true=>exact vmay_1t a w hg
  | false=>exact vmay_1f a w hg
 ·rw [Bool.not_eq_true] at h1;have e:mayB k a b=(k==2&&okB a b):=by rw [mayB,h1,Bool.false_or]
  rw [e];cases hg:okB a b with
  | true =>
   by_cases h2:k=2
   ·subst h2;exact vmay_2t a b w hg
   ·have e2:(k==2)=false:=by simpa using h2
    rw [e2];exact vmay_nt k a b w hg h1 e2
  | false =>
   rw [Bool.and_false];exact vmay_nf k a b w hg h1
theorem okB_0:okB 0 0=true:=by decide
def GW (w:World):Prop:=w.cell? ⟨6,0,none⟩=some (.int .i64 0)∧w.cell? ⟨6,1,none⟩=some (.int .i64 0)∧w.cell? ⟨6,2,none⟩=some (.int .i64 8) ∧
 w.cell? ⟨6,3,none⟩=some (.int .i64 0)∧w.cell? ⟨6,4,none⟩=some (.int .i64 3)∧w.cell? ⟨6,5,none⟩=some (.int .i64 3)
theorem GW.keep {w w':World} (h:GW w) (hb:Below w.heap.size w w'):GW w':=by
 obtain ⟨h0,h1,h2,h3,h4,h5⟩:=h;exact ⟨(hb.cell (cell_lt h0)).trans h0,(hb.cell (cell_lt h1)).trans h1,(hb.cell (cell_lt h2)).trans h2,(hb.cell (cell_lt h3)).trans h3,(hb.cell (cell_lt h4)).trans h4,(hb.cell (cell_lt h5)).trans h5⟩
abbrev fG:Fct:=⟨GW,fun _ _ h hb=>h.keep hb⟩
theorem field_0 (n:Int) (w:World):Calls Tryz.prog 169 #[.int .i64 n,.int .i64 0] w fun e w'=>e=.returned (.slice none 0 0)∧w=w':=by
 go_enter Tryz.func169,Tryz.ntmps169;go_wp2_with fail;go_ret;exact ⟨rfl,rfl⟩
theorem field_8 (n : Int) (w : World) : Calls Tryz.prog 169 #[.int .i64 n, .int .i64 8] w fun e w' => e = .returned (.slice (some ⟨w.heap.size, 0, none⟩) 8 8) ∧
      w'.ownsRow w.heap.size 5 1 (.slice (some ⟨w.heap.size, 0, none⟩) 8 8) 8 (cel (digs n 8)) ∧ Below w.heap.size w w' := by
  go_enter Tryz.func169, Tryz.ntmps169
  go_wp2_with fail
  refine (signed_any _ _).mono ?_
  rintro e w1 ⟨rfl, ho1, hb1⟩
  go_wp2_with fail
  go_ret
  exact ⟨rfl, ho1, hb1⟩
theorem field_3 (n : Int) (w : World) (h1 : -1048576 ≤ n) (h2 : n ≤ 1048576) : Calls Tryz.prog 169 #[.int .i64 n, .int .i64 3] w fun e w' => ∃ A c, e = .returned (.slice A 3 c) ∧
      w'.ownsRow w.heap.size 5 1 (.slice A 3 c) 3 (cel (digs (n + 1048576) 3)) ∧ Below w.heap.size w w' := by
  have hp : p256 3 = 16777216 := by decide
  have HP : Hid (putE 3 (n + 1048576) = 0 ∧ putL 3 (n + 1048576) = digs (n + 1048576) 3) := put_yes (k := 3) (by omega) (by omega) (by omega) (by rw [hp]; omega)
  clear hp
  go_enter Tryz.func169, Tryz.ntmps169
  go_wp2_with fail
  refine (put_any 3 (n + 1048576) _).mono ?_
  rintro e w1 ⟨A, c, rfl, ho1, hb1⟩
  rw [HP.out.1, HP.out.2, length_digs]
  rw [HP.out.2, length_digs] at ho1
  go_wp2_with fail
  go_ret
  exact ⟨A, c, rfl, ho1, hb1⟩
theorem gf_0 (A:Option Addr) (c m:Nat) (p:Int) (w:World):Calls Tryz.prog 222 #[.slice A m c,.int .i64 p,.int .i64 0] w fun e w'=>e=.returned (.tuple #[.int .i64 0,.int .i64 p,.int .i64 0])∧w=w':=by
 go_enter Tryz.func222,Tryz.ntmps222;go_wp2_with fail;go_ret3;exact ⟨rfl,rfl⟩
theorem gf_8 (A:Option Addr) (c m:Nat) (l:List Int) (p x n e0:Int) (w:World) (hr:Rd w A c l) (hm:l.length=m) (h:sigV l p=x∧cutN l p 8=n∧cutE l p 8=e0):Calls Tryz.prog 222 #[.slice A m c,.int .i64 p,.int .i64 8] w fun e w'=>e=.returned (.tuple #[.int .i64 x,.int .i64 n,.int .i64 e0])∧Below w.heap.size w w':=by
 subst hm;have H:=zhy h;clear h;go_enter Tryz.func222,Tryz.ntmps222;go_wp2_with fail;refine (sig_any A c l p _ hr).mono ?_;rintro e w1 ⟨rfl,hb1⟩;rw [H.out.1,H.out.2.1,H.out.2.2];go_wp2_with fail;go_ret3;exact ⟨rfl,hb1⟩
theorem gf_3 (A:Option Addr) (c m:Nat) (l:List Int) (p x n e0:Int) (w:World) (hr:Rd w A c l) (hm:l.length=m) (h:getV l p 3=x∧getN l p 3=n∧getE l p 3=e0) (hx:0≤x∧x<16777216):Calls Tryz.prog 222 #[.slice A m c,.int .i64 p,.int .i64 3] w fun e w'=>e=.returned (.tuple #[.int .i64 (x-1048576),.int .i64 n,.int .i64 e0])∧Below w.heap.size w w':=by
 subst hm;obtain ⟨hx1,hx2⟩:=hx;have H:=zhy h;clear h;go_enter Tryz.func222,Tryz.ntmps222;go_wp2_with fail;refine (get_any A c l p 3 _ hr).mono ?_;rintro e w1 ⟨rfl,hb1⟩;rw [H.out.1,H.out.2.1,H.out.2.2];go_wp2_with fail;go_ret3;exact ⟨rfl,hb1⟩
def valB (k a b:Int):List Int:=if k=1 then 1::digs a 8 else 2::(digs (a+1048576) 3++digs (b+1048576) 3)
def bytE (k a b:Int):Int:=if mayB k a b then 0 else 30
def bytL (k a b:Int):List Int:=if mayB k a b then valB k a b else []
theorem vbytes_f (k a b:Int) (w:World) (h:mayB k a b=false):Calls Tryz.prog 107 #[.agg #[.int .u8 k,.int .i64 a,.int .i64 b]] w fun e w'=>e=.returned (.tuple #[.slice none 0 0,.int .i64 30])∧Below w.heap.size w w':=by
 have H:=zhy h;clear h;go_enter Tryz.func107,Tryz.ntmps107;go_wp2_with fail;refine (vmay_v _ _ _ _ _ H.out).mono ?_;rintro e w1 ⟨rfl,hb1⟩;go_wp2_with fail;go_ret2;exact ⟨rfl,below1 hb1⟩
set_option maxRecDepth 100000 in
theorem vbytes_1 (a : Int) (w : World) (hw : GW w) : Calls Tryz.prog 107 #[.agg #[.int .u8 1, .int .i64 a, .int .i64 0]] w fun e w' => ∃ A c, e = .returned (.tuple #[.slice A 9 c, .int .i64 0]) ∧
      w'.ownsRow w.heap.size 5 1 (.slice A 9 c) 9 (cel (1 :: digs a 8)) ∧ Below w.heap.size w w' := by
  obtain ⟨i0, hi, hz0, hz1, hz2⟩ := info_parts Tryz.info5
  have HM : Hid (mayB 1 a 0 = true) := by simp [Hid, mayB]
  have G := Lib.hid hw
  clear hw
  go_enter Tryz.func107, Tryz.ntmps107
  go_wp2_with fail
  refine (vmay_v _ _ _ _ _ HM.out).mono ?_
  rintro e w1 ⟨rfl, hb1⟩
  have S1 := Lib.hid (((Sx.start w).add fG G.out).newV hb1)
  clear hb1 HM
  obtain ⟨-, ⟨z1, z2, z3, z4, -⟩, ⟨g0, g1, g2, g3, g4, g5⟩, -⟩ := S1.out
  go_upto_region 4 with (fail)
  have S2 := Lib.hid (S1.out.mkP 8 0 250)
  clear z1 z2 z3 z4 g0 g1 g2 g3 g4 g5 S1 G
  generalize w1.alloc (.cells #[.int .i64 8, .int .i64 0] 250) = w2 at *
  refine wp_region_held_drew (S := fun w' => Hid (Below w2.heap.size w2 w')) (by kernel_rfl) (Lib.hid (below_draws (Below.refl _ _) 1)) (fun hHeld => ?_)
  refine wpAnyH_take (i := 0) (v := ?_) rfl (by kernel_rfl) (by kernel_rfl) (by kernel_rfl) (fun _ _ _ h => h) (Or.inl ⟨by rfl, ?_⟩) (by assumption) ?_
  rotate_left 1
  · intro w _; go_simp; try with_reducible rfl
  try simp only [Act.put, List.getElem_toArray, List.getElem_cons_zero, List.getElem_cons_succ, List.setIfInBounds_toArray, List.set_cons_zero, List.set_cons_succ]
  refine wpAnyH_take (i := 1) (v := ?_) rfl (by kernel_rfl) (by kernel_rfl) (by kernel_rfl) (fun _ _ _ h => h) (Or.inl ⟨by rfl, ?_⟩) (by assumption) ?_
  rotate_left 1
  · intro w hSw; (try dsimp only at hSw); obtain ⟨-, ⟨-, t1, t2, -⟩, ⟨-, s1, s2, s3, -⟩, -⟩ := S2.out.call hSw.out; go_simp; try with_reducible rfl
  try simp only [Act.put, List.getElem_toArray, List.getElem_cons_zero, List.getElem_cons_succ, List.setIfInBounds_toArray, List.set_cons_zero, List.set_cons_succ]
  refine wpAnyH_take (i := 3) (v := ?_) rfl (by kernel_rfl) (by kernel_rfl) (by kernel_rfl) (fun _ _ _ h => h) (Or.inl ⟨by rfl, ?_⟩) (by assumption) ?_
  rotate_left 1
  · intro w _; go_simp; try with_reducible rfl
  try simp only [Act.put, List.getElem_toArray, List.getElem_cons_zero, List.getElem_cons_succ, List.setIfInBounds_toArray, List.set_cons_zero, List.set_cons_succ]
  refine wpAnyH_take (i := 4) (v := ?_) rfl (by kernel_rfl) (by kernel_rfl) (by kernel_rfl) (fun _ _ _ h => h) (Or.inl ⟨by rfl, ?_⟩) (by assumption) ?_
  rotate_left 1
  · intro w hSw; (try dsimp only at hSw); obtain ⟨-, ⟨-, t1, t2, -⟩, ⟨-, s1, s2, s3, -⟩, -⟩ := S2.out.call hSw.out; go_simp; try with_reducible rfl
  try simp only [Act.put, List.getElem_toArray, List.getElem_cons_zero, List.getElem_cons_succ, List.setIfInBounds_toArray, List.set_cons_zero, List.set_cons_succ]
  refine wpAnyH_take (i := 5) (v := ?_) rfl (by kernel_rfl) (by kernel_rfl) (by kernel_rfl) (fun _ _ _ h => h) (Or.inl ⟨by rfl, ?_⟩) (by assumption) ?_
  rotate_left 1
  · intro w _; go_simp; try with_reducible rfl
  try simp only [Act.put, List.getElem_toArray, List.getElem_cons_zero, List.getElem_cons_succ, List.setIfInBounds_toArray, List.set_cons_zero, List.set_cons_succ]
  refine wpAnyH_take (i := 6) (v := ?_) rfl (by kernel_rfl) (by kernel_rfl) (by kernel_rfl) (fun _ _ _ h => h) (Or.inl ⟨by rfl, ?_⟩) (by assumption) ?_
  rotate_left 1
  · intro w hSw; (try dsimp only at hSw); obtain ⟨-, ⟨-, t1, t2, -⟩, ⟨-, s1, s2, s3, -⟩, -⟩ := S2.out.call hSw.out; go_simp; try with_reducible rfl
  try simp only [Act.put, List.getElem_toArray, List.getElem_cons_zero, List.getElem_cons_succ, List.setIfInBounds_toArray, List.set_cons_zero, List.set_cons_succ]
  refine wpAnyH_ready (rs := [2, 7]) (by kernel_rfl) (by simp) ?_
  refine AllReadyH.cons rfl (fun K hK => ?_) ?_
  · skip
    go_simp
    have O1 : Hid ((w2.drew.alloc (.cells #[.int .u8 1] 5)).ownsRow w2.heap.size 5 1 (.slice (some ⟨w2.heap.size, 0, none⟩) 1 1) 1 (cel [1])) := World.ownsRow_lit (base := w2.heap.size) (e := 5) (size := 1) w2.drew #[.int .u8 1] 1 (Nat.le_refl _) (by unfold maxLen; simp) (by simp)
    refine hK.out _ _ (Lib.hid (below_on hHeld.out new1)) (fun hHeld => ?_)
    clear hK K
    try simp only [Act.put, List.getElem_toArray, List.getElem_cons_zero, List.getElem_cons_succ, List.setIfInBounds_toArray, List.set_cons_zero, List.set_cons_succ]
    refine wpAnyH_ready (rs := [7]) (by kernel_rfl) (by simp) ?_
    refine AllReadyH.cons rfl (fun K hK => ?_) AllReadyH.nil
    go_simp
    refine (field_8 a _).mono ?_
    rintro e wb ⟨rfl, hob, hb⟩
    have R1 : Hid (Rd wb (some ⟨w2.heap.size + 1, 0, none⟩) 8 (digs a 8)) := by
      have := own_rd hob (byt_digs _ _)
      simpa [Hid] using this
    clear hob
    have O2 := Lib.hid (own_below O1.out hb (Nat.le_refl _))
    go_wp2_with fail
    refine hK.out _ _ (Lib.hid (below_on hHeld.out hb)) (fun hHeld => ?_)
    clear hK K
    try simp only [Act.put, List.getElem_toArray, List.getElem_cons_zero, List.getElem_cons_succ, List.setIfInBounds_toArray, List.set_cons_zero, List.set_cons_succ]
    refine wpAnyH_ready (rs := [8]) (by kernel_rfl) (by simp) ?_
    refine AllReadyH.cons rfl (fun K hK => ?_) AllReadyH.nil
    refine step_append_rd rfl (.tmp 15) (.tmp 20) 40 rfl w2.heap.size 5 i0 Tryz.underlying40 hi hz0 hz1 hz2 _ 1 [1] rfl O2.out _ 8 8 (digs a 8) rfl R1.out (length_digs _ _).symm (by omega) hHeld.out.size ?_
    intro A3 c3 w3 ho3 hb3
    have O3 := Lib.hid ho3
    clear ho3
    refine hK.out _ _ (Lib.hid (hHeld.out.trans hb3)) (fun hHeld => ?_)
    clear hK K
    try simp only [Act.put, List.getElem_toArray, List.getElem_cons_zero, List.getElem_cons_succ, List.setIfInBounds_toArray, List.set_cons_zero, List.set_cons_succ]
    refine wpAnyH_take (i := 9) (v := ?_) rfl (by kernel_rfl) (by kernel_rfl) (by kernel_rfl) (fun _ _ _ h => h) (Or.inl ⟨by rfl, ?_⟩) (by assumption) ?_
    rotate_left 1
    · intro w _; go_simp; try with_reducible rfl
    try simp only [Act.put, List.getElem_toArray, List.getElem_cons_zero, List.getElem_cons_succ, List.setIfInBounds_toArray, List.set_cons_zero, List.set_cons_succ]
    refine wpAnyH_done (by kernel_rfl) ?_ _
    obtain ⟨-, ⟨-, t1, t2, -⟩, ⟨-, s1, s2, s3, -⟩, -⟩ := S2.out.call hHeld.out
    go_wp2_with fail
    refine (field_0 0 _).mono ?_
    rintro e w4 ⟨rfl, rfl⟩
    go_wp2_with (at_builtin; refine wpList_append_rd _ rfl _ _ 40 rfl w2.heap.size 5 i0 Tryz.underlying40 hi hz0 hz1 hz2 _ 9 ([1] ++ digs a 8) rfl O3.out none 0 0 [] rfl (Rd.none_ _) rfl (by omega) hHeld.out.size ?_; intro A5 c5 w5 ho5 hg5 hb5 _)
    go_ret2
    exact ⟨A5, c5, rfl, own_base (by simpa using ho5) S2.out.1.size, below_on S2.out.1 (hHeld.out.trans hb5)⟩
  refine AllReadyH.cons rfl (fun K hK => ?_) AllReadyH.nil
  go_simp
  refine (field_8 a _).mono ?_
  rintro e wb ⟨rfl, hob, hb⟩
  have R1 := Lib.hid (own_rd hob (byt_digs _ _))
  clear hob
  go_wp2_with fail
  refine hK.out _ _ (Lib.hid (below_on hHeld.out hb)) (fun hHeld => ?_)
  clear hK K
  try simp only [Act.put, List.getElem_toArray, List.getElem_cons_zero, List.getElem_cons_succ, List.setIfInBounds_toArray, List.set_cons_zero, List.set_cons_succ]
  refine wpAnyH_ready (rs := [2]) (by kernel_rfl) (by simp) ?_
  refine AllReadyH.cons rfl (fun K hK => ?_) AllReadyH.nil
  go_simp
  have O1 : Hid ((wb.alloc (.cells #[.int .u8 1] 5)).ownsRow w2.heap.size 5 1 (.slice (some ⟨wb.heap.size, 0, none⟩) 1 1) 1 (cel [1])) := own_base (World.ownsRow_lit (base := wb.heap.size) (e := 5) (size := 1) wb #[.int .u8 1] 1 (Nat.le_refl _) (by unfold maxLen; simp) (by simp)) hHeld.out.size
  refine hK.out _ _ (Lib.hid (below_on hHeld.out new1)) (fun hHeld => ?_)
  clear hK K
  try simp only [Act.put, List.getElem_toArray, List.getElem_cons_zero, List.getElem_cons_succ, List.setIfInBounds_toArray, List.set_cons_zero, List.set_cons_succ]
  refine wpAnyH_ready (rs := [8]) (by kernel_rfl) (by simp) ?_
  refine AllReadyH.cons rfl (fun K hK => ?_) AllReadyH.nil
  refine step_append_rd rfl (.tmp 15) (.tmp 20) 40 rfl w2.heap.size 5 i0 Tryz.underlying40 hi hz0 hz1 hz2 _ 1 [1] rfl O1.out _ 8 8 (digs a 8) rfl (R1.out.alloc _) (length_digs _ _).symm (by omega) hHeld.out.size ?_
  intro A3 c3 w3 ho3 hb3
  have O3 := Lib.hid ho3
  clear ho3
  refine hK.out _ _ (Lib.hid (hHeld.out.trans hb3)) (fun hHeld => ?_)
  clear hK K
  try simp only [Act.put, List.getElem_toArray, List.getElem_cons_zero, List.getElem_cons_succ, List.setIfInBounds_toArray, List.set_cons_zero, List.set_cons_succ]
  refine wpAnyH_take (i := 9) (v := ?_) rfl (by kernel_rfl) (by kernel_rfl) (by kernel_rfl) (fun _ _ _ h => h) (Or.inl ⟨by rfl, ?_⟩) (by assumption) ?_
  rotate_left 1
  · intro w _; go_simp; try with_reducible rfl
  try simp only [Act.put, List.getElem_toArray, List.getElem_cons_zero, List.getElem_cons_succ, List.setIfInBounds_toArray, List.set_cons_zero, List.set_cons_succ]
  refine wpAnyH_done (by kernel_rfl) ?_ _
  obtain ⟨-, ⟨-, t1, t2, -⟩, ⟨-, s1, s2, s3, -⟩, -⟩ := S2.out.call hHeld.out
  go_wp2_with fail
  refine (field_0 0 _).mono ?_
  rintro e w4 ⟨rfl, rfl⟩
  go_wp2_with (at_builtin; refine wpList_append_rd _ rfl _ _ 40 rfl w2.heap.size 5 i0 Tryz.underlying40 hi hz0 hz1 hz2 _ 9 ([1] ++ digs a 8) rfl O3.out none 0 0 [] rfl (Rd.none_ _) rfl (by omega) hHeld.out.size ?_; intro A5 c5 w5 ho5 hg5 hb5 _)
  go_ret2
  exact ⟨A5, c5, rfl, own_base (by simpa using ho5) S2.out.1.size, below_on S2.out.1 (hHeld.out.trans hb5)⟩
set_option maxRecDepth 100000 in
theorem vbytes_2 (a b : Int) (w : World) (hw : GW w) (hg : okB a b = true) : Calls Tryz.prog 107 #[.agg #[.int .u8 2, .int .i64 a, .int .i64 b]] w fun e w' => ∃ A c, e = .returned (.tuple #[.slice A 7 c, .int .i64 0]) ∧
      w'.ownsRow w.heap.size 5 1 (.slice A 7 c) 7 (cel (2 :: (digs (a + 1048576) 3 ++ digs (b + 1048576) 3))) ∧ Below w.heap.size w w' := by
  obtain ⟨i0, hi, hz0, hz1, hz2⟩ := info_parts Tryz.info5
  obtain ⟨⟨a1, a2⟩, b1, b2⟩ := okB_iff.1 hg
  have HM : Hid (mayB 2 a b = true) := by simp [Hid, mayB, hg]
  clear hg
  have G := Lib.hid hw
  clear hw
  go_enter Tryz.func107, Tryz.ntmps107
  go_wp2_with fail
  refine (vmay_v _ _ _ _ _ HM.out).mono ?_
  rintro e w1 ⟨rfl, hb1⟩
  have S1 := Lib.hid (((Sx.start w).add fG G.out).newV hb1)
  clear hb1 HM
  obtain ⟨-, ⟨z1, z2, z3, z4, -⟩, ⟨g0, g1, g2, g3, g4, g5⟩, -⟩ := S1.out
  go_upto_region 4 with (fail)
  have S2 := Lib.hid (S1.out.mkP 3 3 250)
  clear z1 z2 z3 z4 g0 g1 g2 g3 g4 g5 S1 G
  generalize w1.alloc (.cells #[.int .i64 3, .int .i64 3] 250) = w2 at *
  refine wp_region_held_drew (S := fun w' => Hid (Below w2.heap.size w2 w')) (by kernel_rfl) (Lib.hid (below_draws (Below.refl _ _) 1)) (fun hHeld => ?_)
  refine wpAnyH_take (i := 0) (v := ?_) rfl (by kernel_rfl) (by kernel_rfl) (by kernel_rfl) (fun _ _ _ h => h) (Or.inl ⟨by rfl, ?_⟩) (by assumption) ?_
  rotate_left 1
  · intro w _; go_simp; try with_reducible rfl
  try simp only [Act.put, List.getElem_toArray, List.getElem_cons_zero, List.getElem_cons_succ, List.setIfInBounds_toArray, List.set_cons_zero, List.set_cons_succ]
  refine wpAnyH_take (i := 1) (v := ?_) rfl (by kernel_rfl) (by kernel_rfl) (by kernel_rfl) (fun _ _ _ h => h) (Or.inl ⟨by rfl, ?_⟩) (by assumption) ?_
  rotate_left 1
  · intro w hSw; (try dsimp only at hSw); obtain ⟨-, ⟨-, t1, t2, -⟩, ⟨-, s1, s2, s3, -⟩, -⟩ := S2.out.call hSw.out; go_simp; try with_reducible rfl
  try simp only [Act.put, List.getElem_toArray, List.getElem_cons_zero, List.getElem_cons_succ, List.setIfInBounds_toArray, List.set_cons_zero, List.set_cons_succ]
  refine wpAnyH_take (i := 3) (v := ?_) rfl (by kernel_rfl) (by kernel_rfl) (by kernel_rfl) (fun _ _ _ h => h) (Or.inl ⟨by rfl, ?_⟩) (by assumption) ?_
  rotate_left 1
  · intro w _; go_simp; try with_reducible rfl
  try simp only [Act.put, List.getElem_toArray, List.getElem_cons_zero, List.getElem_cons_succ, List.setIfInBounds_toArray, List.set_cons_zero, List.set_cons_succ]
  refine wpAnyH_take (i := 4) (v := ?_) rfl (by kernel_rfl) (by kernel_rfl) (by kernel_rfl) (fun _ _ _ h => h) (Or.inl ⟨by rfl, ?_⟩) (by assumption) ?_
  rotate_left 1
  · intro w hSw; (try dsimp only at hSw); obtain ⟨-, ⟨-, t1, t2, -⟩, ⟨-, s1, s2, s3, -⟩, -⟩ := S2.out.call hSw.out; go_simp; try with_reducible rfl
  try simp only [Act.put, List.getElem_toArray, List.getElem_cons_zero, List.getElem_cons_succ, List.setIfInBounds_toArray, List.set_cons_zero, List.set_cons_succ]
  refine wpAnyH_take (i := 5) (v := ?_) rfl (by kernel_rfl) (by kernel_rfl) (by kernel_rfl) (fun _ _ _ h => h) (Or.inl ⟨by rfl, ?_⟩) (by assumption) ?_
  rotate_left 1
  · intro w _; go_simp; try with_reducible rfl
  try simp only [Act.put, List.getElem_toArray, List.getElem_cons_zero, List.getElem_cons_succ, List.setIfInBounds_toArray, List.set_cons_zero, List.set_cons_succ]
  refine wpAnyH_take (i := 6) (v := ?_) rfl (by kernel_rfl) (by kernel_rfl) (by kernel_rfl) (fun _ _ _ h => h) (Or.inl ⟨by rfl, ?_⟩) (by assumption) ?_
  rotate_left 1
  · intro w hSw; (try dsimp only at hSw); obtain ⟨-, ⟨-, t1, t2, -⟩, ⟨-, s1, s2, s3, -⟩, -⟩ := S2.out.call hSw.out; go_simp; try with_reducible rfl
  try simp only [Act.put, List.getElem_toArray, List.getElem_cons_zero, List.getElem_cons_succ, List.setIfInBounds_toArray, List.set_cons_zero, List.set_cons_succ]
  refine wpAnyH_ready (rs := [2, 7]) (by kernel_rfl) (by simp) ?_
  refine AllReadyH.cons rfl (fun K hK => ?_) ?_
  · skip
    go_simp
    have O1 : Hid ((w2.drew.alloc (.cells #[.int .u8 2] 5)).ownsRow w2.heap.size 5 1 (.slice (some ⟨w2.heap.size, 0, none⟩) 1 1) 1 (cel [2])) := World.ownsRow_lit (base := w2.heap.size) (e := 5) (size := 1) w2.drew #[.int .u8 2] 1 (Nat.le_refl _) (by unfold maxLen; simp) (by simp)
    refine hK.out _ _ (Lib.hid (below_on hHeld.out new1)) (fun hHeld => ?_)
    clear hK K
    try simp only [Act.put, List.getElem_toArray, List.getElem_cons_zero, List.getElem_cons_succ, List.setIfInBounds_toArray, List.set_cons_zero, List.set_cons_succ]
    refine wpAnyH_ready (rs := [7]) (by kernel_rfl) (by simp) ?_
    refine AllReadyH.cons rfl (fun K hK => ?_) AllReadyH.nil
    go_simp
    refine (field_3 a _ (by omega) (by omega)).mono ?_
    rintro e wb ⟨Ab, cb, rfl, hob, hb⟩
    have R1 := Lib.hid (own_rd hob (byt_digs _ _))
    clear hob
    have O2 := Lib.hid (own_below O1.out hb (Nat.le_refl _))
    go_wp2_with fail
    refine hK.out _ _ (Lib.hid (below_on hHeld.out hb)) (fun hHeld => ?_)
    clear hK K
    try simp only [Act.put, List.getElem_toArray, List.getElem_cons_zero, List.getElem_cons_succ, List.setIfInBounds_toArray, List.set_cons_zero, List.set_cons_succ]
    refine wpAnyH_ready (rs := [8]) (by kernel_rfl) (by simp) ?_
    refine AllReadyH.cons rfl (fun K hK => ?_) AllReadyH.nil
    refine step_append_rd rfl (.tmp 15) (.tmp 20) 40 rfl w2.heap.size 5 i0 Tryz.underlying40 hi hz0 hz1 hz2 _ 1 [2] rfl O2.out _ 3 cb (digs (a + 1048576) 3) rfl R1.out (length_digs _ _).symm (by omega) hHeld.out.size ?_
    intro A3 c3 w3 ho3 hb3
    have O3 := Lib.hid ho3
    clear ho3
    refine hK.out _ _ (Lib.hid (hHeld.out.trans hb3)) (fun hHeld => ?_)
    clear hK K
    try simp only [Act.put, List.getElem_toArray, List.getElem_cons_zero, List.getElem_cons_succ, List.setIfInBounds_toArray, List.set_cons_zero, List.set_cons_succ]
    refine wpAnyH_take (i := 9) (v := ?_) rfl (by kernel_rfl) (by kernel_rfl) (by kernel_rfl) (fun _ _ _ h => h) (Or.inl ⟨by rfl, ?_⟩) (by assumption) ?_
    rotate_left 1
    · intro w _; go_simp; try with_reducible rfl
    try simp only [Act.put, List.getElem_toArray, List.getElem_cons_zero, List.getElem_cons_succ, List.setIfInBounds_toArray, List.set_cons_zero, List.set_cons_succ]
    refine wpAnyH_done (by kernel_rfl) ?_ _
    obtain ⟨-, ⟨-, t1, t2, -⟩, ⟨-, s1, s2, s3, -⟩, -⟩ := S2.out.call hHeld.out
    go_wp2_with fail
    refine (field_3 b _ b1 b2).mono ?_
    rintro e w4 ⟨A4, c4, rfl, ho4, hb4⟩
    have R4 := Lib.hid (own_rd ho4 (byt_digs _ _))
    have O4 := Lib.hid (own_below O3.out hb4 (Nat.le_refl _))
    have S4 := Lib.hid (below_on hHeld.out hb4)
    clear ho4 hb4 t1 t2 s1 s2 s3
    go_wp2_with (at_builtin; refine wpList_append_rd _ rfl _ _ 40 rfl w2.heap.size 5 i0 Tryz.underlying40 hi hz0 hz1 hz2 _ 4 ([2] ++ digs (a + 1048576) 3) rfl O4.out A4 3 c4 (digs (b + 1048576) 3) rfl R4.out (length_digs _ _).symm (by omega) S4.out.size ?_; intro A5 c5 w5 ho5 hg5 hb5 _)
    go_ret2
    exact ⟨A5, c5, rfl, own_base (by simpa using ho5) S2.out.1.size, below_on S2.out.1 (S4.out.trans hb5)⟩
  refine AllReadyH.cons rfl (fun K hK => ?_) AllReadyH.nil
  go_simp
  refine (field_3 a _ (by omega) (by omega)).mono ?_
  rintro e wb ⟨Ab, cb, rfl, hob, hb⟩
  have R1 := Lib.hid (own_rd hob (byt_digs _ _))
  clear hob
  go_wp2_with fail
  refine hK.out _ _ (Lib.hid (below_on hHeld.out hb)) (fun hHeld => ?_)
  clear hK K
  try simp only [Act.put, List.getElem_toArray, List.getElem_cons_zero, List.getElem_cons_succ, List.setIfInBounds_toArray, List.set_cons_zero, List.set_cons_succ]
  refine wpAnyH_ready (rs := [2]) (by kernel_rfl) (by simp) ?_
  refine AllReadyH.cons rfl (fun K hK => ?_) AllReadyH.nil
  go_simp
  have O1 : Hid ((wb.alloc (.cells #[.int .u8 2] 5)).ownsRow w2.heap.size 5 1 (.slice (some ⟨wb.heap.size, 0, none⟩) 1 1) 1 (cel [2])) := own_base (World.ownsRow_lit (base := wb.heap.size) (e := 5) (size := 1) wb #[.int .u8 2] 1 (Nat.le_refl _) (by unfold maxLen; simp) (by simp)) hHeld.out.size
  refine hK.out _ _ (Lib.hid (below_on hHeld.out new1)) (fun hHeld => ?_)
  clear hK K
  try simp only [Act.put, List.getElem_toArray, List.getElem_cons_zero, List.getElem_cons_succ, List.setIfInBounds_toArray, List.set_cons_zero, List.set_cons_succ]
  refine wpAnyH_ready (rs := [8]) (by kernel_rfl) (by simp) ?_
  refine AllReadyH.cons rfl (fun K hK => ?_) AllReadyH.nil
  refine step_append_rd rfl (.tmp 15) (.tmp 20) 40 rfl w2.heap.size 5 i0 Tryz.underlying40 hi hz0 hz1 hz2 _ 1 [2] rfl O1.out _ 3 cb (digs (a + 1048576) 3) rfl (R1.out.alloc _) (length_digs _ _).symm (by omega) hHeld.out.size ?_
  intro A3 c3 w3 ho3 hb3
  have O3 := Lib.hid ho3
  clear ho3
  refine hK.out _ _ (Lib.hid (hHeld.out.trans hb3)) (fun hHeld => ?_)
  clear hK K
  try simp only [Act.put, List.getElem_toArray, List.getElem_cons_zero, List.getElem_cons_succ, List.setIfInBounds_toArray, List.set_cons_zero, List.set_cons_succ]
  refine wpAnyH_take (i := 9) (v := ?_) rfl (by kernel_rfl) (by kernel_rfl) (by kernel_rfl) (fun _ _ _ h => h) (Or.inl ⟨by rfl, ?_⟩) (by assumption) ?_
  rotate_left 1
  · intro w _; go_simp; try with_reducible rfl
  try simp only [Act.put, List.getElem_toArray, List.getElem_cons_zero, List.getElem_cons_succ, List.setIfInBounds_toArray, List.set_cons_zero, List.set_cons_succ]
  refine wpAnyH_done (by kernel_rfl) ?_ _
  obtain ⟨-, ⟨-, t1, t2, -⟩, ⟨-, s1, s2, s3, -⟩, -⟩ := S2.out.call hHeld.out
  go_wp2_with fail
  refine (field_3 b _ b1 b2).mono ?_
  rintro e w4 ⟨A4, c4, rfl, ho4, hb4⟩
  have R4 := Lib.hid (own_rd ho4 (byt_digs _ _))
  have O4 := Lib.hid (own_below O3.out hb4 (Nat.le_refl _))
  have S4 := Lib.hid (below_on hHeld.out hb4)
  clear ho4 hb4 t1 t2 s1 s2 s3
  go_wp2_with (at_builtin; refine wpList_append_rd _ rfl _ _ 40 rfl w2.heap.size 5 i0 Tryz.underlying40 hi hz0 hz1 hz2 _ 4 ([2] ++ digs (a + 1048576) 3) rfl O4.out A4 3 c4 (digs (b + 1048576) 3) rfl R4.out (length_digs _ _).symm (by omega) S4.out.size ?_; intro A5 c5 w5 ho5 hg5 hb5 _)
  go_ret2
  exact ⟨A5, c5, rfl, own_base (by simpa using ho5) S2.out.1.size, below_on S2.out.1 (S4.out.trans hb5)⟩
set_option maxRecDepth 100000 in
theorem vr_1 (A:Option Addr) (c:Nat) (l:List Int) (p:Int) (k n1 e1:Int) (w:World) (hr:Rd w A c l) (hw:GW w) (h1:getV l p 1=k∧getN l p 1=n1∧getE l p 1=e1) (he:(e1 != 0)=true):Calls Tryz.prog 185 #[.slice A l.length c,.int .i64 p] w fun e w'=>e=.returned (.tuple #[.agg #[.int .u8 0,.int .i64 0,.int .i64 0],.int .i64 0,.int .i64 e1])∧Below w.heap.size w w':=by
 have HR:=zhy hr;have HG:=zhy hw;clear hr hw;have E1:=zhy h1;clear h1;go_enter Tryz.func185,Tryz.ntmps185;go_wp2_with fail;refine (get_any A c l p 1 _ (HR.out.alloc _)).mono ?_;rintro e w1 ⟨rfl,hb1⟩;rw [E1.out.1,E1.out.2.1,E1.out.2.2];have HV1:=zhy ((Vl.new w 0 0 0).keep hb1);have HB1:=zhy (below1 hb1);clear hb1 E1;obtain ⟨b0,v0,v1,v2,f0,f1,f2⟩:=HV1.out;go_wp2_with fail;exact bodyPost_ret (v:=.tuple #[.agg #[.int .u8 0,.int .i64 0,.int .i64 0],.int .i64 0,.int .i64 e1]) (by simp [results,Tryz.results185,go_sem,v0,v1,v2]) rfl ⟨rfl,(below_set2 HB1.out (by simp) (by simp) _ _).setCell (by simp) _⟩
set_option maxRecDepth 100000 in
theorem vr_2 (A:Option Addr) (c:Nat) (l:List Int) (p:Int) (k n1:Int) (w:World) (hr:Rd w A c l) (hw:GW w) (h1:getV l p 1=k∧getN l p 1=n1∧getE l p 1=0) (hk:0≤k∧k<256) (hm:mayB k 0 0=false):Calls Tryz.prog 185 #[.slice A l.length c,.int .i64 p] w fun e w'=>e=.returned (.tuple #[.agg #[.int .u8 0,.int .i64 0,.int .i64 0],.int .i64 0,.int .i64 30])∧Below w.heap.size w w':=by
 have HR:=zhy hr;have HG:=zhy hw;clear hr hw;obtain ⟨hk1,hk2⟩:=hk;have E1:=zhy h1;have M:=zhy hm;clear h1 hm;go_enter Tryz.func185,Tryz.ntmps185;go_wp2_with fail;refine (get_any A c l p 1 _ (HR.out.alloc _)).mono ?_;rintro e w1 ⟨rfl,hb1⟩;rw [E1.out.1,E1.out.2.1,E1.out.2.2];have HV1:=zhy ((Vl.new w 0 0 0).keep hb1);have HB1:=zhy (below1 hb1);clear hb1 E1;obtain ⟨b0,v0,v1,v2,f0,f1,f2⟩:=HV1.out;go_wp2_with fail;clear v0 v1 v2 f0 f1 f2;refine (vmay_v k 0 0 _ _ M.out).mono ?_;rintro e w2 ⟨rfl,hb2⟩;have HV2:=zhy ((HV1.out.set0 k).keep hb2);have HB2:=zhy (below_on (HB1.out.setCell (p:=⟨w.heap.size,0,none⟩) (Nat.le_refl _) (.int .u8 k)) hb2);clear hb2 HV1 HB1 b0;obtain ⟨b0,v0,v1,v2,f0,f1,f2⟩:=HV2.out;go_wp2_with fail;exact bodyPost_ret (v:=.tuple #[.agg #[.int .u8 0,.int .i64 0,.int .i64 0],.int .i64 0,.int .i64 30]) (by simp [results,Tryz.results185,go_sem,v0,v1,v2]) rfl ⟨rfl,(below_set2 HB2.out (by simp) (by simp) _ _).setCell (by simp) _⟩
set_option maxRecDepth 100000 in
theorem vr_3 (A:Option Addr) (c:Nat) (l:List Int) (p:Int) (n1 x n2 e2:Int) (w:World) (hr:Rd w A c l) (hw:GW w) (h1:getV l p 1=1∧getN l p 1=n1∧getE l p 1=0) (h2:sigV l n1=x∧cutN l n1 8=n2∧cutE l n1 8=e2) (he:(e2 != 0)=true):Calls Tryz.prog 185 #[.slice A l.length c,.int .i64 p] w fun e w'=>e=.returned (.tuple #[.agg #[.int .u8 0,.int .i64 0,.int .i64 0],.int .i64 0,.int .i64 e2])∧Below w.heap.size w w':=by
 have HR:=zhy hr;have HG:=zhy hw;clear hr hw;have M:Hid (mayB 1 0 0=true):=by simp [Hid,mayB]
 have E1:=zhy h1;have E2:=zhy h2;clear h1 h2;go_enter Tryz.func185,Tryz.ntmps185;go_wp2_with fail;refine (get_any A c l p 1 _ (HR.out.alloc _)).mono ?_;rintro e w1 ⟨rfl,hb1⟩;rw [E1.out.1,E1.out.2.1,E1.out.2.2];have HV1:=zhy ((Vl.new w 0 0 0).keep hb1);have HB1:=zhy (below1 hb1);clear hb1 E1;obtain ⟨b0,v0,v1,v2,f0,f1,f2⟩:=HV1.out;go_wp2_with fail;clear v0 v1 v2 f0 f1 f2;refine (vmay_v 1 0 0 _ _ M.out).mono ?_;rintro e w2 ⟨rfl,hb2⟩;have HV2:=zhy ((HV1.out.set0 1).keep hb2);have HB2:=zhy (below_on (HB1.out.setCell (p:=⟨w.heap.size,0,none⟩) (Nat.le_refl _) (.int .u8 1)) hb2);clear hb2 HV1 HB1 b0;obtain ⟨b0,v0,v1,v2,f0,f1,f2⟩:=HV2.out;obtain ⟨g0,g1,g2,g3,g4,g5⟩:=HG.out.keep HB2.out;go_wp2_with fail;clear g0 g1 g2 g3 g4 g5 v0 v1 v2 f0 f1 f2;refine (gf_8 A c _ l n1 x n2 e2 _ (HR.out.keep (below_on HB2.out new1)) rfl E2.out).mono ?_;rintro e w3 ⟨rfl,hb3⟩;have HP3:=zhy ((P2.new w2 8 0 250).keep hb3);have HV3:=zhy ((HV2.out.alloc _).keep hb3);have HB3:=zhy (below_on HB2.out (below1 hb3));have hne:w.heap.size≠w2.heap.size:=Nat.ne_of_lt b0;have HN:=zhy hne;clear hb3 HV2 HB2 b0 hne;obtain ⟨b0,v0,v1,v2,f0,f1,f2⟩:=HV3.out;go_wp2_with fail;exact bodyPost_ret (v:=.tuple #[.agg #[.int .u8 0,.int .i64 0,.int .i64 0],.int .i64 0,.int .i64 e2]) (by simp [results,Tryz.results185,go_sem,v0,v1,v2]) rfl ⟨rfl,(below_set2 ((HB3.out).setCell (p:=⟨w.heap.size,1,none⟩) (Nat.le_refl _) (.int .i64 x)) (by simp) (by simp) _ _).setCell (by simp) _⟩
set_option maxRecDepth 100000 in
theorem vr_4 (A:Option Addr) (c:Nat) (l:List Int) (p:Int) (n1 x n2:Int) (w:World) (hr:Rd w A c l) (hw:GW w) (h1:getV l p 1=1∧getN l p 1=n1∧getE l p 1=0) (h2:sigV l n1=x∧cutN l n1 8=n2∧cutE l n1 8=0) :Calls Tryz.prog 185 #[.slice A l.length c,.int .i64 p] w fun e w'=>e=.returned (.tuple #[.agg #[.int .u8 1,.int .i64 x,.int .i64 0],.int .i64 n2,.int .i64 0])∧Below w.heap.size w w':=by
 have HR:=zhy hr;have HG:=zhy hw;clear hr hw;have M:Hid (mayB 1 0 0=true):=by simp [Hid,mayB]
 have M':Hid (mayB 1 x 0=true):=by simp [Hid,mayB]
 have E1:=zhy h1;have E2:=zhy h2;clear h1 h2;go_enter Tryz.func185,Tryz.ntmps185;go_wp2_with fail;refine (get_any A c l p 1 _ (HR.out.alloc _)).mono ?_;rintro e w1 ⟨rfl,hb1⟩;rw [E1.out.1,E1.out.2.1,E1.out.2.2];have HV1:=zhy ((Vl.new w 0 0 0).keep hb1);have HB1:=zhy (below1 hb1);clear hb1 E1;obtain ⟨b0,v0,v1,v2,f0,f1,f2⟩:=HV1.out;go_wp2_with fail;clear v0 v1 v2 f0 f1 f2;refine (vmay_v 1 0 0 _ _ M.out).mono ?_;rintro e w2 ⟨rfl,hb2⟩;have HV2:=zhy ((HV1.out.set0 1).keep hb2);have HB2:=zhy (below_on (HB1.out.setCell (p:=⟨w.heap.size,0,none⟩) (Nat.le_refl _) (.int .u8 1)) hb2);clear hb2 HV1 HB1 b0;obtain ⟨b0,v0,v1,v2,f0,f1,f2⟩:=HV2.out;obtain ⟨g0,g1,g2,g3,g4,g5⟩:=HG.out.keep HB2.out;go_wp2_with fail;clear g0 g1 g2 g3 g4 g5 v0 v1 v2 f0 f1 f2;refine (gf_8 A c _ l n1 x n2 0 _ (HR.out.keep (below_on HB2.out new1)) rfl E2.out).mono ?_;rintro e w3 ⟨rfl,hb3⟩;have HP3:=zhy ((P2.new w2 8 0 250).keep hb3);have HV3:=zhy ((HV2.out.alloc _).keep hb3);have HB3:=zhy (below_on HB2.out (below1 hb3));have hne:w.heap.size≠w2.heap.size:=Nat.ne_of_lt b0;have HN:=zhy hne;clear hb3 HV2 HB2 b0 hne;obtain ⟨b0,v0,v1,v2,f0,f1,f2⟩:=HV3.out;go_upto_region 11 with (fail);have HV4:=zhy (HV3.out.set1 x);have HP4:=zhy (HP3.out.other (p:=⟨w.heap.size,1,none⟩) HN.out (.int .i64 x));have HB4:=zhy (HB3.out.setCell (p:=⟨w.heap.size,1,none⟩) (Nat.le_refl _) (.int .i64 x));obtain ⟨c0,p0,p1,-,-⟩:=HP4.out;obtain ⟨-,u0,u1,u2,h0,h1,h2⟩:=HV4.out;go_wp2_with fail;clear p0 p1 v0 v1 v2 f0 f1 f2 u0 u1 u2 h0 h1 h2 HV3 HP3 HB3;refine (gf_0 A c _ n2 _).mono ?_;rintro e w5 ⟨rfl,rfl⟩;obtain ⟨-,u0,u1,u2,h0,h1,h2⟩:=HV4.out;go_wp2_with fail;clear u0 u1 u2 h0 h1 h2;have HV5:=zhy (HV4.out.set2 0);have HB5:=zhy (HB4.out.setCell (p:=⟨w.heap.size,2,none⟩) (Nat.le_refl _) (.int .i64 0));refine (vmay_v 1 x 0 _ _ M'.out).mono ?_;rintro e w6 ⟨rfl,hb6⟩;have HV6:=zhy (HV5.out.keep hb6);have HB6:=zhy (below_on HB5.out hb6);clear hb6;obtain ⟨b6,v0,v1,v2,f0,f1,f2⟩:=HV6.out;go_wp2_with fail;exact bodyPost_ret (v:=.tuple #[.agg #[.int .u8 1,.int .i64 x,.int .i64 0],.int .i64 n2,.int .i64 0]) (by simp [results,Tryz.results185,go_sem,v0,v1,v2]) rfl ⟨rfl,(below_set2 HB6.out (by simp) (by simp) _ _).setCell (by simp) _⟩
set_option maxRecDepth 100000 in
theorem vr_5 (A:Option Addr) (c:Nat) (l:List Int) (p:Int) (n1 x n2 e2:Int) (w:World) (hr:Rd w A c l) (hw:GW w) (h1:getV l p 1=2∧getN l p 1=n1∧getE l p 1=0) (h2:getV l n1 3=x∧getN l n1 3=n2∧getE l n1 3=e2) (hx:0≤x∧x<16777216) (he:(e2 != 0)=true):Calls Tryz.prog 185 #[.slice A l.length c,.int .i64 p] w fun e w'=>e=.returned (.tuple #[.agg #[.int .u8 0,.int .i64 0,.int .i64 0],.int .i64 0,.int .i64 e2])∧Below w.heap.size w w':=by
 have HR:=zhy hr;have HG:=zhy hw;clear hr hw;have M:Hid (mayB 2 0 0=true):=by simp [Hid,mayB,okB_0]
 have E1:=zhy h1;have E2:=zhy h2;have HX:=zhy hx;clear h1 h2 hx;have x1:=HX.out.1;have x2:=HX.out.2;go_enter Tryz.func185,Tryz.ntmps185;go_wp2_with fail;refine (get_any A c l p 1 _ (HR.out.alloc _)).mono ?_;rintro e w1 ⟨rfl,hb1⟩;rw [E1.out.1,E1.out.2.1,E1.out.2.2];have HV1:=zhy ((Vl.new w 0 0 0).keep hb1);have HB1:=zhy (below1 hb1);clear hb1 E1;obtain ⟨b0,v0,v1,v2,f0,f1,f2⟩:=HV1.out;go_wp2_with fail;clear v0 v1 v2 f0 f1 f2;refine (vmay_v 2 0 0 _ _ M.out).mono ?_;rintro e w2 ⟨rfl,hb2⟩;have HV2:=zhy ((HV1.out.set0 2).keep hb2);have HB2:=zhy (below_on (HB1.out.setCell (p:=⟨w.heap.size,0,none⟩) (Nat.le_refl _) (.int .u8 2)) hb2);clear hb2 HV1 HB1 b0;obtain ⟨b0,v0,v1,v2,f0,f1,f2⟩:=HV2.out;obtain ⟨g0,g1,g2,g3,g4,g5⟩:=HG.out.keep HB2.out;go_wp2_with fail;clear g0 g1 g2 g3 g4 g5 v0 v1 v2 f0 f1 f2;refine (gf_3 A c _ l n1 x n2 e2 _ (HR.out.keep (below_on HB2.out new1)) rfl E2.out HX.out).mono ?_;rintro e w3 ⟨rfl,hb3⟩;have HP3:=zhy ((P2.new w2 3 3 250).keep hb3);have HV3:=zhy ((HV2.out.alloc _).keep hb3);have HB3:=zhy (below_on HB2.out (below1 hb3));have hne:w.heap.size≠w2.heap.size:=Nat.ne_of_lt b0;have HN:=zhy hne;clear hb3 HV2 HB2 b0 hne;obtain ⟨b0,v0,v1,v2,f0,f1,f2⟩:=HV3.out;go_wp2_with fail;exact bodyPost_ret (v:=.tuple #[.agg #[.int .u8 0,.int .i64 0,.int .i64 0],.int .i64 0,.int .i64 e2]) (by simp [results,Tryz.results185,go_sem,v0,v1,v2]) rfl ⟨rfl,(below_set2 ((HB3.out).setCell (p:=⟨w.heap.size,1,none⟩) (Nat.le_refl _) (.int .i64 (x-1048576))) (by simp) (by simp) _ _).setCell (by simp) _⟩
set_option maxRecDepth 100000 in
theorem vr_6 (A:Option Addr) (c:Nat) (l:List Int) (p:Int) (n1 x n2 y n3 e3:Int) (w:World) (hr:Rd w A c l) (hw:GW w) (h1:getV l p 1=2∧getN l p 1=n1∧getE l p 1=0) (h2:getV l n1 3=x∧getN l n1 3=n2∧getE l n1 3=0) (hx:0≤x∧x<16777216) (h3:getV l n2 3=y∧getN l n2 3=n3∧getE l n2 3=e3) (hy:0≤y∧y<16777216) (he:(e3 != 0)=true):Calls Tryz.prog 185 #[.slice A l.length c,.int .i64 p] w fun e w'=>e=.returned (.tuple #[.agg #[.int .u8 0,.int .i64 0,.int .i64 0],.int .i64 0,.int .i64 e3])∧Below w.heap.size w w':=by
 have HR:=zhy hr;have HG:=zhy hw;clear hr hw;have M:Hid (mayB 2 0 0=true):=by simp [Hid,mayB,okB_0]
 have E1:=zhy h1;have E2:=zhy h2;have HX:=zhy hx;clear h1 h2 hx;have E3:=zhy h3;have HY:=zhy hy;clear h3 hy;have x1:=HX.out.1;have x2:=HX.out.2;have y1:=HY.out.1;have y2:=HY.out.2;go_enter Tryz.func185,Tryz.ntmps185;go_wp2_with fail;refine (get_any A c l p 1 _ (HR.out.alloc _)).mono ?_;rintro e w1 ⟨rfl,hb1⟩;rw [E1.out.1,E1.out.2.1,E1.out.2.2];have HV1:=zhy ((Vl.new w 0 0 0).keep hb1);have HB1:=zhy (below1 hb1);clear hb1 E1;obtain ⟨b0,v0,v1,v2,f0,f1,f2⟩:=HV1.out;go_wp2_with fail;clear v0 v1 v2 f0 f1 f2;refine (vmay_v 2 0 0 _ _ M.out).mono ?_;rintro e w2 ⟨rfl,hb2⟩;have HV2:=zhy ((HV1.out.set0 2).keep hb2);have HB2:=zhy (below_on (HB1.out.setCell (p:=⟨w.heap.size,0,none⟩) (Nat.le_refl _) (.int .u8 2)) hb2);clear hb2 HV1 HB1 b0;obtain ⟨b0,v0,v1,v2,f0,f1,f2⟩:=HV2.out;obtain ⟨g0,g1,g2,g3,g4,g5⟩:=HG.out.keep HB2.out;go_wp2_with fail;clear g0 g1 g2 g3 g4 g5 v0 v1 v2 f0 f1 f2;refine (gf_3 A c _ l n1 x n2 0 _ (HR.out.keep (below_on HB2.out new1)) rfl E2.out HX.out).mono ?_;rintro e w3 ⟨rfl,hb3⟩;have HP3:=zhy ((P2.new w2 3 3 250).keep hb3);have HV3:=zhy ((HV2.out.alloc _).keep hb3);have HB3:=zhy (below_on HB2.out (below1 hb3));have hne:w.heap.size≠w2.heap.size:=Nat.ne_of_lt b0;have HN:=zhy hne;clear hb3 HV2 HB2 b0 hne;obtain ⟨b0,v0,v1,v2,f0,f1,f2⟩:=HV3.out;go_upto_region 11 with (fail);have HV4:=zhy (HV3.out.set1 (x-1048576));have HP4:=zhy (HP3.out.other (p:=⟨w.heap.size,1,none⟩) HN.out (.int .i64 (x-1048576)));have HB4:=zhy (HB3.out.setCell (p:=⟨w.heap.size,1,none⟩) (Nat.le_refl _) (.int .i64 (x-1048576)));obtain ⟨c0,p0,p1,-,-⟩:=HP4.out;obtain ⟨-,u0,u1,u2,h0,h1,h2⟩:=HV4.out;go_wp2_with fail;clear p0 p1 v0 v1 v2 f0 f1 f2 u0 u1 u2 h0 h1 h2 HV3 HP3 HB3;refine (gf_3 A c _ l n2 y n3 e3 _ (HR.out.keep HB4.out) rfl E3.out HY.out).mono ?_;rintro e w4 ⟨rfl,hb4⟩;have HV5':=zhy (HV4.out.keep hb4);have HB5':=zhy (below_on HB4.out hb4);clear hb4 HV4 HP4 HB4;obtain ⟨b4,v0,v1,v2,f0,f1,f2⟩:=HV5'.out;go_wp2_with fail;exact bodyPost_ret (v:=.tuple #[.agg #[.int .u8 0,.int .i64 0,.int .i64 0],.int .i64 0,.int .i64 e3]) (by simp [results,Tryz.results185,go_sem,v0,v1,v2]) rfl ⟨rfl,(below_set2 ((HB5'.out).setCell (p:=⟨w.heap.size,2,none⟩) (Nat.le_refl _) (.int .i64 (y-1048576))) (by simp) (by simp) _ _).setCell (by simp) _⟩
set_option maxRecDepth 100000 in
theorem vr_7 (A:Option Addr) (c:Nat) (l:List Int) (p:Int) (n1 x n2 y n3:Int) (w:World) (hr:Rd w A c l) (hw:GW w) (h1:getV l p 1=2∧getN l p 1=n1∧getE l p 1=0) (h2:getV l n1 3=x∧getN l n1 3=n2∧getE l n1 3=0) (hx:0≤x∧x<16777216) (h3:getV l n2 3=y∧getN l n2 3=n3∧getE l n2 3=0) (hy:0≤y∧y<16777216) (hm:mayB 2 (x-1048576) (y-1048576)=false):Calls Tryz.prog 185 #[.slice A l.length c,.int .i64 p] w fun e w'=>e=.returned (.tuple #[.agg #[.int .u8 0,.int .i64 0,.int .i64 0],.int .i64 0,.int .i64 30])∧Below w.heap.size w w':=by
 have HR:=zhy hr;have HG:=zhy hw;clear hr hw;have M:Hid (mayB 2 0 0=true):=by simp [Hid,mayB,okB_0]
 have E1:=zhy h1;have E2:=zhy h2;have HX:=zhy hx;clear h1 h2 hx;have E3:=zhy h3;have HY:=zhy hy;have M':=zhy hm;clear h3 hy hm;have x1:=HX.out.1;have x2:=HX.out.2;have y1:=HY.out.1;have y2:=HY.out.2;go_enter Tryz.func185,Tryz.ntmps185;go_wp2_with fail;refine (get_any A c l p 1 _ (HR.out.alloc _)).mono ?_;rintro e w1 ⟨rfl,hb1⟩;rw [E1.out.1,E1.out.2.1,E1.out.2.2];have HV1:=zhy ((Vl.new w 0 0 0).keep hb1);have HB1:=zhy (below1 hb1);clear hb1 E1;obtain ⟨b0,v0,v1,v2,f0,f1,f2⟩:=HV1.out;go_wp2_with fail;clear v0 v1 v2 f0 f1 f2;refine (vmay_v 2 0 0 _ _ M.out).mono ?_;rintro e w2 ⟨rfl,hb2⟩;have HV2:=zhy ((HV1.out.set0 2).keep hb2);have HB2:=zhy (below_on (HB1.out.setCell (p:=⟨w.heap.size,0,none⟩) (Nat.le_refl _) (.int .u8 2)) hb2);clear hb2 HV1 HB1 b0;obtain ⟨b0,v0,v1,v2,f0,f1,f2⟩:=HV2.out;obtain ⟨g0,g1,g2,g3,g4,g5⟩:=HG.out.keep HB2.out;go_wp2_with fail;clear g0 g1 g2 g3 g4 g5 v0 v1 v2 f0 f1 f2;refine (gf_3 A c _ l n1 x n2 0 _ (HR.out.keep (below_on HB2.out new1)) rfl E2.out HX.out).mono ?_;rintro e w3 ⟨rfl,hb3⟩;have HP3:=zhy ((P2.new w2 3 3 250).keep hb3);have HV3:=zhy ((HV2.out.alloc _).keep hb3);have HB3:=zhy (below_on HB2.out (below1 hb3));have hne:w.heap.size≠w2.heap.size:=Nat.ne_of_lt b0;have HN:=zhy hne;clear hb3 HV2 HB2 b0 hne;obtain ⟨b0,v0,v1,v2,f0,f1,f2⟩:=HV3.out;go_upto_region 11 with (fail);have HV4:=zhy (HV3.out.set1 (x-1048576));have HP4:=zhy (HP3.out.other (p:=⟨w.heap.size,1,none⟩) HN.out (.int .i64 (x-1048576)));have HB4:=zhy (HB3.out.setCell (p:=⟨w.heap.size,1,none⟩) (Nat.le_refl _) (.int .i64 (x-1048576)));obtain ⟨c0,p0,p1,-,-⟩:=HP4.out;obtain ⟨-,u0,u1,u2,h0,h1,h2⟩:=HV4.out;go_wp2_with fail;clear p0 p1 v0 v1 v2 f0 f1 f2 u0 u1 u2 h0 h1 h2 HV3 HP3 HB3;refine (gf_3 A c _ l n2 y n3 0 _ (HR.out.keep HB4.out) rfl E3.out HY.out).mono ?_;rintro e w4 ⟨rfl,hb4⟩;have HV5':=zhy (HV4.out.keep hb4);have HB5':=zhy (below_on HB4.out hb4);clear hb4 HV4 HP4 HB4;obtain ⟨b4,v0,v1,v2,f0,f1,f2⟩:=HV5'.out;go_wp2_with fail;clear v0 v1 v2 f0 f1 f2;have HV5:=zhy (HV5'.out.set2 (y-1048576));have HB5:=zhy (HB5'.out.setCell (p:=⟨w.heap.size,2,none⟩) (Nat.le_refl _) (.int .i64 (y-1048576)));refine (vmay_v 2 (x-1048576) (y-1048576) _ _ M'.out).mono ?_;rintro e w6 ⟨rfl,hb6⟩;have HV6:=zhy (HV5.out.keep hb6);have HB6:=zhy (below_on HB5.out hb6);clear hb6;obtain ⟨b6,v0,v1,v2,f0,f1,f2⟩:=HV6.out;go_wp2_with fail;exact bodyPost_ret (v:=.tuple #[.agg #[.int .u8 0,.int .i64 0,.int .i64 0],.int .i64 0,.int .i64 30]) (by simp [results,Tryz.results185,go_sem,v0,v1,v2]) rfl ⟨rfl,(below_set2 HB6.out (by simp) (by simp) _ _).setCell (by simp) _⟩
set_option maxRecDepth 100000 in
theorem vr_8 (A:Option Addr) (c:Nat) (l:List Int) (p:Int) (n1 x n2 y n3:Int) (w:World) (hr:Rd w A c l) (hw:GW w) (h1:getV l p 1=2∧getN l p 1=n1∧getE l p 1=0) (h2:getV l n1 3=x∧getN l n1 3=n2∧getE l n1 3=0) (hx:0≤x∧x<16777216) (h3:getV l n2 3=y∧getN l n2 3=n3∧getE l n2 3=0) (hy:0≤y∧y<16777216) (hm:mayB 2 (x-1048576) (y-1048576)=true):Calls Tryz.prog 185 #[.slice A l.length c,.int .i64 p] w fun e w'=>e=.returned (.tuple #[.agg #[.int .u8 2,.int .i64 (x-1048576),.int .i64 (y-1048576)],.int .i64 n3,.int .i64 0])∧Below w.heap.size w w':=by
 have HR:=zhy hr;have HG:=zhy hw;clear hr hw;have M:Hid (mayB 2 0 0=true):=by simp [Hid,mayB,okB_0]
 have E1:=zhy h1;have E2:=zhy h2;have HX:=zhy hx;clear h1 h2 hx;have E3:=zhy h3;have HY:=zhy hy;have M':=zhy hm;clear h3 hy hm;have x1:=HX.out.1;have x2:=HX.out.2;have y1:=HY.out.1;have y2:=HY.out.2;go_enter Tryz.func185,Tryz.ntmps185;go_wp2_with fail;refine (get_any A c l p 1 _ (HR.out.alloc _)).mono ?_;rintro e w1 ⟨rfl,hb1⟩;rw [E1.out.1,E1.out.2.1,E1.out.2.2];have HV1:=zhy ((Vl.new w 0 0 0).keep hb1);have HB1:=zhy (below1 hb1);clear hb1 E1;obtain ⟨b0,v0,v1,v2,f0,f1,f2⟩:=HV1.out;go_wp2_with fail;clear v0 v1 v2 f0 f1 f2;refine (vmay_v 2 0 0 _ _ M.out).mono ?_;rintro e w2 ⟨rfl,hb2⟩;have HV2:=zhy ((HV1.out.set0 2).keep hb2);have HB2:=zhy (below_on (HB1.out.setCell (p:=⟨w.heap.size,0,none⟩) (Nat.le_refl _) (.int .u8 2)) hb2);clear hb2 HV1 HB1 b0;obtain ⟨b0,v0,v1,v2,f0,f1,f2⟩:=HV2.out;obtain ⟨g0,g1,g2,g3,g4,g5⟩:=HG.out.keep HB2.out;go_wp2_with fail;clear g0 g1 g2 g3 g4 g5 v0 v1 v2 f0 f1 f2;refine (gf_3 A c _ l n1 x n2 0 _ (HR.out.keep (below_on HB2.out new1)) rfl E2.out HX.out).mono ?_;rintro e w3 ⟨rfl,hb3⟩;have HP3:=zhy ((P2.new w2 3 3 250).keep hb3);have HV3:=zhy ((HV2.out.alloc _).keep hb3);have HB3:=zhy (below_on HB2.out (below1 hb3));have hne:w.heap.size≠w2.heap.size:=Nat.ne_of_lt b0;have HN:=zhy hne;clear hb3 HV2 HB2 b0 hne;obtain ⟨b0,v0,v1,v2,f0,f1,f2⟩:=HV3.out;go_upto_region 11 with (fail);have HV4:=zhy (HV3.out.set1 (x-1048576));have HP4:=zhy (HP3.out.other (p:=⟨w.heap.size,1,none⟩) HN.out (.int .i64 (x-1048576)));have HB4:=zhy (HB3.out.setCell (p:=⟨w.heap.size,1,none⟩) (Nat.le_refl _) (.int .i64 (x-1048576)));obtain ⟨c0,p0,p1,-,-⟩:=HP4.out;obtain ⟨-,u0,u1,u2,h0,h1,h2⟩:=HV4.out;go_wp2_with fail;clear p0 p1 v0 v1 v2 f0 f1 f2 u0 u1 u2 h0 h1 h2 HV3 HP3 HB3;refine (gf_3 A c _ l n2 y n3 0 _ (HR.out.keep HB4.out) rfl E3.out HY.out).mono ?_;rintro e w4 ⟨rfl,hb4⟩;have HV5':=zhy (HV4.out.keep hb4);have HB5':=zhy (below_on HB4.out hb4);clear hb4 HV4 HP4 HB4;obtain ⟨b4,v0,v1,v2,f0,f1,f2⟩:=HV5'.out;go_wp2_with fail;clear v0 v1 v2 f0 f1 f2;have HV5:=zhy (HV5'.out.set2 (y-1048576));have HB5:=zhy (HB5'.out.setCell (p:=⟨w.heap.size,2,none⟩) (Nat.le_refl _) (.int .i64 (y-1048576)));refine (vmay_v 2 (x-1048576) (y-1048576) _ _ M'.out).mono ?_;rintro e w6 ⟨rfl,hb6⟩;have HV6:=zhy (HV5.out.keep hb6);have HB6:=zhy (below_on HB5.out hb6);clear hb6;obtain ⟨b6,v0,v1,v2,f0,f1,f2⟩:=HV6.out;go_wp2_with fail;exact bodyPost_ret (v:=.tuple #[.agg #[.int .u8 2,.int .i64 (x-1048576),.int .i64 (y-1048576)],.int .i64 n3,.int .i64 0]) (by simp [results,Tryz.results185,go_sem,v0,v1,v2]) rfl ⟨rfl,(below_set2 HB6.out (by simp) (by simp) _ _).setCell (by simp) _⟩
def x3 (l:List Int) (a:Nat):Int:=num ((l.drop a).take 3)
def rdT (l:List Int) (p:Int):Int×Int×Int×Int×Int:=
 if p<0∨(l.length:Int)<p then (0,0,0,0,2)
 else if (l.length:Int)=p then (0,0,0,0,10)
 else if l[p.toNat]?.getD 0=1 then (if l.length<p.toNat+9 then (0,0,0,0,10) else (1,wrap64 (num ((l.drop (p.toNat+1)).take 8)),0,p+9,0))
 else if l[p.toNat]?.getD 0=2 then (if l.length<p.toNat+7 then (0,0,0,0,10)
  else if mayB 2 (x3 l (p.toNat+1)-1048576) (x3 l (p.toNat+4)-1048576) then (2,x3 l (p.toNat+1)-1048576,x3 l (p.toNat+4)-1048576,p+7,0) else (0,0,0,0,30))
 else (0,0,0,0,30)
theorem p256_3:p256 3=16777216:=by decide
theorem x3_bd {l:List Int} (hb:Byt l) (a:Nat):0≤x3 l a∧x3 l a<16777216:=by
 have h1:=num_nonneg (byt_take (byt_drop hb a) 3);have h2:=num_lt (byt_take (byt_drop hb a) 3);have h3:=p256_le (show ((l.drop a).take 3).length≤3 by simp;omega);rw [p256_3] at h3;unfold x3;omega
theorem num_one {l:List Int} {a:Nat} (h:a<l.length):num ((l.drop a).take 1)=l[a]?.getD 0:=by
 have e:(l.drop a).take 1=[l[a]]:=by rw [List.drop_eq_getElem_cons h];rfl
 rw [e,zg7 h];simp [num]
theorem get1 {l:List Int} (hb:Byt l) {a:Nat} (h:a<l.length):getV l a 1=l[a]?.getD 0∧getN l a 1=(a:Int)+1∧getE l a 1=0:=by
 have hn:num ((l.drop (a:Int).toNat).take (1:Int).toNat)=l[a]?.getD 0:=num_one h
 have hbd:0≤l[a]?.getD 0∧l[a]?.getD 0<256:=by
  rw [zg7 h];exact hb _ (List.getElem_mem h)
 obtain ⟨e1,e2,e3⟩:=get_ok (l:=l) (p:=a) (W:=1) (by omega) (by omega) (by omega) (by omega) (by rw [hn];omega);exact ⟨by rw [e2,hn],e3,e1⟩
theorem get3 {l:List Int} (hb:Byt l) {a:Nat} (h:a+3≤l.length):getV l a 3=x3 l a∧getN l a 3=(a:Int)+3∧getE l a 3=0:=by
 have hbd:=x3_bd hb a;have hn:num ((l.drop (a:Int).toNat).take (3:Int).toNat)=x3 l a:=rfl;obtain ⟨e1,e2,e3⟩:=get_ok (l:=l) (p:=a) (W:=3) (by omega) (by omega) (by omega) (by omega) (by rw [hn];omega);exact ⟨by rw [e2,hn],e3,e1⟩
theorem get3_short {l:List Int} {a:Nat} (h0:a≤l.length) (h:l.length<a+3):getV l a 3=0∧getN l a 3=0∧getE l a 3=10:=by
 have e:=get_short (l:=l) (p:=a) (W:=3) (by omega) (by omega) (by omega) (by omega);exact ⟨by rw [getV,e];rfl,by rw [getN,e];rfl,e⟩
theorem getE_bad {l:List Int} {p W:Int} {e:Int} (h:getE l p W=e) (he:e≠0):getV l p W=0∧getN l p W=0∧getE l p W=e:=by
 have h':getE l p W≠0:=by rw [h];exact he
 exact ⟨by rw [getV,if_neg h'],by rw [getN,if_neg h'],h⟩
theorem vread_v (A:Option Addr) (c:Nat) (l:List Int) (p k a b n e0:Int) (w:World) (hr:Rd w A c l) (hw:GW w) (h:rdT l p=(k,a,b,n,e0)) :
  Calls Tryz.prog 185 #[.slice A l.length c,.int .i64 p] w fun e w'=>e=.returned (.tuple #[.agg #[.int .u8 k,.int .i64 a,.int .i64 b],.int .i64 n,.int .i64 e0])∧Below w.heap.size w w':=by
 have hb:=hr.byt
 unfold rdT at h
 split at h
 ·rename_i hp
  obtain ⟨rfl,rfl,rfl,rfl,rfl⟩:=by simpa using h
  have e:getE l p 1=2:=by rw [get_eq (by omega),(cut_arg hp).1];rfl
  exact vr_1 A c l p _ _ 2 w hr hw (getE_bad e (by decide)) rfl
 ·rename_i hp
  split at h
  ·rename_i hp2
   obtain ⟨rfl,rfl,rfl,rfl,rfl⟩:=by simpa using h
   have e:getE l p 1=10:=get_short (by omega) (by omega) (by omega) (by omega)
   exact vr_1 A c l p _ _ 10 w hr hw (getE_bad e (by decide)) rfl
  ·rename_i hp2
   obtain ⟨q,rfl⟩:∃q:Nat,p=q:=⟨p.toNat,by omega⟩
   rw [Int.toNat_natCast] at h
   have hq:q<l.length:=by omega
   have g1:=get1 hb hq
   have hbd:0≤l[q]?.getD 0∧l[q]?.getD 0<256:=by
    rw [zg7 hq];exact hb _ (List.getElem_mem hq)
   have e1:((q:Int)+1)=((q+1:Nat):Int):=by omega
   split at h
   ·rename_i hk
    rw [hk,e1] at g1
    split at h
    ·rename_i hs
     obtain ⟨rfl,rfl,rfl,rfl,rfl⟩:=by simpa using h
     obtain ⟨c1,c2,c3⟩:=cut_short (l:=l) (p:=(q+1:Nat)) (n:=8) (by omega) (by omega) (by omega)
     exact vr_3 A c l q _ _ _ 10 w hr hw g1 ⟨rfl,c3,c1⟩ rfl
    ·rename_i hs
     obtain ⟨rfl,rfl,rfl,rfl,rfl⟩:=by simpa using h
     obtain ⟨c1,c2,c3⟩:=cut_yes (l:=l) (p:=(q+1:Nat)) (n:=8) (by omega) (by omega) (by omega)
     refine vr_4 A c l q _ _ _ w hr hw g1 ⟨?_,?_,c1⟩
     ·rw [sigV,c2];rfl
     ·rw [c3];omega
   ·rename_i hk1
    split at h
    ·rename_i hk
     rw [hk,e1] at g1
     split at h
     ·rename_i hs
      obtain ⟨rfl,rfl,rfl,rfl,rfl⟩:=by simpa using h
      by_cases h4:l.length<q+4
      ·exact vr_5 A c l q _ _ _ 10 w hr hw g1 (get3_short (a:=q+1) (by omega) (by omega)) (by omega) rfl
      ·have g2:=get3 hb (a:=q+1) (by omega)
       have e4:(((q+1:Nat):Int)+3)=((q+4:Nat):Int):=by omega
       rw [e4] at g2
       exact vr_6 A c l q _ _ _ _ _ 10 w hr hw g1 g2 (x3_bd hb _) (get3_short (a:=q+4) (by omega) (by omega)) (by omega) rfl
     ·rename_i hs
      have g2:=get3 hb (a:=q+1) (by omega)
      have e4:(((q+1:Nat):Int)+3)=((q+4:Nat):Int):=by omega
      rw [e4] at g2
      have g3:=get3 hb (a:=q+4) (by omega)
      have e7:(((q+4:Nat):Int)+3)=(q:Int)+7:=by omega
      rw [e7] at g3
      split at h
      ·rename_i hm
       obtain ⟨rfl,rfl,rfl,rfl,rfl⟩:=by simpa using h
       exact vr_8 A c l q _ _ _ _ _ w hr hw g1 g2 (x3_bd hb _) g3 (x3_bd hb _) hm
      ·rename_i hm
       obtain ⟨rfl,rfl,rfl,rfl,rfl⟩:=by simpa using h
       exact vr_7 A c l q _ _ _ _ _ w hr hw g1 g2 (x3_bd hb _) g3 (x3_bd hb _) (by simpa using hm)
    ·rename_i hk2
     obtain ⟨rfl,rfl,rfl,rfl,rfl⟩:=by simpa using h
     refine vr_2 A c l q _ _ w hr hw g1 hbd ?_
     simp [mayB,hk1,hk2]
theorem vbytes_v (k a b e0 : Int) (L : List Int) (n : Nat) (w : World) (hw : GW w) (h : bytE k a b = e0 ∧ bytL k a b = L ∧ L.length = n) : Calls Tryz.prog 107 #[.agg #[.int .u8 k, .int .i64 a, .int .i64 b]] w fun e w' => ∃ A c, e = .returned (.tuple #[.slice A n c, .int .i64 e0]) ∧
      w'.ownsRow w.heap.size 5 1 (.slice A n c) n (cel L) ∧ Below w.heap.size w w' := by
  obtain ⟨rfl, rfl, rfl⟩ := h
  unfold bytE bytL
  cases hm : mayB k a b with
  | false =>
    refine (vbytes_f k a b w hm).mono ?_
    rintro e w' ⟨rfl, hb⟩
    exact ⟨none, 0, rfl, World.ownsRow_nil _ _ _ _, hb⟩
  | true =>
    by_cases h1 : k = 1
    · subst h1
      have h0 : b = 0 := by simpa [mayB] using hm
      subst h0
      rw [if_pos rfl, valB, if_pos rfl]
      have e : (1 :: digs a 8).length = 9 := by simp [length_digs]
      rw [if_pos rfl, e]
      exact vbytes_1 a w hw
    · have h2 : k = 2 ∧ okB a b = true := by simpa [mayB, h1] using hm
      obtain ⟨rfl, h2⟩ := h2
      rw [if_pos rfl, valB, if_neg (by decide)]
      have e : (2 :: (digs (a + 1048576) 3 ++ digs (b + 1048576) 3)).length = 7 := by simp [length_digs]
      rw [if_pos rfl, e]
      exact vbytes_2 a b w hw h2
theorem byt_valB (k a b:Int):Byt (valB k a b):=by
 unfold valB;split
 ·intro x hx;rcases List.mem_cons.1 hx with rfl | hx
  ·exact ⟨by decide,by decide⟩
  ·exact byt_digs _ _ x hx
 ·intro x hx;rcases List.mem_cons.1 hx with rfl | hx
  ·exact ⟨by decide,by decide⟩
  ·exact byt_append (byt_digs _ _) (byt_digs _ _) x hx
theorem valB_1 (a:Int):valB 1 a 0=1::digs a 8:=by rw [valB,if_pos rfl]
theorem valB_2 (a b:Int):valB 2 a b=2::(digs (a+1048576) 3++digs (b+1048576) 3):=by rw [valB,if_neg (by decide)]
theorem len_1 (a:Int):(valB 1 a 0).length=9:=by simp [valB_1,length_digs]
theorem bytE_1 (a:Int):bytE 1 a 0=0∧bytL 1 a 0=valB 1 a 0∧(valB 1 a 0).length=9:=by
 have h:mayB 1 a 0=true:=by simp [mayB]
 exact ⟨by simp [bytE,h],by simp [bytL,h],len_1 a⟩
theorem digs_x3 {l:List Int} (hb:Byt l) {q:Nat} (h:q+3≤l.length):digs (x3 l q) 3=(l.drop q).take 3:=by
 have:=digs_num (byt_take (byt_drop hb q) 3);rw [show ((l.drop q).take 3).length=3 by simp;omega] at this;exact this
theorem digs_wrap (n:Int):digs (wrap64 n) 8=digs n 8:=by
 refine digs_congr ?_;rw [p256_8];unfold wrap64;omega
theorem rdT_ok {l:List Int} (hb:Byt l) {p k a b n:Int} (h:rdT l p=(k,a,b,n,0)):∃q m:Nat,p=q∧n=q+m∧mayB k a b=true∧bytL k a b=(l.drop q).take m∧(bytL k a b).length=m∧q+m≤l.length:=by
 unfold rdT at h;split at h
 ·simp at h
 ·rename_i hp;split at h
  ·simp at h
  ·rename_i hp2;obtain ⟨q,rfl⟩:∃q:Nat,p=q:=⟨p.toNat,by omega⟩;rw [Int.toNat_natCast] at h;have hq:q<l.length:=by omega
   have hd:l.drop q=l[q]?.getD 0::l.drop (q+1):=by
    rw [List.drop_eq_getElem_cons hq,zg7 hq];rfl
   split at h
   ·rename_i hk;split at h
    ·simp at h
    ·rename_i hs;obtain ⟨rfl,rfl,rfl,rfl⟩:=by simpa using h
     have e:bytL 1 (wrap64 (num ((l.drop (q+1)).take 8))) 0=(l.drop q).take 9:=by
      rw [(bytE_1 _).2.1,valB_1,digs_wrap,hd,hk,List.take_succ_cons];have:=digs_num (byt_take (byt_drop hb (q+1)) 8);rw [show ((l.drop (q+1)).take 8).length=8 by simp;omega] at this;rw [this]
     exact ⟨q,9,rfl,rfl,by simp [mayB],e,by rw [e];simp;omega,by omega⟩
   ·split at h
    ·rename_i hk;split at h
     ·simp at h
     ·rename_i hs;split at h
      ·rename_i hm;obtain ⟨rfl,rfl,rfl,rfl⟩:=by simpa using h
       have e:bytL 2 (x3 l (q+1)-1048576) (x3 l (q+4)-1048576)=(l.drop q).take 7:=by
        rw [bytL,if_pos hm,valB_2,Int.sub_add_cancel,Int.sub_add_cancel,hd,hk,List.take_succ_cons,digs_x3 hb (by omega),digs_x3 hb (by omega),show (6:Nat)=3+3 from rfl,List.take_add,List.drop_drop]
       exact ⟨q,7,rfl,rfl,hm,e,by rw [e];simp;omega,by omega⟩
      ·simp at h
    ·simp at h
end Go.Proofs.YtnjgkkoiamiaaaaGreatDoor
