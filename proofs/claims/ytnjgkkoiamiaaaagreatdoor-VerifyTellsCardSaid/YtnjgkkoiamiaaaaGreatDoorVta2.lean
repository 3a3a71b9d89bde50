import Derived.Test.YtnjgkkoiamiaaaaGreatDoorVta1
import Derived.Laws.StructEq
import Derived.Lib.Bytes
import Derived.ProofKit
import Derived.LaidMore
import Derived.OpenShut
import Derived.Stop.Joined
import Derived.Lib.SmallJoins
set_option maxRecDepth 100000
set_option maxHeartbeats 16000000
set_option linter.unusedSimpArgs false
set_option linter.unusedVariables false
namespace Go.Proofs.YtnjgkkoiamiaaaaGreatDoor
open Go.RowKit
theorem qn (w:World) (o:Obj):(w.alloc o).heap.size=w.heap.size+1:=by simp
structure Fct where
 p:World→Prop
 keep:∀w w',p w→Below w.heap.size w w'→p w'
def zq8 (w:World):List Fct→Prop
 | []=>True
 | f::L=>f.p w∧zq8 w L
theorem zq8.keep {w w':World} {L:List Fct} (h:zq8 w L) (hb:Below w.heap.size w w'):zq8 w' L:=by
 induction L with
 | nil=>trivial
 | cons f L ih=>exact ⟨f.keep _ _ h.1 hb,ih h.2⟩
def Sx (w0 w:World) (L:List Fct):Prop:=Below w0.heap.size w0 w∧zq8 w L
theorem Sx.call {w0 w w':World} {L:List Fct} (h:Sx w0 w L) (hb:Below w.heap.size w w'):Sx w0 w' L:=⟨qc h.1 hb,h.2.keep hb⟩
theorem Sx.mk1 {w0 w:World} {L:List Fct} (h:Sx w0 w L) (o:Obj):Sx w0 (w.alloc o) L:=h.call qh
theorem Sx.add {w0 w:World} {L:List Fct} (h:Sx w0 w L) (f:Fct) (hf:f.p w):Sx w0 w (f::L):=⟨h.1,hf,h.2⟩
theorem Sx.start (w:World):Sx w w []:=⟨Below.refl _ _,trivial⟩
def Vl (w:World) (B:Nat) (k a b:Int):Prop:=B<w.heap.size∧w.cell? ⟨B,0,none⟩=some (.int .u8 k)∧w.cell? ⟨B,1,none⟩=some (.int .i64 a)∧w.cell? ⟨B,2,none⟩=some (.int .i64 b) ∧
 w.frozen? ⟨B,0,none⟩=false∧w.frozen? ⟨B,1,none⟩=false∧w.frozen? ⟨B,2,none⟩=false
theorem Vl.keep {w w':World} {B:Nat} {k a b:Int} (h:Vl w B k a b) (hb:Below w.heap.size w w'):Vl w' B k a b:=by
 obtain ⟨h1,h2,h3,h4,h5,h6,h7⟩:=h;obtain ⟨hc,hf⟩:=zbi hb;exact ⟨Nat.lt_of_lt_of_le h1 hb.size,(hc _ _ h1).trans h2,(hc _ _ h1).trans h3,(hc _ _ h1).trans h4,(hf _ _ h1).trans h5,(hf _ _ h1).trans h6,(hf _ _ h1).trans h7⟩
theorem Vl.new (w:World) (k a b:Int):Vl (w.alloc (.cells #[.int .u8 k,.int .i64 a,.int .i64 b] 139)) w.heap.size k a b:=by
 refine ⟨by simp,?_,?_,?_,?_,?_,?_⟩<;>simp [go_sem]
abbrev fV (B:Nat) (k a b:Int):Fct:=⟨fun w=>Vl w B k a b,fun _ _ h hb=>h.keep hb⟩
abbrev fR (A:Option Addr) (c:Nat) (l:List Int):Fct:=⟨fun w=>Rd w A c l,fun _ _ h hb=>h.keep hb⟩
theorem Sx.newV {w0 w w':World} {L:List Fct} (h:Sx w0 w L) {k a b:Int} (hb:Below (w.alloc (.cells #[.int .u8 k,.int .i64 a,.int .i64 b] 139)).heap.size (w.alloc (.cells #[.int .u8 k,.int .i64 a,.int .i64 b] 139)) w'):Sx w0 w' (fV w.heap.size k a b::L):=
 ((h.mk1 _).add (fV w.heap.size k a b) (Vl.new w k a b)).call hb
theorem Sx.mkV {w0 w:World} {L:List Fct} (h:Sx w0 w L) (k a b:Int):Sx w0 (w.alloc (.cells #[.int .u8 k,.int .i64 a,.int .i64 b] 139)) (fV w.heap.size k a b::L):=h.newV (Below.refl _ _)
def P2 (w:World) (B:Nat) (x y:Int):Prop:=B<w.heap.size∧w.cell? ⟨B,0,none⟩=some (.int .i64 x)∧w.cell? ⟨B,1,none⟩=some (.int .i64 y)∧w.frozen? ⟨B,0,none⟩=false∧w.frozen? ⟨B,1,none⟩=false
theorem P2.keep {w w':World} {B:Nat} {x y:Int} (h:P2 w B x y) (hb:Below w.heap.size w w'):P2 w' B x y:=by
 obtain ⟨h1,h2,h3,h4,h5⟩:=h;obtain ⟨hc,hf⟩:=zbi hb;exact ⟨Nat.lt_of_lt_of_le h1 hb.size,(hc _ _ h1).trans h2,(hc _ _ h1).trans h3,(hf _ _ h1).trans h4,(hf _ _ h1).trans h5⟩
theorem P2.new (w:World) (x y:Int) (t:Nat):P2 (w.alloc (.cells #[.int .i64 x,.int .i64 y] t)) w.heap.size x y:=by
 refine ⟨by simp,?_,?_,?_,?_⟩<;>simp [go_sem]
abbrev fP (B:Nat) (x y:Int):Fct:=⟨fun w=>P2 w B x y,fun _ _ h hb=>h.keep hb⟩
theorem Sx.mkP {w0 w:World} {L:List Fct} (h:Sx w0 w L) (x y:Int) (t:Nat):Sx w0 (w.alloc (.cells #[.int .i64 x,.int .i64 y] t)) (fP w.heap.size x y::L):=(h.mk1 _).add (fP w.heap.size x y) (P2.new w x y t)
theorem Hsx.call {w0 w1 w2:World} {L:List Fct} (hb:Below w1.heap.size w1 w2) (h:Hid (Sx w0 w1 L)):Hid (Sx w0 w2 L):=zhy (h.o.call hb)
theorem Sx.drewN {w0 w:World} {L:List Fct} (h:Sx w0 w L) (q:Nat):Sx w0 (w.drewN q) L:=
 h.call (qf (Below.refl _ _) q)
theorem Hsx.drew {w0 w1:World} {L:List Fct} (h:Hid (Sx w0 w1 L)):Hid (Sx w0 w1.drew L):=zhy (h.o.drewN 1)
theorem zn5 {w0 w:World} {L:List Fct} {B C:Nat} {k a b m c d:Int} (h:Hid (Sx w0 w (fV B k a b::fV C m c d::L))) :
  w.cell? ⟨B,0,none⟩=some (.int .u8 k)∧w.cell? ⟨B,1,none⟩=some (.int .i64 a)∧w.cell? ⟨B,2,none⟩=some (.int .i64 b)∧w.cell? ⟨C,0,none⟩=some (.int .u8 m)∧w.cell? ⟨C,1,none⟩=some (.int .i64 c)∧w.cell? ⟨C,2,none⟩=some (.int .i64 d)∧Hid (Sx w0 w (fV B k a b::fV C m c d::L)):=by
 obtain ⟨_,h1,h2,_⟩:=h.o;exact ⟨h1.2.1,h1.2.2.1,h1.2.2.2.1,h2.2.1,h2.2.2.1,h2.2.2.2.1,h⟩
theorem zcz {w0 w1 w2:World} {L:List Fct} {B C:Nat} {k a b m c d:Int} (hb:Below w1.heap.size w1 w2)
  (h:w1.cell? ⟨B,0,none⟩=some (.int .u8 k)∧w1.cell? ⟨B,1,none⟩=some (.int .i64 a)∧w1.cell? ⟨B,2,none⟩=some (.int .i64 b)∧w1.cell? ⟨C,0,none⟩=some (.int .u8 m)∧w1.cell? ⟨C,1,none⟩=some (.int .i64 c)∧w1.cell? ⟨C,2,none⟩=some (.int .i64 d)∧Hid (Sx w0 w1 (fV B k a b::fV C m c d::L))) :
  w2.cell? ⟨B,0,none⟩=some (.int .u8 k)∧w2.cell? ⟨B,1,none⟩=some (.int .i64 a)∧w2.cell? ⟨B,2,none⟩=some (.int .i64 b)∧w2.cell? ⟨C,0,none⟩=some (.int .u8 m)∧w2.cell? ⟨C,1,none⟩=some (.int .i64 c)∧w2.cell? ⟨C,2,none⟩=some (.int .i64 d)∧Hid (Sx w0 w2 (fV B k a b::fV C m c d::L)):=zn5 (Hsx.call hb h.2.2.2.2.2.2)
theorem zcx {w0 w:World} {L:List Fct} {B C:Nat} {k a b m c d:Int}
  (h:w.cell? ⟨B,0,none⟩=some (.int .u8 k)∧w.cell? ⟨B,1,none⟩=some (.int .i64 a)∧w.cell? ⟨B,2,none⟩=some (.int .i64 b)∧w.cell? ⟨C,0,none⟩=some (.int .u8 m)∧w.cell? ⟨C,1,none⟩=some (.int .i64 c)∧w.cell? ⟨C,2,none⟩=some (.int .i64 d)∧Hid (Sx w0 w (fV B k a b::fV C m c d::L))):Hid (Sx w0 w (fV B k a b::fV C m c d::L)):=h.2.2.2.2.2.2
theorem zdf (d:Nat) (k a b k' a' b':Int) (v:Bool) (h:(k==k'&&a==a'&&b==b')=v) (w:World):(Op.equalIn (d+1+1) 139 (.agg #[.int .u8 k,.int .i64 a,.int .i64 b]) (.agg #[.int .u8 k',.int .i64 a',.int .i64 b'])).run Tryz.prog w=.ok v w:=by
 have hS:Tryz.prog.underlying 139=some (.struct (Tryz.prog.fieldsOf 139)):=by kernel_rfl
 have hp:Tryz.prog.stoodInHeld 139=false:=by kernel_rfl
 have u1:=Tryz.underlying5;have u2:=Tryz.underlying2;have h0:∀u v t:Value,(part 5 #[u,v,t] 0).run Tryz.prog w=.ok u w:=fun u v t=>by kernel_rfl
 have h1:∀u v t:Value,(part 2 #[u,v,t] 1).run Tryz.prog w=.ok v w:=fun u v t=>by kernel_rfl
 have h2:∀u v t:Value,(part 2 #[u,v,t] 2).run Tryz.prog w=.ok t w:=fun u v t=>by kernel_rfl
 rw [run_equalIn_agg w (d+1) 139 _ _ hS hp];simp only [Program.fieldsOf,Tryz.underlying139];subst h;go_simp;by_cases e1:k=k'<;>by_cases e2:a=a'<;>by_cases e3:b=b'<;>simp [e1,e2,e3]
def zcj (k a b:Int):Bool:=(k==1&&b==0)||(k==2&&okB a b)
theorem zfa (n:Int) (w:World):Calls Tryz.prog 205 #[.int .i64 n] w fun e w'=>e=.returned (.agg #[.int .u8 1,.int .i64 n,.int .i64 0])∧Below w.heap.size w w':=by
 go_enter Tryz.func205,Tryz.ntmps205;go_wp2_with fail;refine bodyPost_ret (v:=.agg #[.int .u8 1,.int .i64 n,.int .i64 0]) (by simp [results,Tryz.results205,go_sem]) rfl ⟨rfl,qh⟩
theorem zkr (a b:Int) (w:World) (h:okB a b=true):Calls Tryz.prog 204 #[.int .i64 a,.int .i64 b] w fun e w'=>e=.returned (.tuple #[.agg #[.int .u8 2,.int .i64 a,.int .i64 b],.bool true])∧Below w.heap.size w w':=by
 have H:=zhy h;clear h;go_enter Tryz.func204,Tryz.ntmps204;go_wp2_with fail;refine (qa0 _ _ _ _ H.o).mono ?_;rintro e w1 ⟨rfl,hb1⟩;obtain ⟨hc,hf⟩:=zbi hb1;go_wp2_with fail;exact bodyPost_ret (v:=.tuple #[.agg #[.int .u8 2,.int .i64 a,.int .i64 b],.bool true]) (by simp [results,Tryz.results204,go_sem,hc]) rfl ⟨rfl,(zdt (zdb hb1) (by simp) (by simp) _ _).setCell (by simp) _⟩
theorem zsc (a b:Int) (w:World) (h:okB a b=false):Calls Tryz.prog 204 #[.int .i64 a,.int .i64 b] w fun e w'=>e=.returned (.tuple #[.agg #[.int .u8 0,.int .i64 0,.int .i64 0],.bool false])∧Below w.heap.size w w':=by
 have H:=zhy h;clear h;go_enter Tryz.func204,Tryz.ntmps204;go_wp2_with fail;refine (qa0 _ _ _ _ H.o).mono ?_;rintro e w1 ⟨rfl,hb1⟩;obtain ⟨hc,hf⟩:=zbi hb1;go_wp2_with fail;exact bodyPost_ret (v:=.tuple #[.agg #[.int .u8 0,.int .i64 0,.int .i64 0],.bool false]) (by simp [results,Tryz.results204,go_sem,hc]) rfl ⟨rfl,(zdt (zdb hb1) (by simp) (by simp) _ _).setCell (by simp) _⟩
theorem zyp (a:Int) (w:World) (hg:okB a 0=true):Calls Tryz.prog 168 #[.agg #[.int .u8 1,.int .i64 a,.int .i64 0]] w fun e w'=>e=.returned (.bool true)∧Below w.heap.size w w':=by
 have G:=zhy hg;clear hg;have q1:=zdf 9998 1 a 0 1 a 0 true (by simp);go_enter Tryz.func168,Tryz.ntmps168;go_wp2_with fail;refine (zkr _ _ _ G.o).mono ?_;rintro e w1 ⟨rfl,hb1⟩;have S1:=zhy ((Sx.start w).newV hb1);clear hb1;go_upto_region 2 with (fail);have S2:=zhy (S1.o.mkV 2 a 0);clear S1;generalize w1.alloc (.cells #[.int .u8 2,.int .i64 a,.int .i64 0] 139)=w2 at *;refine wp_region_held_drew (S:=fun w'=>w'.cell? ⟨w1.heap.size,0,none⟩=some (.int .u8 2)∧w'.cell? ⟨w1.heap.size,1,none⟩=some (.int .i64 a)∧w'.cell? ⟨w1.heap.size,2,none⟩=some (.int .i64 0)∧w'.cell? ⟨w.heap.size,0,none⟩=some (.int .u8 1)∧w'.cell? ⟨w.heap.size,1,none⟩=some (.int .i64 a)∧w'.cell? ⟨w.heap.size,2,none⟩=some (.int .i64 0)∧Hid (Sx w w' [fV w1.heap.size 2 a 0,fV w.heap.size 1 a 0])) (by kernel_rfl) (zn5 (Hsx.drew S2)) (fun hHeld=>?_);refine zq 0 (hy:=fun w hSw=>by (try dsimp only at hSw);obtain ⟨s1,s2,s3,s4,s5,s6,s7⟩:=hSw;go_simp;try with_reducible rfl) (h:=?_);refine zq 1 (hy:=fun w hSw=>by (try dsimp only at hSw);obtain ⟨s1,s2,s3,s4,s5,s6,s7⟩:=hSw;go_simp;try with_reducible rfl) (h:=?_);refine zq 2 (hy:=fun w hSw=>by (try dsimp only at hSw);obtain ⟨s1,s2,s3,s4,s5,s6,s7⟩:=hSw;go_simp;try with_reducible rfl) (h:=?_);refine wpAnyH_ready (rs:=[3]) (by kernel_rfl) (by simp) ?_;refine AllReadyH.cons rfl (fun K hK=>?_) AllReadyH.nil;go_simp;refine (zfa a _).mono ?_;rintro e w' ⟨rfl,hb⟩;go_wp2_with fail;refine hK.out _ _ (zcz hb hHeld) (fun hHeld=>?_);clear hK K;refine zq 4 (hy:=fun w hSw=>by (try dsimp only at hSw);obtain ⟨s1,s2,s3,s4,s5,s6,s7⟩:=hSw;go_simp;try with_reducible rfl) (h:=?_);refine zq 5 (hy:=fun w hSw=>by (try dsimp only at hSw);obtain ⟨s1,s2,s3,s4,s5,s6,s7⟩:=hSw;go_simp;try with_reducible rfl) (h:=?_);refine ztk (i:=6) (v:=undef) rfl (by kernel_rfl) (fun _ _ _ h=>h) (Or.inr ⟨by rfl,rfl⟩) (by assumption) ?_;(try simp only [Act.put,zg1,zg2,zg3,zg4,zg5,zg6]);refine ztk (i:=7) (v:=undef) rfl (by kernel_rfl) (fun _ _ _ h=>h) (Or.inr ⟨by rfl,rfl⟩) (by assumption) ?_;(try simp only [Act.put,zg1,zg2,zg3,zg4,zg5,zg6]);refine ztk (i:=8) (v:=undef) rfl (by kernel_rfl) (fun _ _ _ h=>h) (Or.inr ⟨by rfl,rfl⟩) (by assumption) ?_;(try simp only [Act.put,zg1,zg2,zg3,zg4,zg5,zg6]);refine ztk (i:=9) (v:=undef) rfl (by kernel_rfl) (fun _ _ _ h=>h) (Or.inr ⟨by rfl,rfl⟩) (by assumption) ?_;(try simp only [Act.put,zg1,zg2,zg3,zg4,zg5,zg6]);refine ztk (i:=10) (v:=undef) rfl (by kernel_rfl) (fun _ _ _ h=>h) (Or.inr ⟨by rfl,rfl⟩) (by assumption) ?_;(try simp only [Act.put,zg1,zg2,zg3,zg4,zg5,zg6]);refine ztk (i:=11) (v:=undef) rfl (by kernel_rfl) (fun _ _ _ h=>h) (Or.inr ⟨by rfl,rfl⟩) (by assumption) ?_;(try simp only [Act.put,zg1,zg2,zg3,zg4,zg5,zg6]);refine zq 12 (hy:=fun w hSw=>by (try dsimp only at hSw);obtain ⟨s1,s2,s3,s4,s5,s6,s7⟩:=hSw;go_simp;try with_reducible rfl) (h:=?_);refine zq 13 (hy:=fun w hSw=>by (try dsimp only at hSw);obtain ⟨s1,s2,s3,s4,s5,s6,s7⟩:=hSw;go_simp;try with_reducible rfl) (h:=?_);refine wpAnyH_done (by kernel_rfl) ?_ _;have HS:=zcx hHeld;clear hHeld;go_wp2_with fail;go_ret;exact ⟨rfl,HS.o.1⟩
theorem zzg (a:Int) (w:World) (hg:okB a 0=false):Calls Tryz.prog 168 #[.agg #[.int .u8 1,.int .i64 a,.int .i64 0]] w fun e w'=>e=.returned (.bool true)∧Below w.heap.size w w':=by
 have G:=zhy hg;clear hg;have q1:=zdf 9998 1 a 0 1 a 0 true (by simp);go_enter Tryz.func168,Tryz.ntmps168;go_wp2_with fail;refine (zsc _ _ _ G.o).mono ?_;rintro e w1 ⟨rfl,hb1⟩;have S1:=zhy ((Sx.start w).newV hb1);clear hb1;go_upto_region 2 with (fail);have S2:=zhy (S1.o.mkV 0 0 0);clear S1;generalize w1.alloc (.cells #[.int .u8 0,.int .i64 0,.int .i64 0] 139)=w2 at *;refine wp_region_held_drew (S:=fun w'=>w'.cell? ⟨w1.heap.size,0,none⟩=some (.int .u8 0)∧w'.cell? ⟨w1.heap.size,1,none⟩=some (.int .i64 0)∧w'.cell? ⟨w1.heap.size,2,none⟩=some (.int .i64 0)∧w'.cell? ⟨w.heap.size,0,none⟩=some (.int .u8 1)∧w'.cell? ⟨w.heap.size,1,none⟩=some (.int .i64 a)∧w'.cell? ⟨w.heap.size,2,none⟩=some (.int .i64 0)∧Hid (Sx w w' [fV w1.heap.size 0 0 0,fV w.heap.size 1 a 0])) (by kernel_rfl) (zn5 (Hsx.drew S2)) (fun hHeld=>?_);refine zq 0 (hy:=fun w hSw=>by (try dsimp only at hSw);obtain ⟨s1,s2,s3,s4,s5,s6,s7⟩:=hSw;go_simp;try with_reducible rfl) (h:=?_);refine zq 1 (hy:=fun w hSw=>by (try dsimp only at hSw);obtain ⟨s1,s2,s3,s4,s5,s6,s7⟩:=hSw;go_simp;try with_reducible rfl) (h:=?_);refine zq 2 (hy:=fun w hSw=>by (try dsimp only at hSw);obtain ⟨s1,s2,s3,s4,s5,s6,s7⟩:=hSw;go_simp;try with_reducible rfl) (h:=?_);refine wpAnyH_ready (rs:=[3]) (by kernel_rfl) (by simp) ?_;refine AllReadyH.cons rfl (fun K hK=>?_) AllReadyH.nil;go_simp;refine (zfa a _).mono ?_;rintro e w' ⟨rfl,hb⟩;go_wp2_with fail;refine hK.out _ _ (zcz hb hHeld) (fun hHeld=>?_);clear hK K;refine zq 4 (hy:=fun w hSw=>by (try dsimp only at hSw);obtain ⟨s1,s2,s3,s4,s5,s6,s7⟩:=hSw;go_simp;try with_reducible rfl) (h:=?_);refine zq 5 (hy:=fun w hSw=>by (try dsimp only at hSw);obtain ⟨s1,s2,s3,s4,s5,s6,s7⟩:=hSw;go_simp;try with_reducible rfl) (h:=?_);refine ztk (i:=6) (v:=undef) rfl (by kernel_rfl) (fun _ _ _ h=>h) (Or.inr ⟨by rfl,rfl⟩) (by assumption) ?_;(try simp only [Act.put,zg1,zg2,zg3,zg4,zg5,zg6]);refine ztk (i:=7) (v:=undef) rfl (by kernel_rfl) (fun _ _ _ h=>h) (Or.inr ⟨by rfl,rfl⟩) (by assumption) ?_;(try simp only [Act.put,zg1,zg2,zg3,zg4,zg5,zg6]);refine ztk (i:=8) (v:=undef) rfl (by kernel_rfl) (fun _ _ _ h=>h) (Or.inr ⟨by rfl,rfl⟩) (by assumption) ?_;(try simp only [Act.put,zg1,zg2,zg3,zg4,zg5,zg6]);refine ztk (i:=9) (v:=undef) rfl (by kernel_rfl) (fun _ _ _ h=>h) (Or.inr ⟨by rfl,rfl⟩) (by assumption) ?_;(try simp only [Act.put,zg1,zg2,zg3,zg4,zg5,zg6]);refine ztk (i:=10) (v:=undef) rfl (by kernel_rfl) (fun _ _ _ h=>h) (Or.inr ⟨by rfl,rfl⟩) (by assumption) ?_;(try simp only [Act.put,zg1,zg2,zg3,zg4,zg5,zg6]);refine ztk (i:=11) (v:=undef) rfl (by kernel_rfl) (fun _ _ _ h=>h) (Or.inr ⟨by rfl,rfl⟩) (by assumption) ?_;(try simp only [Act.put,zg1,zg2,zg3,zg4,zg5,zg6]);refine zq 12 (hy:=fun w hSw=>by (try dsimp only at hSw);obtain ⟨s1,s2,s3,s4,s5,s6,s7⟩:=hSw;go_simp;try with_reducible rfl) (h:=?_);refine zq 13 (hy:=fun w hSw=>by (try dsimp only at hSw);obtain ⟨s1,s2,s3,s4,s5,s6,s7⟩:=hSw;go_simp;try with_reducible rfl) (h:=?_);refine wpAnyH_done (by kernel_rfl) ?_ _;have HS:=zcx hHeld;clear hHeld;go_wp2_with fail;go_ret;exact ⟨rfl,HS.o.1⟩
theorem zz2 (a b:Int) (w:World) (hg:okB a b=true):Calls Tryz.prog 168 #[.agg #[.int .u8 2,.int .i64 a,.int .i64 b]] w fun e w'=>e=.returned (.bool true)∧Below w.heap.size w w':=by
 have G:=zhy hg;clear hg;have q1:=zdf 9998 2 a b 1 a 0 false (by simp);have q2:=zdf 9998 2 a b 2 a b true (by simp);go_enter Tryz.func168,Tryz.ntmps168;go_wp2_with fail;refine (zkr _ _ _ G.o).mono ?_;rintro e w1 ⟨rfl,hb1⟩;have S1:=zhy ((Sx.start w).newV hb1);clear hb1;go_upto_region 2 with (fail);have S2:=zhy (S1.o.mkV 2 a b);clear S1;generalize w1.alloc (.cells #[.int .u8 2,.int .i64 a,.int .i64 b] 139)=w2 at *;refine wp_region_held_drew (S:=fun w'=>w'.cell? ⟨w1.heap.size,0,none⟩=some (.int .u8 2)∧w'.cell? ⟨w1.heap.size,1,none⟩=some (.int .i64 a)∧w'.cell? ⟨w1.heap.size,2,none⟩=some (.int .i64 b)∧w'.cell? ⟨w.heap.size,0,none⟩=some (.int .u8 2)∧w'.cell? ⟨w.heap.size,1,none⟩=some (.int .i64 a)∧w'.cell? ⟨w.heap.size,2,none⟩=some (.int .i64 b)∧Hid (Sx w w' [fV w1.heap.size 2 a b,fV w.heap.size 2 a b])) (by kernel_rfl) (zn5 (Hsx.drew S2)) (fun hHeld=>?_);refine zq 0 (hy:=fun w hSw=>by (try dsimp only at hSw);obtain ⟨s1,s2,s3,s4,s5,s6,s7⟩:=hSw;go_simp;try with_reducible rfl) (h:=?_);refine zq 1 (hy:=fun w hSw=>by (try dsimp only at hSw);obtain ⟨s1,s2,s3,s4,s5,s6,s7⟩:=hSw;go_simp;try with_reducible rfl) (h:=?_);refine zq 2 (hy:=fun w hSw=>by (try dsimp only at hSw);obtain ⟨s1,s2,s3,s4,s5,s6,s7⟩:=hSw;go_simp;try with_reducible rfl) (h:=?_);refine wpAnyH_ready (rs:=[3]) (by kernel_rfl) (by simp) ?_;refine AllReadyH.cons rfl (fun K hK=>?_) AllReadyH.nil;go_simp;refine (zfa a _).mono ?_;rintro e w' ⟨rfl,hb⟩;go_wp2_with fail;refine hK.out _ _ (zcz hb hHeld) (fun hHeld=>?_);clear hK K;refine zq 4 (hy:=fun w hSw=>by (try dsimp only at hSw);obtain ⟨s1,s2,s3,s4,s5,s6,s7⟩:=hSw;go_simp;try with_reducible rfl) (h:=?_);refine zq 5 (hy:=fun w hSw=>by (try dsimp only at hSw);obtain ⟨s1,s2,s3,s4,s5,s6,s7⟩:=hSw;go_simp;try with_reducible rfl) (h:=?_);refine zq 6 (hy:=fun w hSw=>by (try dsimp only at hSw);obtain ⟨s1,s2,s3,s4,s5,s6,s7⟩:=hSw;go_simp;try with_reducible rfl) (h:=?_);refine zq 7 (hy:=fun w hSw=>by (try dsimp only at hSw);obtain ⟨s1,s2,s3,s4,s5,s6,s7⟩:=hSw;go_simp;try with_reducible rfl) (h:=?_);refine zq 8 (hy:=fun w hSw=>by (try dsimp only at hSw);obtain ⟨s1,s2,s3,s4,s5,s6,s7⟩:=hSw;go_simp;try with_reducible rfl) (h:=?_);refine zq 9 (hy:=fun w hSw=>by (try dsimp only at hSw);obtain ⟨s1,s2,s3,s4,s5,s6,s7⟩:=hSw;go_simp;try with_reducible rfl) (h:=?_);refine zq 10 (hy:=fun w hSw=>by (try dsimp only at hSw);obtain ⟨s1,s2,s3,s4,s5,s6,s7⟩:=hSw;go_simp;try with_reducible rfl) (h:=?_);refine zq 11 (hy:=fun w hSw=>by (try dsimp only at hSw);obtain ⟨s1,s2,s3,s4,s5,s6,s7⟩:=hSw;go_simp;try with_reducible rfl) (h:=?_);refine zq 12 (hy:=fun w hSw=>by (try dsimp only at hSw);obtain ⟨s1,s2,s3,s4,s5,s6,s7⟩:=hSw;go_simp;try with_reducible rfl) (h:=?_);refine zq 13 (hy:=fun w hSw=>by (try dsimp only at hSw);obtain ⟨s1,s2,s3,s4,s5,s6,s7⟩:=hSw;go_simp;try with_reducible rfl) (h:=?_);refine wpAnyH_done (by kernel_rfl) ?_ _;have HS:=zcx hHeld;clear hHeld;go_wp2_with fail;go_ret;exact ⟨rfl,HS.o.1⟩
theorem zy6 (k a b:Int) (w:World) (hg:okB a b=true) (h1:(k==1&&b==0)=false) (h2:(k==2)=false):Calls Tryz.prog 168 #[.agg #[.int .u8 k,.int .i64 a,.int .i64 b]] w fun e w'=>e=.returned (.bool false)∧Below w.heap.size w w':=by
 have G:=zhy hg;clear hg;have q1:=zdf 9998 k a b 1 a 0 false (by rw [←h1];simp);have q2:=zdf 9998 k a b 2 a b false (by rw [h2];simp);clear h1 h2;go_enter Tryz.func168,Tryz.ntmps168;go_wp2_with fail;refine (zkr _ _ _ G.o).mono ?_;rintro e w1 ⟨rfl,hb1⟩;have S1:=zhy ((Sx.start w).newV hb1);clear hb1;go_upto_region 2 with (fail);have S2:=zhy (S1.o.mkV 2 a b);clear S1;generalize w1.alloc (.cells #[.int .u8 2,.int .i64 a,.int .i64 b] 139)=w2 at *;refine wp_region_held_drew (S:=fun w'=>w'.cell? ⟨w1.heap.size,0,none⟩=some (.int .u8 2)∧w'.cell? ⟨w1.heap.size,1,none⟩=some (.int .i64 a)∧w'.cell? ⟨w1.heap.size,2,none⟩=some (.int .i64 b)∧w'.cell? ⟨w.heap.size,0,none⟩=some (.int .u8 k)∧w'.cell? ⟨w.heap.size,1,none⟩=some (.int .i64 a)∧w'.cell? ⟨w.heap.size,2,none⟩=some (.int .i64 b)∧Hid (Sx w w' [fV w1.heap.size 2 a b,fV w.heap.size k a b])) (by kernel_rfl) (zn5 (Hsx.drew S2)) (fun hHeld=>?_);refine zq 0 (hy:=fun w hSw=>by (try dsimp only at hSw);obtain ⟨s1,s2,s3,s4,s5,s6,s7⟩:=hSw;go_simp;try with_reducible rfl) (h:=?_);refine zq 1 (hy:=fun w hSw=>by (try dsimp only at hSw);obtain ⟨s1,s2,s3,s4,s5,s6,s7⟩:=hSw;go_simp;try with_reducible rfl) (h:=?_);refine zq 2 (hy:=fun w hSw=>by (try dsimp only at hSw);obtain ⟨s1,s2,s3,s4,s5,s6,s7⟩:=hSw;go_simp;try with_reducible rfl) (h:=?_);refine wpAnyH_ready (rs:=[3]) (by kernel_rfl) (by simp) ?_;refine AllReadyH.cons rfl (fun K hK=>?_) AllReadyH.nil;go_simp;refine (zfa a _).mono ?_;rintro e w' ⟨rfl,hb⟩;go_wp2_with fail;refine hK.out _ _ (zcz hb hHeld) (fun hHeld=>?_);clear hK K;refine zq 4 (hy:=fun w hSw=>by (try dsimp only at hSw);obtain ⟨s1,s2,s3,s4,s5,s6,s7⟩:=hSw;go_simp;try with_reducible rfl) (h:=?_);refine zq 5 (hy:=fun w hSw=>by (try dsimp only at hSw);obtain ⟨s1,s2,s3,s4,s5,s6,s7⟩:=hSw;go_simp;try with_reducible rfl) (h:=?_);refine zq 6 (hy:=fun w hSw=>by (try dsimp only at hSw);obtain ⟨s1,s2,s3,s4,s5,s6,s7⟩:=hSw;go_simp;try with_reducible rfl) (h:=?_);refine zq 7 (hy:=fun w hSw=>by (try dsimp only at hSw);obtain ⟨s1,s2,s3,s4,s5,s6,s7⟩:=hSw;go_simp;try with_reducible rfl) (h:=?_);refine zq 8 (hy:=fun w hSw=>by (try dsimp only at hSw);obtain ⟨s1,s2,s3,s4,s5,s6,s7⟩:=hSw;go_simp;try with_reducible rfl) (h:=?_);refine zq 9 (hy:=fun w hSw=>by (try dsimp only at hSw);obtain ⟨s1,s2,s3,s4,s5,s6,s7⟩:=hSw;go_simp;try with_reducible rfl) (h:=?_);refine zq 10 (hy:=fun w hSw=>by (try dsimp only at hSw);obtain ⟨s1,s2,s3,s4,s5,s6,s7⟩:=hSw;go_simp;try with_reducible rfl) (h:=?_);refine zq 11 (hy:=fun w hSw=>by (try dsimp only at hSw);obtain ⟨s1,s2,s3,s4,s5,s6,s7⟩:=hSw;go_simp;try with_reducible rfl) (h:=?_);refine zq 12 (hy:=fun w hSw=>by (try dsimp only at hSw);obtain ⟨s1,s2,s3,s4,s5,s6,s7⟩:=hSw;go_simp;try with_reducible rfl) (h:=?_);refine zq 13 (hy:=fun w hSw=>by (try dsimp only at hSw);obtain ⟨s1,s2,s3,s4,s5,s6,s7⟩:=hSw;go_simp;try with_reducible rfl) (h:=?_);refine wpAnyH_done (by kernel_rfl) ?_ _;have HS:=zcx hHeld;clear hHeld;go_wp2_with fail;go_ret;exact ⟨rfl,HS.o.1⟩
theorem zxr (k a b:Int) (w:World) (hg:okB a b=false) (h1:(k==1&&b==0)=false):Calls Tryz.prog 168 #[.agg #[.int .u8 k,.int .i64 a,.int .i64 b]] w fun e w'=>e=.returned (.bool false)∧Below w.heap.size w w':=by
 have G:=zhy hg;clear hg;have q1:=zdf 9998 k a b 1 a 0 false (by rw [←h1];simp);clear h1;go_enter Tryz.func168,Tryz.ntmps168;go_wp2_with fail;refine (zsc _ _ _ G.o).mono ?_;rintro e w1 ⟨rfl,hb1⟩;have S1:=zhy ((Sx.start w).newV hb1);clear hb1;go_upto_region 2 with (fail);have S2:=zhy (S1.o.mkV 0 0 0);clear S1;generalize w1.alloc (.cells #[.int .u8 0,.int .i64 0,.int .i64 0] 139)=w2 at *;refine wp_region_held_drew (S:=fun w'=>w'.cell? ⟨w1.heap.size,0,none⟩=some (.int .u8 0)∧w'.cell? ⟨w1.heap.size,1,none⟩=some (.int .i64 0)∧w'.cell? ⟨w1.heap.size,2,none⟩=some (.int .i64 0)∧w'.cell? ⟨w.heap.size,0,none⟩=some (.int .u8 k)∧w'.cell? ⟨w.heap.size,1,none⟩=some (.int .i64 a)∧w'.cell? ⟨w.heap.size,2,none⟩=some (.int .i64 b)∧Hid (Sx w w' [fV w1.heap.size 0 0 0,fV w.heap.size k a b])) (by kernel_rfl) (zn5 (Hsx.drew S2)) (fun hHeld=>?_);refine zq 0 (hy:=fun w hSw=>by (try dsimp only at hSw);obtain ⟨s1,s2,s3,s4,s5,s6,s7⟩:=hSw;go_simp;try with_reducible rfl) (h:=?_);refine zq 1 (hy:=fun w hSw=>by (try dsimp only at hSw);obtain ⟨s1,s2,s3,s4,s5,s6,s7⟩:=hSw;go_simp;try with_reducible rfl) (h:=?_);refine zq 2 (hy:=fun w hSw=>by (try dsimp only at hSw);obtain ⟨s1,s2,s3,s4,s5,s6,s7⟩:=hSw;go_simp;try with_reducible rfl) (h:=?_);refine wpAnyH_ready (rs:=[3]) (by kernel_rfl) (by simp) ?_;refine AllReadyH.cons rfl (fun K hK=>?_) AllReadyH.nil;go_simp;refine (zfa a _).mono ?_;rintro e w' ⟨rfl,hb⟩;go_wp2_with fail;refine hK.out _ _ (zcz hb hHeld) (fun hHeld=>?_);clear hK K;refine zq 4 (hy:=fun w hSw=>by (try dsimp only at hSw);obtain ⟨s1,s2,s3,s4,s5,s6,s7⟩:=hSw;go_simp;try with_reducible rfl) (h:=?_);refine zq 5 (hy:=fun w hSw=>by (try dsimp only at hSw);obtain ⟨s1,s2,s3,s4,s5,s6,s7⟩:=hSw;go_simp;try with_reducible rfl) (h:=?_);refine zq 6 (hy:=fun w hSw=>by (try dsimp only at hSw);obtain ⟨s1,s2,s3,s4,s5,s6,s7⟩:=hSw;go_simp;try with_reducible rfl) (h:=?_);refine zq 7 (hy:=fun w hSw=>by (try dsimp only at hSw);obtain ⟨s1,s2,s3,s4,s5,s6,s7⟩:=hSw;go_simp;try with_reducible rfl) (h:=?_);refine ztk (i:=8) (v:=undef) rfl (by kernel_rfl) (fun _ _ _ h=>h) (Or.inr ⟨by rfl,rfl⟩) (by assumption) ?_;(try simp only [Act.put,zg1,zg2,zg3,zg4,zg5,zg6]);refine ztk (i:=9) (v:=undef) rfl (by kernel_rfl) (fun _ _ _ h=>h) (Or.inr ⟨by rfl,rfl⟩) (by assumption) ?_;(try simp only [Act.put,zg1,zg2,zg3,zg4,zg5,zg6]);refine ztk (i:=10) (v:=undef) rfl (by kernel_rfl) (fun _ _ _ h=>h) (Or.inr ⟨by rfl,rfl⟩) (by assumption) ?_;(try simp only [Act.put,zg1,zg2,zg3,zg4,zg5,zg6]);refine zq 11 (hy:=fun w hSw=>by (try dsimp only at hSw);obtain ⟨s1,s2,s3,s4,s5,s6,s7⟩:=hSw;go_simp;try with_reducible rfl) (h:=?_);refine zq 12 (hy:=fun w hSw=>by (try dsimp only at hSw);obtain ⟨s1,s2,s3,s4,s5,s6,s7⟩:=hSw;go_simp;try with_reducible rfl) (h:=?_);refine zq 13 (hy:=fun w hSw=>by (try dsimp only at hSw);obtain ⟨s1,s2,s3,s4,s5,s6,s7⟩:=hSw;go_simp;try with_reducible rfl) (h:=?_);refine wpAnyH_done (by kernel_rfl) ?_ _;have HS:=zcx hHeld;clear hHeld;go_wp2_with fail;go_ret;exact ⟨rfl,HS.o.1⟩
theorem zm2 (k a b:Int) (v:Bool) (w:World) (h:zcj k a b=v):Calls Tryz.prog 168 #[.agg #[.int .u8 k,.int .i64 a,.int .i64 b]] w fun e w'=>e=.returned (.bool v)∧Below w.heap.size w w':=by
 subst h;by_cases h1:(k==1&&b==0)=true
 ·simp only [Bool.and_eq_true,beq_iff_eq] at h1;obtain ⟨rfl,rfl⟩:=h1;have e:zcj 1 a 0=true:=by simp [zcj]
  rw [e];cases hg:okB a 0 with
  | true=>exact zyp a w hg
  | false=>exact zzg a w hg
 ·rw [Bool.not_eq_true] at h1;have e:zcj k a b=(k==2&&okB a b):=by rw [zcj,h1,Bool.false_or]
  rw [e];cases hg:okB a b with
  | true =>
   by_cases h2:k=2
   ·subst h2;exact zz2 a b w hg
   ·have e2:(k==2)=false:=by simpa using h2
    rw [e2];exact zy6 k a b w hg h1 e2
  | false =>
   rw [Bool.and_false];exact zxr k a b w hg h1
def GW (w:World):Prop:=w.cell? ⟨6,0,none⟩=some (.int .i64 0)∧w.cell? ⟨6,1,none⟩=some (.int .i64 0)∧w.cell? ⟨6,2,none⟩=some (.int .i64 8) ∧
 w.cell? ⟨6,3,none⟩=some (.int .i64 0)∧w.cell? ⟨6,4,none⟩=some (.int .i64 3)∧w.cell? ⟨6,5,none⟩=some (.int .i64 3)
theorem GW.keep {w w':World} (h:GW w) (hb:Below w.heap.size w w'):GW w':=by
 obtain ⟨h0,h1,h2,h3,h4,h5⟩:=h;exact ⟨(hb.cell (qi h0)).trans h0,(hb.cell (qi h1)).trans h1,(hb.cell (qi h2)).trans h2,(hb.cell (qi h3)).trans h3,(hb.cell (qi h4)).trans h4,(hb.cell (qi h5)).trans h5⟩
abbrev fG:Fct:=⟨GW,fun _ _ h hb=>h.keep hb⟩
theorem zpy (n:Int) (w:World):Calls Tryz.prog 169 #[.int .i64 n,.int .i64 0] w fun e w'=>e=.returned (.slice none 0 0)∧w=w':=by
 go_enter Tryz.func169,Tryz.ntmps169;go_wp2_with fail;go_ret;exact ⟨rfl,rfl⟩
theorem zoz (n:Int) (w:World):Calls Tryz.prog 169 #[.int .i64 n,.int .i64 8] w fun e w'=>e=.returned (.slice (some ⟨w.heap.size,0,none⟩) 8 8) ∧
   w'.ownsRow w.heap.size 5 1 (.slice (some ⟨w.heap.size,0,none⟩) 8 8) 8 (cel (qu n 8))∧Below w.heap.size w w':=by
 go_enter Tryz.func169,Tryz.ntmps169;go_wp2_with fail;refine (znd _ _).mono ?_;rintro e w1 ⟨rfl,ho1,hb1⟩;go_wp2_with fail;go_ret;exact ⟨rfl,ho1,hb1⟩
theorem zhw (n:Int) (w:World) (h1:-1048576≤n) (h2:n≤1048576):Calls Tryz.prog 169 #[.int .i64 n,.int .i64 3] w fun e w'=>∃A c,e=.returned (.slice A 3 c) ∧
   w'.ownsRow w.heap.size 5 1 (.slice A 3 c) 3 (cel (qu (n+1048576) 3))∧Below w.heap.size w w':=by
 have hp:zbb 3=16777216:=by decide
 have HP:Hid (zcn 3 (n+1048576)=0∧zan 3 (n+1048576)=qu (n+1048576) 3):=zy (k:=3) (by omega) (by omega) (by omega) (by rw [hp];omega);clear hp;go_enter Tryz.func169,Tryz.ntmps169;go_wp2_with fail;refine (zcq 3 (n+1048576) _).mono ?_;rintro e w1 ⟨A,c,rfl,ho1,hb1⟩;rw [HP.o.1,HP.o.2,qe];rw [HP.o.2,qe] at ho1;go_wp2_with fail;go_ret;exact ⟨A,c,rfl,ho1,hb1⟩
def zuc (k a b:Int):List Int:=if k=1 then 1::qu a 8 else 2::(qu (a+1048576) 3++qu (b+1048576) 3)
def qb1 (k a b:Int):Int:=if zcj k a b then 0 else 30
def qb2 (k a b:Int):List Int:=if zcj k a b then zuc k a b else []
theorem zvp (k a b:Int) (w:World) (h:zcj k a b=false):Calls Tryz.prog 107 #[.agg #[.int .u8 k,.int .i64 a,.int .i64 b]] w fun e w'=>e=.returned (.tuple #[.slice none 0 0,.int .i64 30])∧Below w.heap.size w w':=by
 have H:=zhy h;clear h;go_enter Tryz.func107,Tryz.ntmps107;go_wp2_with fail;refine (zm2 _ _ _ _ _ H.o).mono ?_;rintro e w1 ⟨rfl,hb1⟩;go_wp2_with fail;go_ret2;exact ⟨rfl,zdb hb1⟩
set_option maxRecDepth 100000 in
theorem zs5 (a:Int) (w:World) (hw:GW w):Calls Tryz.prog 107 #[.agg #[.int .u8 1,.int .i64 a,.int .i64 0]] w fun e w'=>∃A c,e=.returned (.tuple #[.slice A 9 c,.int .i64 0]) ∧
   w'.ownsRow w.heap.size 5 1 (.slice A 9 c) 9 (cel (1::qu a 8))∧Below w.heap.size w w':=by
 obtain ⟨i0,hi,hz0,hz1,hz2⟩:=info_parts Tryz.info5;have HM:Hid (zcj 1 a 0=true):=by simp [Hid,zcj]
 have G:=zhy hw;clear hw;go_enter Tryz.func107,Tryz.ntmps107;go_wp2_with fail;refine (zm2 _ _ _ _ _ HM.o).mono ?_;rintro e w1 ⟨rfl,hb1⟩;have S1:=zhy (((Sx.start w).add fG G.o).newV hb1);clear hb1 HM;obtain ⟨-,⟨z1,z2,z3,z4,-⟩,⟨g0,g1,g2,g3,g4,g5⟩,-⟩:=S1.o;go_upto_region 4 with (fail);have S2:=zhy (S1.o.mkP 8 0 250);clear z1 z2 z3 z4 g0 g1 g2 g3 g4 g5 S1 G;generalize w1.alloc (.cells #[.int .i64 8,.int .i64 0] 250)=w2 at *;refine wp_region_held_drew (S:=fun w'=>Hid (Below w2.heap.size w2 w')) (by kernel_rfl) (zhy (qf (Below.refl _ _) 1)) (fun hHeld=>?_);refine zq 0 (h:=?_);refine zq 1 (hy:=fun w hSw=>by (try dsimp only at hSw);obtain ⟨-,⟨-,t1,t2,-⟩,⟨-,s1,s2,s3,-⟩,-⟩:=S2.o.call hSw.o;go_simp;try with_reducible rfl) (h:=?_);refine zq 3 (h:=?_);refine zq 4 (hy:=fun w hSw=>by (try dsimp only at hSw);obtain ⟨-,⟨-,t1,t2,-⟩,⟨-,s1,s2,s3,-⟩,-⟩:=S2.o.call hSw.o;go_simp;try with_reducible rfl) (h:=?_);refine zq 5 (h:=?_);refine zq 6 (hy:=fun w hSw=>by (try dsimp only at hSw);obtain ⟨-,⟨-,t1,t2,-⟩,⟨-,s1,s2,s3,-⟩,-⟩:=S2.o.call hSw.o;go_simp;try with_reducible rfl) (h:=?_);refine wpAnyH_ready (rs:=[2,7]) (by kernel_rfl) (by simp) ?_;refine AllReadyH.cons rfl (fun K hK=>?_) ?_
 ·skip;go_simp;have O1:Hid ((w2.drew.alloc (.cells #[.int .u8 1] 5)).ownsRow w2.heap.size 5 1 (.slice (some ⟨w2.heap.size,0,none⟩) 1 1) 1 (cel [1])):=World.ownsRow_lit (base:=w2.heap.size) (e:=5) (size:=1) w2.drew #[.int .u8 1] 1 (Nat.le_refl _) (by unfold maxLen;simp) (by simp);refine hK.out _ _ (zhy (qc hHeld.o qh)) (fun hHeld=>?_);clear hK K;(try simp only [Act.put,zg1,zg2,zg3,zg4,zg5,zg6]);refine wpAnyH_ready (rs:=[7]) (by kernel_rfl) (by simp) ?_;refine AllReadyH.cons rfl (fun K hK=>?_) AllReadyH.nil;go_simp;refine (zoz a _).mono ?_;rintro e wb ⟨rfl,hob,hb⟩
  have R1:Hid (Rd wb (some ⟨w2.heap.size+1,0,none⟩) 8 (qu a 8)):=by
   have:=qt hob (qr _ _);simpa [Hid] using this
  clear hob;have O2:=zhy (qb O1.o hb (Nat.le_refl _));go_wp2_with fail;refine hK.out _ _ (zhy (qc hHeld.o hb)) (fun hHeld=>?_);clear hK K;(try simp only [Act.put,zg1,zg2,zg3,zg4,zg5,zg6]);refine wpAnyH_ready (rs:=[8]) (by kernel_rfl) (by simp) ?_;refine AllReadyH.cons rfl (fun K hK=>?_) AllReadyH.nil;refine jh rfl (.tmp 15) (.tmp 20) 40 rfl w2.heap.size 5 i0 Tryz.underlying40 hi hz0 hz1 hz2 _ 1 [1] rfl O2.o _ 8 8 (qu a 8) rfl R1.o (qe _ _).symm (by omega) hHeld.o.size ?_;intro A3 c3 w3 ho3 hb3;have O3:=zhy ho3;clear ho3;refine hK.out _ _ (zhy (hHeld.o.trans hb3)) (fun hHeld=>?_);clear hK K;(try simp only [Act.put,zg1,zg2,zg3,zg4,zg5,zg6]);refine zq 9 (h:=?_);refine wpAnyH_done (by kernel_rfl) ?_ _;obtain ⟨-,⟨-,t1,t2,-⟩,⟨-,s1,s2,s3,-⟩,-⟩:=S2.o.call hHeld.o;go_wp2_with fail;refine (zpy 0 _).mono ?_;rintro e w4 ⟨rfl,rfl⟩;go_wp2_with (at_builtin;refine qa _ rfl _ _ 40 rfl w2.heap.size 5 i0 Tryz.underlying40 hi hz0 hz1 hz2 _ 9 ([1]++qu a 8) rfl O3.o none 0 0 [] rfl (Rd.none_ _) rfl (by omega) hHeld.o.size ?_;intro A5 c5 w5 ho5 hg5 hb5 _);go_ret2;exact ⟨A5,c5,rfl,qg (by simpa using ho5) S2.o.1.size,qc S2.o.1 (hHeld.o.trans hb5)⟩
 refine AllReadyH.cons rfl (fun K hK=>?_) AllReadyH.nil;go_simp;refine (zoz a _).mono ?_;rintro e wb ⟨rfl,hob,hb⟩;have R1:=zhy (qt hob (qr _ _));clear hob;go_wp2_with fail;refine hK.out _ _ (zhy (qc hHeld.o hb)) (fun hHeld=>?_);clear hK K;(try simp only [Act.put,zg1,zg2,zg3,zg4,zg5,zg6]);refine wpAnyH_ready (rs:=[2]) (by kernel_rfl) (by simp) ?_;refine AllReadyH.cons rfl (fun K hK=>?_) AllReadyH.nil;go_simp;have O1:Hid ((wb.alloc (.cells #[.int .u8 1] 5)).ownsRow w2.heap.size 5 1 (.slice (some ⟨wb.heap.size,0,none⟩) 1 1) 1 (cel [1])):=qg (World.ownsRow_lit (base:=wb.heap.size) (e:=5) (size:=1) wb #[.int .u8 1] 1 (Nat.le_refl _) (by unfold maxLen;simp) (by simp)) hHeld.o.size;refine hK.out _ _ (zhy (qc hHeld.o qh)) (fun hHeld=>?_);clear hK K;(try simp only [Act.put,zg1,zg2,zg3,zg4,zg5,zg6]);refine wpAnyH_ready (rs:=[8]) (by kernel_rfl) (by simp) ?_;refine AllReadyH.cons rfl (fun K hK=>?_) AllReadyH.nil;refine jh rfl (.tmp 15) (.tmp 20) 40 rfl w2.heap.size 5 i0 Tryz.underlying40 hi hz0 hz1 hz2 _ 1 [1] rfl O1.o _ 8 8 (qu a 8) rfl (R1.o.alloc _) (qe _ _).symm (by omega) hHeld.o.size ?_;intro A3 c3 w3 ho3 hb3;have O3:=zhy ho3;clear ho3;refine hK.out _ _ (zhy (hHeld.o.trans hb3)) (fun hHeld=>?_);clear hK K;(try simp only [Act.put,zg1,zg2,zg3,zg4,zg5,zg6]);refine zq 9 (h:=?_);refine wpAnyH_done (by kernel_rfl) ?_ _;obtain ⟨-,⟨-,t1,t2,-⟩,⟨-,s1,s2,s3,-⟩,-⟩:=S2.o.call hHeld.o;go_wp2_with fail;refine (zpy 0 _).mono ?_;rintro e w4 ⟨rfl,rfl⟩;go_wp2_with (at_builtin;refine qa _ rfl _ _ 40 rfl w2.heap.size 5 i0 Tryz.underlying40 hi hz0 hz1 hz2 _ 9 ([1]++qu a 8) rfl O3.o none 0 0 [] rfl (Rd.none_ _) rfl (by omega) hHeld.o.size ?_;intro A5 c5 w5 ho5 hg5 hb5 _);go_ret2;exact ⟨A5,c5,rfl,qg (by simpa using ho5) S2.o.1.size,qc S2.o.1 (hHeld.o.trans hb5)⟩
set_option maxRecDepth 100000 in
theorem ztj (a b:Int) (w:World) (hw:GW w) (hg:okB a b=true):Calls Tryz.prog 107 #[.agg #[.int .u8 2,.int .i64 a,.int .i64 b]] w fun e w'=>∃A c,e=.returned (.tuple #[.slice A 7 c,.int .i64 0]) ∧
   w'.ownsRow w.heap.size 5 1 (.slice A 7 c) 7 (cel (2::(qu (a+1048576) 3++qu (b+1048576) 3)))∧Below w.heap.size w w':=by
 obtain ⟨i0,hi,hz0,hz1,hz2⟩:=info_parts Tryz.info5;obtain ⟨⟨a1,a2⟩,b1,b2⟩:=zhu.1 hg;have HM:Hid (zcj 2 a b=true):=by simp [Hid,zcj,hg]
 clear hg;have G:=zhy hw;clear hw;go_enter Tryz.func107,Tryz.ntmps107;go_wp2_with fail;refine (zm2 _ _ _ _ _ HM.o).mono ?_;rintro e w1 ⟨rfl,hb1⟩;have S1:=zhy (((Sx.start w).add fG G.o).newV hb1);clear hb1 HM;obtain ⟨-,⟨z1,z2,z3,z4,-⟩,⟨g0,g1,g2,g3,g4,g5⟩,-⟩:=S1.o;go_upto_region 4 with (fail);have S2:=zhy (S1.o.mkP 3 3 250);clear z1 z2 z3 z4 g0 g1 g2 g3 g4 g5 S1 G;generalize w1.alloc (.cells #[.int .i64 3,.int .i64 3] 250)=w2 at *;refine wp_region_held_drew (S:=fun w'=>Hid (Below w2.heap.size w2 w')) (by kernel_rfl) (zhy (qf (Below.refl _ _) 1)) (fun hHeld=>?_);refine zq 0 (h:=?_);refine zq 1 (hy:=fun w hSw=>by (try dsimp only at hSw);obtain ⟨-,⟨-,t1,t2,-⟩,⟨-,s1,s2,s3,-⟩,-⟩:=S2.o.call hSw.o;go_simp;try with_reducible rfl) (h:=?_);refine zq 3 (h:=?_);refine zq 4 (hy:=fun w hSw=>by (try dsimp only at hSw);obtain ⟨-,⟨-,t1,t2,-⟩,⟨-,s1,s2,s3,-⟩,-⟩:=S2.o.call hSw.o;go_simp;try with_reducible rfl) (h:=?_);refine zq 5 (h:=?_);refine zq 6 (hy:=fun w hSw=>by (try dsimp only at hSw);obtain ⟨-,⟨-,t1,t2,-⟩,⟨-,s1,s2,s3,-⟩,-⟩:=S2.o.call hSw.o;go_simp;try with_reducible rfl) (h:=?_);refine wpAnyH_ready (rs:=[2,7]) (by kernel_rfl) (by simp) ?_;refine AllReadyH.cons rfl (fun K hK=>?_) ?_
 ·skip;go_simp;have O1:Hid ((w2.drew.alloc (.cells #[.int .u8 2] 5)).ownsRow w2.heap.size 5 1 (.slice (some ⟨w2.heap.size,0,none⟩) 1 1) 1 (cel [2])):=World.ownsRow_lit (base:=w2.heap.size) (e:=5) (size:=1) w2.drew #[.int .u8 2] 1 (Nat.le_refl _) (by unfold maxLen;simp) (by simp);refine hK.out _ _ (zhy (qc hHeld.o qh)) (fun hHeld=>?_);clear hK K;(try simp only [Act.put,zg1,zg2,zg3,zg4,zg5,zg6]);refine wpAnyH_ready (rs:=[7]) (by kernel_rfl) (by simp) ?_;refine AllReadyH.cons rfl (fun K hK=>?_) AllReadyH.nil;go_simp;refine (zhw a _ (by omega) (by omega)).mono ?_;rintro e wb ⟨Ab,cb,rfl,hob,hb⟩;have R1:=zhy (qt hob (qr _ _));clear hob;have O2:=zhy (qb O1.o hb (Nat.le_refl _));go_wp2_with fail;refine hK.out _ _ (zhy (qc hHeld.o hb)) (fun hHeld=>?_);clear hK K;(try simp only [Act.put,zg1,zg2,zg3,zg4,zg5,zg6]);refine wpAnyH_ready (rs:=[8]) (by kernel_rfl) (by simp) ?_;refine AllReadyH.cons rfl (fun K hK=>?_) AllReadyH.nil;refine jh rfl (.tmp 15) (.tmp 20) 40 rfl w2.heap.size 5 i0 Tryz.underlying40 hi hz0 hz1 hz2 _ 1 [2] rfl O2.o _ 3 cb (qu (a+1048576) 3) rfl R1.o (qe _ _).symm (by omega) hHeld.o.size ?_;intro A3 c3 w3 ho3 hb3;have O3:=zhy ho3;clear ho3;refine hK.out _ _ (zhy (hHeld.o.trans hb3)) (fun hHeld=>?_);clear hK K;(try simp only [Act.put,zg1,zg2,zg3,zg4,zg5,zg6]);refine zq 9 (h:=?_);refine wpAnyH_done (by kernel_rfl) ?_ _;obtain ⟨-,⟨-,t1,t2,-⟩,⟨-,s1,s2,s3,-⟩,-⟩:=S2.o.call hHeld.o;go_wp2_with fail;refine (zhw b _ b1 b2).mono ?_;rintro e w4 ⟨A4,c4,rfl,ho4,hb4⟩;have R4:=zhy (qt ho4 (qr _ _));have O4:=zhy (qb O3.o hb4 (Nat.le_refl _));have S4:=zhy (qc hHeld.o hb4);clear ho4 hb4 t1 t2 s1 s2 s3;go_wp2_with (at_builtin;refine qa _ rfl _ _ 40 rfl w2.heap.size 5 i0 Tryz.underlying40 hi hz0 hz1 hz2 _ 4 ([2]++qu (a+1048576) 3) rfl O4.o A4 3 c4 (qu (b+1048576) 3) rfl R4.o (qe _ _).symm (by omega) S4.o.size ?_;intro A5 c5 w5 ho5 hg5 hb5 _);go_ret2;exact ⟨A5,c5,rfl,qg (by simpa using ho5) S2.o.1.size,qc S2.o.1 (S4.o.trans hb5)⟩
 refine AllReadyH.cons rfl (fun K hK=>?_) AllReadyH.nil;go_simp;refine (zhw a _ (by omega) (by omega)).mono ?_;rintro e wb ⟨Ab,cb,rfl,hob,hb⟩;have R1:=zhy (qt hob (qr _ _));clear hob;go_wp2_with fail;refine hK.out _ _ (zhy (qc hHeld.o hb)) (fun hHeld=>?_);clear hK K;(try simp only [Act.put,zg1,zg2,zg3,zg4,zg5,zg6]);refine wpAnyH_ready (rs:=[2]) (by kernel_rfl) (by simp) ?_;refine AllReadyH.cons rfl (fun K hK=>?_) AllReadyH.nil;go_simp;have O1:Hid ((wb.alloc (.cells #[.int .u8 2] 5)).ownsRow w2.heap.size 5 1 (.slice (some ⟨wb.heap.size,0,none⟩) 1 1) 1 (cel [2])):=qg (World.ownsRow_lit (base:=wb.heap.size) (e:=5) (size:=1) wb #[.int .u8 2] 1 (Nat.le_refl _) (by unfold maxLen;simp) (by simp)) hHeld.o.size;refine hK.out _ _ (zhy (qc hHeld.o qh)) (fun hHeld=>?_);clear hK K;(try simp only [Act.put,zg1,zg2,zg3,zg4,zg5,zg6]);refine wpAnyH_ready (rs:=[8]) (by kernel_rfl) (by simp) ?_;refine AllReadyH.cons rfl (fun K hK=>?_) AllReadyH.nil;refine jh rfl (.tmp 15) (.tmp 20) 40 rfl w2.heap.size 5 i0 Tryz.underlying40 hi hz0 hz1 hz2 _ 1 [2] rfl O1.o _ 3 cb (qu (a+1048576) 3) rfl (R1.o.alloc _) (qe _ _).symm (by omega) hHeld.o.size ?_;intro A3 c3 w3 ho3 hb3;have O3:=zhy ho3;clear ho3;refine hK.out _ _ (zhy (hHeld.o.trans hb3)) (fun hHeld=>?_);clear hK K;(try simp only [Act.put,zg1,zg2,zg3,zg4,zg5,zg6]);refine zq 9 (h:=?_);refine wpAnyH_done (by kernel_rfl) ?_ _;obtain ⟨-,⟨-,t1,t2,-⟩,⟨-,s1,s2,s3,-⟩,-⟩:=S2.o.call hHeld.o;go_wp2_with fail;refine (zhw b _ b1 b2).mono ?_;rintro e w4 ⟨A4,c4,rfl,ho4,hb4⟩;have R4:=zhy (qt ho4 (qr _ _));have O4:=zhy (qb O3.o hb4 (Nat.le_refl _));have S4:=zhy (qc hHeld.o hb4);clear ho4 hb4 t1 t2 s1 s2 s3;go_wp2_with (at_builtin;refine qa _ rfl _ _ 40 rfl w2.heap.size 5 i0 Tryz.underlying40 hi hz0 hz1 hz2 _ 4 ([2]++qu (a+1048576) 3) rfl O4.o A4 3 c4 (qu (b+1048576) 3) rfl R4.o (qe _ _).symm (by omega) S4.o.size ?_;intro A5 c5 w5 ho5 hg5 hb5 _);go_ret2;exact ⟨A5,c5,rfl,qg (by simpa using ho5) S2.o.1.size,qc S2.o.1 (S4.o.trans hb5)⟩
theorem zxd:zbb 3=16777216:=by decide
theorem zvi (k a b e0:Int) (L:List Int) (n:Nat) (w:World) (hw:GW w) (h:qb1 k a b=e0∧qb2 k a b=L∧L.length=n):Calls Tryz.prog 107 #[.agg #[.int .u8 k,.int .i64 a,.int .i64 b]] w fun e w'=>∃A c,e=.returned (.tuple #[.slice A n c,.int .i64 e0]) ∧
   w'.ownsRow w.heap.size 5 1 (.slice A n c) n (cel L)∧Below w.heap.size w w':=by
 obtain ⟨rfl,rfl,rfl⟩:=h;unfold qb1 qb2;cases hm:zcj k a b with
 | false =>
  refine (zvp k a b w hm).mono ?_;rintro e w' ⟨rfl,hb⟩;exact ⟨none,0,rfl,World.ownsRow_nil _ _ _ _,hb⟩
 | true =>
  by_cases h1:k=1
  ·subst h1;have h0:b=0:=by simpa [zcj] using hm
   subst h0;rw [if_pos rfl,zuc,if_pos rfl];have e:(1::qu a 8).length=9:=by simp [qe]
   rw [if_pos rfl,e];exact zs5 a w hw
  ·have h2:k=2∧okB a b=true:=by simpa [zcj,h1] using hm
   obtain ⟨rfl,h2⟩:=h2;rw [if_pos rfl,zuc,if_neg (by decide)];have e:(2::(qu (a+1048576) 3++qu (b+1048576) 3)).length=7:=by simp [qe]
   rw [if_pos rfl,e];exact ztj a b w hw h2
theorem zuk (k a b:Int):Byt (zuc k a b):=by
 unfold zuc;split
 ·intro x hx;rcases List.mem_cons.1 hx with rfl | hx
  ·exact ⟨by decide,by decide⟩
  ·exact qr _ _ x hx
 ·intro x hx;rcases List.mem_cons.1 hx with rfl | hx
  ·exact ⟨by decide,by decide⟩
  ·exact zob (qr _ _) (qr _ _) x hx
section
open Go.ChangeShapes Go.WideShapes Go.ChangeAt Go.RowKit
theorem zxi:(Tryz.prog.globals[6]?).map (·.type)=some 251:=by kernel_rfl
theorem ztp {H:Type} {enc:TypeId×Value→H} {P:Program} {w:World} {base:Nat} {sp:Nat→Bool} {held:Bool} {fuel:Nat} {t e:TypeId} {k:IntKind} {n:Nat} {cs:List Value} {ds:List (DataW H)} {p:List MemPlace}
  (ht:P.underlying t=some (.array n e)) (he:P.underlying e=some (.int k)) (hE:P.cellsOf e=1) (h:DataW.trod enc P w base sp held fuel t cs=some (.agg ds,p)) (i:Nat) (hi:i<n) (z:Int) (hz:ds[i]?=some (.lit (.int k z))):cs[i]?=some (.int k z):=by
 obtain ⟨xs,m,rfl,hx,_,hn,hel⟩:=DataW.trod_array ht h;simp only [Prod.mk.injEq,DataW.agg.injEq] at hx;obtain ⟨rfl,_⟩:=hx;have h1:=hel i hi;rw [hE,Nat.mul_one] at h1;rw [List.getElem?_map] at hz;cases hxi:xs[i]? with
 | none=>rw [hxi] at hz;cases hz
 | some x =>
  rw [hxi] at hz h1;simp only [Option.map_some,Option.some.injEq] at hz;obtain ⟨q,e1,e2,_⟩:=DataW.trod_int he h1;rw [e2] at hz;simp only [DataW.lit.injEq,Lit.int.injEq,true_and] at hz;subst hz;have:=congrArg (fun l:List Value=>l[0]?) e1;simpa using this
theorem qba {H:Type} {enc:TypeId×Value→H} {P:Program} {w:World} {base:Nat} {sp:Nat→Bool} {held:Bool} {fuel:Nat} {t e:TypeId} {n c:Nat} {cs:List Value} {ds:List (DataW H)} {p:List MemPlace}
  (ht:P.underlying t=some (.array n e)) (hE:P.cellsOf e=c) (h:DataW.trod enc P w base sp held fuel t cs=some (.agg ds,p)) (i:Nat) (hi:i<n) (d:DataW H) (hz:ds[i]?=some d) :
  ∃m q,DataW.trod enc P w base sp held m e ((cs.drop (i*c)).take c)=some (d,q):=by
 obtain ⟨xs,m,rfl,hx,_,hn,hel⟩:=DataW.trod_array ht h;simp only [Prod.mk.injEq,DataW.agg.injEq] at hx;obtain ⟨rfl,_⟩:=hx;have h1:=hel i hi;rw [hE] at h1;rw [List.getElem?_map] at hz;cases hxi:xs[i]? with
 | none=>rw [hxi] at hz;cases hz
 | some x =>
  rw [hxi] at hz h1;simp only [Option.map_some,Option.some.injEq] at hz;exact ⟨m,x.2,by rw [h1,←hz]⟩
theorem qdk (laid:List (String×DataW Unit)) (k:Nat) (hpl:(laid.all fun x=>x.2.handleName?.isNone)=true) (hk:(laid[k]?).map (·.2)=some (.agg [.agg [.lit (.int .i64 0),.lit (.int .i64 0)],.agg [.lit (.int .i64 8),.lit (.int .i64 0)],.agg [.lit (.int .i64 3),.lit (.int .i64 3)]])) (hn:((laid[k]?).bind fun x=>Tryz.prog.globalNamed x.1)=some 6) {W:World}
  (h:laidMetH Tryz.prog laid W):GW W:=by
 rw [MakeChecks.laidMetH_plain _ _ _ hpl] at h;obtain ⟨ps,hl,_,_⟩:=h;cases hx:laid[k]? with
 | none=>rw [hx] at hk;cases hk
 | some x =>
  obtain ⟨n,d⟩:=x;rw [hx] at hk hn;simp only [Option.map_some,Option.some.injEq] at hk;simp only [Option.bind_some] at hn;subst hk;obtain ⟨g0,t0,cs0,f0,p0,hg0,ht0,hv0,hd0⟩:=zfu hl k n _ hx;obtain rfl:=Option.some.inj (hn.symm.trans hg0);obtain rfl:=Option.some.inj (zxi.symm.trans ht0);have u1:=Tryz.underlying251;have u2:=Tryz.underlying250;have u3:=Tryz.underlying3;have c2:Tryz.prog.cellsOf 250=2:=by kernel_rfl
  have c3:Tryz.prog.cellsOf 3=1:=by kernel_rfl
  have hcell:∀i v,cs0.toList[i]?=some v→W.cell? ⟨6,i,none⟩=some v:=fun i v hi=>by
   have:=World.var?_cell hg0 hv0 i;rw [this];simpa using hi
  have row:∀i j z,i<3→j<2→(∃d1 d2,([.agg [.lit (.int .i64 0),.lit (.int .i64 0)],.agg [.lit (.int .i64 8),.lit (.int .i64 0)],.agg [.lit (.int .i64 3),.lit (.int .i64 3)]]:List (DataW Unit))[i]?=some (.agg [d1,d2])∧[d1,d2][j]?=some (.lit (.int .i64 z)))→cs0.toList[i*2+j]?=some (.int .i64 z):=by
   rintro i j z hi hj ⟨d1,d2,h1,h2⟩;obtain ⟨m,q,hm⟩:=qba u1 c2 hd0 i hi _ h1;have:=ztp u2 u3 c3 hm j hj z h2;rw [List.getElem?_take,if_pos hj,List.getElem?_drop] at this;exact this
  exact ⟨hcell 0 _ (row 0 0 0 (by decide) (by decide) ⟨_,_,rfl,rfl⟩),hcell 1 _ (row 0 1 0 (by decide) (by decide) ⟨_,_,rfl,rfl⟩),hcell 2 _ (row 1 0 8 (by decide) (by decide) ⟨_,_,rfl,rfl⟩),
   hcell 3 _ (row 1 1 0 (by decide) (by decide) ⟨_,_,rfl,rfl⟩),hcell 4 _ (row 2 0 3 (by decide) (by decide) ⟨_,_,rfl,rfl⟩),hcell 5 _ (row 2 1 3 (by decide) (by decide) ⟨_,_,rfl,rfl⟩)⟩
end
abbrev Vlu:=Int×Int×Int
def qb3 (x:Vlu):Prop:=(0≤x.1∧x.1<256)∧(-9223372036854775808≤x.2.1∧x.2.1≤9223372036854775807)∧(-9223372036854775808≤x.2.2∧x.2.2≤9223372036854775807)
def Rv (w:World) (A:Option Addr) (c:Nat) (L:List Vlu):Prop:=
 (∀x∈L,qb3 x)∧L.length≤c∧c≤maxLen∧((A=none∧c=0)∨∃ad:Addr,A=some ad∧∀i x,L[i]?=some x→w.cell? (ad.add (i*3))=some (.int .u8 x.1)∧w.cell? ⟨(ad.add (i*3)).block,(ad.add (i*3)).off+1,none⟩=some (.int .i64 x.2.1)∧w.cell? ⟨(ad.add (i*3)).block,(ad.add (i*3)).off+2,none⟩=some (.int .i64 x.2.2))
def cev (L:List Vlu):List Value:=L.flatMap fun x=>[.int .u8 x.1,.int .i64 x.2.1,.int .i64 x.2.2]
section
variable {w w' : World} {A : Option Addr} {c : Nat} {L : List Vlu}
theorem Rv.le (h:Rv w A c L):L.length≤c:=h.2.1
theorem Rv.len (h:Rv w A c L):L.length≤9223372036854775807:=Nat.le_trans h.le h.2.2.1
theorem Rv.at_ (h:Rv w A c L) {i:Nat} (hi:i<L.length):∃ad:Addr,A=some ad∧w.cell? (ad.add (i*3))=some (.int .u8 (L[i]).1)∧w.cell? ⟨(ad.add (i*3)).block,(ad.add (i*3)).off+1,none⟩=some (.int .i64 (L[i]).2.1)∧w.cell? ⟨(ad.add (i*3)).block,(ad.add (i*3)).off+2,none⟩=some (.int .i64 (L[i]).2.2):=by
 rcases h.2.2.2 with ⟨_,hc⟩ | ⟨ad,ha,hc⟩
 ·have:=h.le;omega
 ·exact ⟨ad,ha,hc i _ (zg7 hi)⟩
theorem Rv.none_ (w:World):Rv w none 0 []:=⟨fun x hx=>(by cases hx),Nat.le_refl _,Nat.zero_le _,.inl ⟨rfl,rfl⟩⟩
theorem Rv.keep (h:Rv w A c L) (hb:Below w.heap.size w w'):Rv w' A c L:=by
 refine ⟨h.1,h.2.1,h.2.2.1,?_⟩;rcases h.2.2.2 with hn | ⟨ad,ha,hc⟩
 ·exact .inl hn
 ·refine .inr ⟨ad,ha,fun i x hx=>?_⟩;obtain ⟨h1,h2,h3⟩:=hc i x hx;exact ⟨(hb.cell (qi h1)).trans h1,(hb.cell (qi h2)).trans h2,(hb.cell (qi h3)).trans h3⟩
end
abbrev fW (A:Option Addr) (c:Nat) (L:List Vlu):Fct:=⟨fun w=>Rv w A c L,fun _ _ h hb=>h.keep hb⟩
theorem zdw (L:List Vlu):(cev L).length=L.length*3:=by
 induction L with
 | nil=>rfl
 | cons x L ih=>rw [cev,List.flatMap_cons,List.length_append,←cev,ih];simp;omega
theorem zog (L M:List Vlu):cev (L++M)=cev L++cev M:=by simp [cev]
theorem zmz (x:Vlu) (L:List Vlu):cev (x::L)=.int .u8 x.1::.int .i64 x.2.1::.int .i64 x.2.2::cev L:=by simp [cev]
theorem zxh (L:List Vlu):∀u∈cev L,u.oneCell'=true:=by
 intro u hu;simp only [cev,List.mem_flatMap] at hu;obtain ⟨x,_,hx⟩:=hu;simp at hx;rcases hx with rfl | rfl | rfl<;>rfl
theorem zwt {L:List Vlu} {i:Nat} {x:Vlu} (h:L[i]?=some x):(cev L)[i*3]?=some (.int .u8 x.1)∧(cev L)[i*3+1]?=some (.int .i64 x.2.1)∧(cev L)[i*3+2]?=some (.int .i64 x.2.2):=by
 induction L generalizing i with
 | nil=>simp at h
 | cons y L ih =>
  cases i with
  | zero =>
   simp at h;subst h;rw [zmz];exact ⟨rfl,rfl,rfl⟩
  | succ i =>
   obtain ⟨h1,h2,h3⟩:=ih (i:=i) (by simpa using h);rw [zmz,show (i+1)*3=i*3+1+1+1 by omega,show i*3+1+1+1+1=(i*3+1)+1+1+1 by omega,show i*3+1+1+1+2=(i*3+2)+1+1+1 by omega];simp only [List.getElem?_cons_succ];exact ⟨h1,h2,h3⟩
theorem zze {L:List Vlu} {j:Nat} {u:Value} (h:(cev L)[j]?=some u):∃i x,L[i]?=some x∧((j=i*3∧u=.int .u8 x.1)∨(j=i*3+1∧u=.int .i64 x.2.1)∨(j=i*3+2∧u=.int .i64 x.2.2)):=by
 have hj:=(zg8.1 h).1;rw [zdw] at hj;have hi:j / 3<L.length:=by omega
 have hx:L[j / 3]?=some L[j / 3]:=zg7 hi;obtain ⟨h1,h2,h3⟩:=zwt hx;refine ⟨j / 3,_,hx,?_⟩;have h3':j % 3=0∨j % 3=1∨j % 3=2:=by omega
 rcases h3' with e | e | e
 ·have e':j=j / 3*3:=by omega
  rw [←e',h] at h1;exact .inl ⟨e',Option.some.inj h1⟩
 ·have e':j=j / 3*3+1:=by omega
  rw [←e',h] at h2;exact .inr (.inl ⟨e',Option.some.inj h2⟩)
 ·have e':j=j / 3*3+2:=by omega
  rw [←e',h] at h3;exact .inr (.inr ⟨e',Option.some.inj h3⟩)
theorem zqy (ad:Addr) (k:Nat):ad.add (k+1)=⟨(ad.add k).block,(ad.add k).off+1,none⟩:=by
 unfold Addr.add;rw [if_neg (by omega)];split
 ·subst_vars;rfl
 ·rfl
theorem zqp (ad:Addr) (k:Nat):ad.add (k+2)=⟨(ad.add k).block,(ad.add k).off+2,none⟩:=by
 unfold Addr.add;rw [if_neg (by omega)];split
 ·subst_vars;rfl
 ·rfl
theorem Rv.of_own {w:World} {A:Option Addr} {c base e:Nat} {n:Nat} {L:List Vlu} (h:w.ownsRow base e 3 (.slice A n c) n (cev L)) (hb:∀x∈L,qb3 x):Rv w A c L∧n=L.length:=by
 have hn:n=L.length:=by have:=h.1;rw [zdw] at this;omega
 refine ⟨⟨hb,?_⟩,hn⟩;have hcell:=fun g=>h.cells (g:=g);rcases h.2 with ⟨hv,h0⟩ | ⟨g,cap,cur,hv,_,_,hcap,hm,_⟩
 ·injection hv with e1 e2 e3;exact ⟨by omega,by omega,.inl ⟨e1,e3⟩⟩
 ·injection hv with e1 e2 e3;subst e1 e3;refine ⟨by omega,hm,.inr ⟨_,rfl,fun i x hx=>?_⟩⟩;obtain ⟨h1,h2,h3⟩:=zwt hx;rw [←zqy,←zqp];exact ⟨hcell g rfl _ _ h1,hcell g rfl _ _ h2,hcell g rfl _ _ h3⟩
theorem zvs {w:World} {ad:Addr} {c:Nat} {L:List Vlu} (h:Rv w (some ad) c L) (hc:0<c):∀j u,(cev L)[j]?=some u→w.cell? (ad.add j)=some u:=by
 intro j u hj;obtain ⟨i,x,hx,hu⟩:=zze hj;rcases h.2.2.2 with ⟨ha,_⟩ | ⟨ad',ha,hcell⟩
 ·cases ha
 ·injection ha with ha;subst ha;obtain ⟨h1,h2,h3⟩:=hcell i x hx;rw [←zqy] at h2;rw [←zqp] at h3;rcases hu with ⟨rfl,rfl⟩ | ⟨rfl,rfl⟩ | ⟨rfl,rfl⟩
  ·exact h1
  ·exact h2
  ·exact h3
theorem Tryz.infoV:(Tryz.prog.info? 139).map (fun i=>(i.zero,i.size,i.bytes))=some (some (.agg #[.int .u8 0,.int .i64 0,.int .i64 0]),3,24):=by kernel_rfl
theorem zeg (w:World) {ops:Array Oper} {rest:List Oper} {o:Oper} {a:Act} {Q:Exit→Act→World→Prop} (hgd:o.guard=none) (s x:Operand)
  (ho:o.op=.call { callee:=.builtin .append,args:=#[s,x],argTypes:=#[22,22]})
  (base:Nat) (v:Value) (n:Nat) (K:List Vlu) (hs:a.eval s=v) (hown:w.ownsRow base 139 3 v n (cev K))
  (A:Option Addr) (m c:Nat) (L:List Vlu) (hx:a.eval x=.slice A m c) (hr:Rv w A c L) (hm:m=L.length) (hbytes:n+m≤1000000) (hbase:base≤w.heap.size)
  (h:∀A' c' w',w'.ownsRow base 139 3 (.slice A' (n+m) c') (n+m) (cev (K++L))→Below base w w'→wpList Tryz.prog ops Q rest (a.put o.dst (.slice A' (n+m) c')) w'):wpList Tryz.prog ops Q (o::rest) a w:=by
 have hinfo:=Tryz.infoV;rw [Option.map_eq_some_iff] at hinfo;obtain ⟨i,hi,hz⟩:=hinfo;simp only [Prod.mk.injEq] at hz;obtain ⟨hz0,hz1,hz2⟩:=hz;have hbel:∀{w'},w.grownBy w' v.ownBlock→Below base w w':=fun hg=>(Below.refl _ _).grown hg hbase fun g hg'=>(hown.lt g hg').1;rcases hr.2.2.2 with ⟨rfl,rfl⟩ | ⟨ad,rfl,hcell⟩
 ·have h0:L=[]:=List.eq_nil_of_length_eq_zero (by have:=hr.le;omega);subst h0;obtain rfl:m=0:=hm;refine wpList_append_own_none hgd s x 22 ho base 139 i 3 Tryz.underlying22 hi v n (cev K) hs hown hx ?_;obtain ⟨A',c',rfl⟩:=qv hown;have:=h A' c' w (by simpa using hown) (hbel (World.grownBy.refl w _));simpa using this
 ·by_cases hc:c=0
  ·subst hc;have h0:L=[]:=List.eq_nil_of_length_eq_zero (by have:=hr.le;omega);subst h0;obtain rfl:m=0:=hm;refine wpList_append_own_at w hgd s x 22 ho base 139 i _ 3 24 Tryz.underlying22 hi hz0 hz1 hz2 rfl (by decide) v n (cev K) hs hown ad 0 0 [] hx rfl (fun j u hj=>by cases hj) (fun u hu=>by cases hu) (by unfold maxLen;omega) (by omega) hbase ?_;intro v' w' hown' hg _ _;obtain ⟨A',c',rfl⟩:=qv hown';exact h A' c' w' (by simpa using hown') (hbel hg)
  ·refine wpList_append_own_at w hgd s x 22 ho base 139 i _ 3 24 Tryz.underlying22 hi hz0 hz1 hz2 rfl (by decide) v n (cev K) hs hown ad m c (cev L) hx (by rw [zdw,hm])
    (zvs hr (by omega)) (zxh L) (by unfold maxLen;omega) (by omega) hbase ?_
   intro v' w' hown' hg _ _;obtain ⟨A',c',rfl⟩:=qv hown';exact h A' c' w' (by rw [zog];exact hown') (hbel hg)
theorem zbd (A:Option Addr) (c m:Nat) (L:List Vlu) (w:World) (hr:Rv w A c L) (hm:L.length=m) (hl:m≤1000000):Calls Tryz.prog 32 #[.slice A m c] w fun e w'=>∃A' c',e=.returned (.slice A' m c')∧w'.ownsRow w.heap.size 139 3 (.slice A' m c') m (cev L)∧Below w.heap.size w w':=by
 go_enter Tryz.func32,Tryz.ntmps32;go_wp2_with (at_builtin;refine zeg _ rfl _ _ rfl w.heap.size _ 0 [] rfl (World.ownsRow_nil _ _ _ _) A m c L rfl hr hm.symm (by omega) (Nat.le_refl _) ?_);intro A' c' w1 ho hb;have HO:=zhy ho;have HB:=zhy hb;clear ho hb;go_wp2_with fail;go_ret;exact ⟨A',c',rfl,HO.o,HB.o⟩
theorem zw8 (x y:Vlu):(x.1==y.1&&x.2.1==y.2.1&&x.2.2==y.2.2)=decide (x=y):=by
 obtain ⟨a,b,c⟩:=x;obtain ⟨a',b',c'⟩:=y;by_cases e1:a=a'<;>by_cases e2:b=b'<;>by_cases e3:c=c'<;>simp [e1,e2,e3]
theorem zgj (A B:Option Addr) (c d n m:Nat) (L M:List Vlu) (w:World) (h1:Rv w A c L) (h2:Rv w B d M) (hn:L.length=n) (hm:M.length=m):Calls Tryz.prog 41 #[.slice A n c,.slice B m d] w fun e w'=>e=.returned (.bool (decide (L=M)))∧Below w.heap.size w w':=by
 have hl1:=h1.len;have hl2:=h2.len;have HR1:=zhy h1;have HR2:=zhy h2;clear h1 h2;by_cases hnm:n=m
 ·subst hn;have hml:M.length=L.length:=by omega
  subst hnm;clear hm;go_enter Tryz.func41,Tryz.ntmps41;go_wp2_with fail;go_loopw [5] (fun i wr=>∃j:Nat,j≤L.length∧i=.int .i64 j∧Hid (L.take j=M.take j)∧Hid (Below w.heap.size w wr)) (fun i _=>L.length-(intOf i).toNat)
  case atStart=>exact ⟨0,by omega,rfl,rfl,zhy (Below.refl _ _)⟩
  case round =>
   obtain ⟨j,hj,rfl,HE,HB⟩:=hrel;by_cases h:j<L.length
   ·have h':j<M.length:=by omega
    obtain ⟨a1,rfl,x0,x1,x2⟩:=(HR1.o.keep HB.o).at_ h;obtain ⟨a2,rfl,y0,y1,y2⟩:=(HR2.o.keep HB.o).at_ h';cases hv:decide (L[j]=M[j]) with
    | true =>
     have HN:Hid (L.take (j+1)=M.take (j+1)):=by
      have e:L[j]=M[j]:=of_decide_eq_true hv;rw [Hid,List.take_add_one,List.take_add_one,HE.o,zg7 h,zg7 h',e]
     have q:=zdf 9998 L[j].1 L[j].2.1 L[j].2.2 M[j].1 M[j].2.1 M[j].2.2 true (by rw [zw8];exact hv);clear HE hv;generalize L[j]=x at *;generalize M[j]=y at *;go_wp2_with fail;go_quiet (fail);go_wp2;go_roundw
     case rel=>exact ⟨j+1,by omega,by go_num,HN,zhy (qf HB.o _)⟩
     case measure=>simp [intOf];omega
    | false =>
     have HN:Hid (decide (L=M)=false):=by
      have e:¬L[j]=M[j]:=of_decide_eq_false hv;exact decide_eq_false fun e2=>e (by subst e2;rfl)
     have q:=zdf 9998 L[j].1 L[j].2.1 L[j].2.2 M[j].1 M[j].2.1 M[j].2.2 false (by rw [zw8];exact hv);clear HE hv;generalize L[j]=x at *;generalize M[j]=y at *;go_wp2_with fail;go_quiet (fail);go_wp2;go_ret;exact ⟨by rw [HN.o];rfl,qf HB.o _⟩
   ·obtain rfl:j=L.length:=by omega
    have HN:Hid (decide (L=M)=true):=by
     have:=HE.o;rw [List.take_length,List.take_of_length_le (by omega)] at this;exact decide_eq_true this
    go_wp2;go_ret;exact ⟨by rw [HN.o];rfl,HB.o⟩
 ·have HN:Hid (decide (L=M)=false):=decide_eq_false fun e=>hnm (by rw [←hn,←hm,e]);go_enter Tryz.func41,Tryz.ntmps41;go_wp2_with fail;go_ret;exact ⟨by rw [HN.o];rfl,Below.refl _ _⟩
end Go.Proofs.YtnjgkkoiamiaaaaGreatDoor
