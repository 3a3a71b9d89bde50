import Derived.Test.YtnjgkkoiamiaaaaGreatDoorVta1
import Derived.Test.YtnjgkkoiamiaaaaGreatDoorVta2
import Derived.Test.YtnjgkkoiamiaaaaGreatDoorVta3
import Derived.OwnWalk
import Derived.Laws.OwnMore
import Derived.ProofKit
import Derived.OpenShut
import Derived.ChangeSame
import Derived.ChangeSlices
import Derived.ChangeArms
import Derived.Deep.Slices
import Derived.Deep.Fields
set_option maxRecDepth 100000
set_option maxHeartbeats 16000000
set_option linter.unusedSimpArgs false
set_option linter.unusedVariables false
namespace Go.Proofs.YtnjgkkoiamiaaaaGreatDoor
open Go.RowKit
theorem zo7 {n:Int} {k:Nat} (h1:1≤k) (h8:k≤8) (h0:0≤n) (h:0<sh n k):zcn k n=11∧zan k n=[]:=by
 refine zhx h1 h8 (.inr ?_);rcases Int.lt_or_le n (zbb k) with h2 | h2
 ·rw [qb0 h0 h2] at h;simp at h
 ·exact h2
theorem zq3 {n:Int} {k:Nat} (h1:1≤k) (h8:k≤8) (h0:0≤n) (h:sh n k≤0):zcn k n=0∧zan k n=qu n k:=by
 refine zy h1 h8 h0 ?_;have hp:=zdh k;rw [qbm] at h;have h3:=Int.emod_lt_of_pos n hp;have h4:=Int.emod_add_mul_ediv n (zbb k);have h5:0≤n / zbb k:=Int.ediv_nonneg h0 (Int.le_of_lt hp);have h6:n / zbb k=0:=by omega
 rw [h6] at h4;omega
theorem za6 (W n:Int) (w:World) (hn:n≤9223372036854775807) :
  Calls Tryz.prog 177 #[.int .i64 W,.int .i64 n] w fun e w'=>∃A c,e=.returned (.tuple #[.slice A (zan W n).length c,.int .i64 (zcn W n)]) ∧
   w'.ownsRow w.heap.size 5 1 (.slice A (zan W n).length c) (zan W n).length (cel (zan W n))∧Below w.heap.size w w':=by
 obtain ⟨i0,hi,hz0,hz1,hz2⟩:=info_parts Tryz.info5;by_cases hW1:W<1
 ·have e1:zcn W n=2:=by simp [zcn,hW1]
  have e2:zan W n=[]:=by simp [zan,e1]
  rw [e1,e2];clear e1 e2;go_enter Tryz.func177,Tryz.ntmps177;go_wp2_with fail;go_ret2;exact ⟨none,0,rfl,World.ownsRow_nil _ _ _ _,Below.refl _ _⟩
 by_cases hW8:8<W
 ·have e1:zcn W n=2:=by simp [zcn,hW8]
  have e2:zan W n=[]:=by simp [zan,e1]
  rw [e1,e2];clear e1 e2;go_enter Tryz.func177,Tryz.ntmps177;go_wp2_with fail;go_ret2;exact ⟨none,0,rfl,World.ownsRow_nil _ _ _ _,Below.refl _ _⟩
 obtain ⟨k,rfl⟩:∃k:Nat,W=k:=⟨W.toNat,by omega⟩;have h1:1≤k:=by omega
 have h8:k≤8:=by omega
 clear hW1 hW8;by_cases hneg:n<0
 ·obtain ⟨e1,e2⟩:=zhx h1 h8 (n:=n) (.inl hneg);rw [e1,e2];clear e1 e2;go_enter Tryz.func177,Tryz.ntmps177;go_wp2_with fail;go_ret2;exact ⟨none,0,rfl,World.ownsRow_nil _ _ _ _,Below.refl _ _⟩
 have h0:0≤n:=by omega
 clear hneg;go_enter Tryz.func177,Tryz.ntmps177;go_wp2_with fail
 go_loopw [1,6,7] (fun x b i wr=>∃(j:Nat) (A:Option Addr) (c:Nat),j≤k∧i=.int .i64 j∧x=.int .i64 (sh n j)∧b=.slice A j c∧wr.ownsRow w.heap.size 5 1 (.slice A j c) j (cel (qu n j))∧Below w.heap.size w wr)
  (fun _ _ i _=>k-(intOf i).toNat)
 case atStart=>exact ⟨0,none,0,Nat.zero_le _,rfl,rfl,rfl,World.ownsRow_nil _ _ _ _,Below.refl _ _⟩
 case round =>
  obtain ⟨j,A,c,hj,rfl,rfl,rfl,hown,hb⟩:=hrel;by_cases hlt:j<k
  ·have hs0:=zc0 n h0 j;have hs9:sh n j≤9223372036854775807:=Int.le_trans (zx8 n h0 j) hn;have hx:0≤sh n j % 256∧sh n j % 256<256:=by omega
   have hone:=qo wr (sh n j % 256) hx;have hown1:=hown.alloc (.cells #[.int .u8 (sh n j % 256)] 5);have hb1:=hb.alloc hb.size (.cells #[.int .u8 (sh n j % 256)] 5);have HR:=zhy hone;have HO:=zhy hown1;have HB:=zhy hb1;clear hone hown1 hb1 hown hb;go_wp2_with (at_builtin;refine qa _ rfl _ _ 40 rfl w.heap.size 5 i0 Tryz.underlying40 hi hz0 hz1 hz2 _ j (qu n j) rfl HO.o _ 1 1 [sh n j % 256] rfl HR.o rfl (by omega) HB.o.size ?_);intro A' c' w2 hown2 _ hb2 _;have HB2:=zhy (HB.o.trans hb2);have HO2:=zhy hown2;clear hb2 hown2;go_wp2_with fail;go_roundw
   case rel=>exact ⟨j+1,A',c',by omega,by go_num,by rw [sh],rfl,by rw [zc1];exact HO2.o,HB2.o⟩
   case measure=>simp [intOf];omega
  ·obtain rfl:j=k:=by omega
   by_cases hz:0<sh n j
   ·obtain ⟨e1,e2⟩:=zo7 h1 h8 h0 hz;have E1:=zhy e1;have E2:=zhy e2;have HB:=zhy hb;clear e1 e2 hown hb;go_wp2_with fail;go_ret2;rw [E1.o,E2.o];exact ⟨none,0,rfl,World.ownsRow_nil _ _ _ _,HB.o⟩
   ·obtain ⟨e1,e2⟩:=zq3 h1 h8 h0 (Int.not_lt.1 hz);have E1:=zhy e1;have E2:=zhy e2;have HB:=zhy hb;have HO:=zhy hown;clear e1 e2 hown hb;go_wp2_with fail;go_ret2;rw [E1.o,E2.o,qe];exact ⟨A,c,rfl,HO.o,HB.o⟩
def tur (n:Int):Int:=if n<0 then -(n+1) else n
theorem zod (n:Int):0≤tur n:=by unfold tur;split<;>omega
theorem qcq (n:Int) (k:Nat):sh (-(n+1)) k=-(sh n k+1):=by
 induction k with
 | zero=>rfl
 | succ k ih=>simp only [sh];rw [ih];omega
theorem zrp (n:Int) (k:Nat):sh n k % 256=if n<0 then 255-sh (tur n) k % 256 else sh (tur n) k % 256:=by
 by_cases h:n<0
 ·rw [if_pos h,tur,if_pos h,qcq];omega
 ·rw [if_neg h,tur,if_neg h]
theorem zur (n:Int) (w:World) (hn1:-9223372036854775808≤n) (hn2:n≤9223372036854775807) :
  Calls Tryz.prog 220 #[.int .i64 n] w fun e w'=>∃A c,e=.returned (.slice A 8 c) ∧
   w'.ownsRow w.heap.size 5 1 (.slice A 8 c) 8 (cel (qu n 8))∧Below w.heap.size w w':=by
 obtain ⟨i0,hi,hz0,hz1,hz2⟩:=info_parts Tryz.info5;have HT0:=zod n;have HT9:tur n≤9223372036854775807:=by unfold tur;split<;>omega
 by_cases hneg:n<0
 ·have HT:=zhy (show tur n=-(n+1) by rw [tur,if_pos hneg]);have HD:=zhy (fun k=>(zrp n k).trans (if_pos hneg));go_enter Tryz.func220,Tryz.ntmps220;go_wp2_with fail
  go_loopw [0,4,5] (fun x b i wr=>∃(j:Nat) (A:Option Addr) (c:Nat),j≤8∧i=.int .i64 j∧x=.int .i64 (sh (tur n) j)∧b=.slice A j c∧wr.ownsRow w.heap.size 5 1 (.slice A j c) j (cel (qu n j))∧Below w.heap.size w wr)
   (fun _ _ i _=>8-(intOf i).toNat)
  case atStart=>exact ⟨0,none,0,Nat.zero_le _,rfl,by rw [sh,HT.o],rfl,World.ownsRow_nil _ _ _ _,Below.refl _ _⟩
  case round =>
   obtain ⟨j,A,c,hj,rfl,rfl,rfl,hown,hb⟩:=hrel;by_cases hlt:j<8
   ·have hs0:=zc0 (tur n) HT0 j;have hs9:sh (tur n) j≤9223372036854775807:=Int.le_trans (zx8 (tur n) HT0 j) HT9;have hx:0≤255-sh (tur n) j % 256∧255-sh (tur n) j % 256<256:=by omega
    have hone:=qo wr (255-sh (tur n) j % 256) hx;have hown1:=hown.alloc (.cells #[.int .u8 (255-sh (tur n) j % 256)] 5);have hb1:=hb.alloc hb.size (.cells #[.int .u8 (255-sh (tur n) j % 256)] 5);have HR:=zhy hone;have HO:=zhy hown1;have HB:=zhy hb1;clear hone hown1 hb1 hown hb;go_wp2_with (at_builtin;refine qa _ rfl _ _ 40 rfl w.heap.size 5 i0 Tryz.underlying40 hi hz0 hz1 hz2 _ j (qu n j) rfl HO.o _ 1 1 [255-sh (tur n) j % 256] rfl HR.o rfl (by omega) HB.o.size ?_);intro A' c' w2 hown2 _ hb2 _;have HB2:=zhy (HB.o.trans hb2);have HO2:=zhy hown2;clear hb2 hown2;go_wp2_with fail;go_roundw
    case rel=>exact ⟨j+1,A',c',by omega,by go_num,by rw [sh],rfl,by rw [zc1,HD.o j];exact HO2.o,HB2.o⟩
    case measure=>simp [intOf];omega
   ·obtain rfl:j=8:=by omega
    have HB:=zhy hb;have HO:=zhy hown;clear hown hb;go_wp2_with fail;go_ret;exact ⟨A,c,rfl,HO.o,HB.o⟩
 ·have HT:=zhy (show tur n=n by rw [tur,if_neg hneg]);have HD:=zhy (fun k=>(zrp n k).trans (if_neg hneg));go_enter Tryz.func220,Tryz.ntmps220;go_wp2_with fail
  go_loopw [0,4,5] (fun x b i wr=>∃(j:Nat) (A:Option Addr) (c:Nat),j≤8∧i=.int .i64 j∧x=.int .i64 (sh (tur n) j)∧b=.slice A j c∧wr.ownsRow w.heap.size 5 1 (.slice A j c) j (cel (qu n j))∧Below w.heap.size w wr)
   (fun _ _ i _=>8-(intOf i).toNat)
  case atStart=>exact ⟨0,none,0,Nat.zero_le _,rfl,by rw [sh,HT.o],rfl,World.ownsRow_nil _ _ _ _,Below.refl _ _⟩
  case round =>
   obtain ⟨j,A,c,hj,rfl,rfl,rfl,hown,hb⟩:=hrel;by_cases hlt:j<8
   ·have hs0:=zc0 (tur n) HT0 j;have hs9:sh (tur n) j≤9223372036854775807:=Int.le_trans (zx8 (tur n) HT0 j) HT9;have hx:0≤sh (tur n) j % 256∧sh (tur n) j % 256<256:=by omega
    have hone:=qo wr (sh (tur n) j % 256) hx;have hown1:=hown.alloc (.cells #[.int .u8 (sh (tur n) j % 256)] 5);have hb1:=hb.alloc hb.size (.cells #[.int .u8 (sh (tur n) j % 256)] 5);have HR:=zhy hone;have HO:=zhy hown1;have HB:=zhy hb1;clear hone hown1 hb1 hown hb;go_wp2_with (at_builtin;refine qa _ rfl _ _ 40 rfl w.heap.size 5 i0 Tryz.underlying40 hi hz0 hz1 hz2 _ j (qu n j) rfl HO.o _ 1 1 [sh (tur n) j % 256] rfl HR.o rfl (by omega) HB.o.size ?_);intro A' c' w2 hown2 _ hb2 _;have HB2:=zhy (HB.o.trans hb2);have HO2:=zhy hown2;clear hb2 hown2;go_wp2_with fail;go_roundw
    case rel=>exact ⟨j+1,A',c',by omega,by go_num,by rw [sh],rfl,by rw [zc1,HD.o j];exact HO2.o,HB2.o⟩
    case measure=>simp [intOf];omega
   ·obtain rfl:j=8:=by omega
    have HB:=zhy hb;have HO:=zhy hown;clear hown hb;go_wp2_with fail;go_ret;exact ⟨A,c,rfl,HO.o,HB.o⟩
theorem zzm (a b:Int) (v:Bool) (w:World) (h:(b==0)=v):Calls Tryz.prog 219 #[.agg #[.int .u8 1,.int .i64 a,.int .i64 b]] w fun e w'=>e=.returned (.bool v)∧Below w.heap.size w w':=by
 cases v with
 | true =>
  go_enter Tryz.func219,Tryz.ntmps219;go_wp2_with fail;go_ret;exact ⟨rfl,qh⟩
 | false =>
  go_enter Tryz.func219,Tryz.ntmps219;go_wp2_with fail;go_ret;exact ⟨rfl,qh⟩
theorem zxg (a b:Int) (v:Bool) (w:World) (h:okB a b=v):Calls Tryz.prog 219 #[.agg #[.int .u8 2,.int .i64 a,.int .i64 b]] w fun e w'=>e=.returned (.bool v)∧Below w.heap.size w w':=by
 have H:=zhy h;clear h;go_enter Tryz.func219,Tryz.ntmps219;go_wp2_with fail;refine (qce _ _ _ _ H.o).mono ?_;rintro e w1 ⟨rfl,rfl⟩;go_wp2_with fail;go_ret;exact ⟨rfl,qh⟩
theorem zxm (k a b:Int) (w:World) (h1:(k==1)=false) (h2:(k==2)=false):Calls Tryz.prog 219 #[.agg #[.int .u8 k,.int .i64 a,.int .i64 b]] w fun e w'=>e=.returned (.bool false)∧Below w.heap.size w w':=by
 go_enter Tryz.func219,Tryz.ntmps219;go_wp2_with fail;go_ret;exact ⟨rfl,qh⟩
theorem zh3 (k a b:Int) (v:Bool) (w:World) (h:zcj k a b=v):Calls Tryz.prog 219 #[.agg #[.int .u8 k,.int .i64 a,.int .i64 b]] w fun e w'=>e=.returned (.bool v)∧Below w.heap.size w w':=by
 by_cases h1:k=1
 ·subst h1;exact zzm a b v w (by simpa [zcj] using h)
 ·by_cases h2:k=2
  ·subst h2;exact zxg a b v w (by simpa [zcj] using h)
  ·have e:zcj k a b=false:=by simp [zcj,h1,h2]
   rw [e] at h;subst h;exact zxm k a b w (by simpa using h1) (by simpa using h2)
theorem zoo (k a b:Int) (w:World) (h:zcj k a b=false):Calls Tryz.prog 176 #[.agg #[.int .u8 k,.int .i64 a,.int .i64 b]] w fun e w'=>e=.returned (.tuple #[.slice none 0 0,.int .i64 30])∧Below w.heap.size w w':=by
 have H:=zhy h;clear h;go_enter Tryz.func176,Tryz.ntmps176;go_wp2_with fail;refine (zh3 _ _ _ _ _ H.o).mono ?_;rintro e w1 ⟨rfl,hb1⟩;go_wp2_with fail;go_ret2;exact ⟨rfl,zdb hb1⟩
theorem zo4 (a:Int) (w:World) (ha:-9223372036854775808≤a∧a≤9223372036854775807):Calls Tryz.prog 176 #[.agg #[.int .u8 1,.int .i64 a,.int .i64 0]] w fun e w'=>∃A c,e=.returned (.tuple #[.slice A 9 c,.int .i64 0]) ∧
   w'.ownsRow w.heap.size 5 1 (.slice A 9 c) 9 (cel (1::qu a 8))∧Below w.heap.size w w':=by
 obtain ⟨i0,hi,hz0,hz1,hz2⟩:=info_parts Tryz.info5;have H:Hid (zcj 1 a 0=true):=by simp [Hid,zcj]
 have HA:=zhy ha;clear ha;go_enter Tryz.func176,Tryz.ntmps176;go_wp2_with fail;refine (zh3 _ _ _ _ _ H.o).mono ?_;rintro e w1 ⟨rfl,hb1⟩;have S1:=zhy ((Sx.start w).newV hb1);clear hb1;obtain ⟨-,⟨z0,z1,z2,z3,-⟩,-⟩:=S1.o;go_wp2_with fail;clear z0 z1 z2 z3;have O1:Hid ((w1.alloc (.cells #[.int .u8 1] 5)).ownsRow w1.heap.size 5 1 (.slice (some ⟨w1.heap.size,0,none⟩) 1 1) 1 (cel [1])):=World.ownsRow_lit (base:=w1.heap.size) (e:=5) (size:=1) w1 #[.int .u8 1] 1 (Nat.le_refl _) (by unfold maxLen;simp) (by simp);refine (zur a _ HA.o.1 HA.o.2).mono ?_;rintro e w2 ⟨A2,c2,rfl,ho2,hb2⟩;have R2:=zhy (qt ho2 (qr _ _));have O2:=zhy (qb O1.o hb2 (Nat.le_refl _));have B2:=zhy (zdb hb2);clear hb2 ho2 O1;go_wp2_with (at_builtin;refine qa _ rfl _ _ 40 rfl w1.heap.size 5 i0 Tryz.underlying40 hi hz0 hz1 hz2 _ 1 [1] rfl O2.o A2 8 c2 (qu a 8) rfl R2.o (qe _ _).symm (by omega) B2.o.size ?_;intro A5 c5 w5 ho5 hg5 hb5 _);go_ret2;exact ⟨A5,c5,rfl,qg (by simpa using ho5) S1.o.1.size,qc S1.o.1 (B2.o.trans hb5)⟩
theorem zrd (a b:Int) (w:World) (h:okB a b=true):Calls Tryz.prog 176 #[.agg #[.int .u8 2,.int .i64 a,.int .i64 b]] w fun e w'=>∃A c,e=.returned (.tuple #[.slice A 7 c,.int .i64 0]) ∧
   w'.ownsRow w.heap.size 5 1 (.slice A 7 c) 7 (cel (2::(qu (a+1048576) 3++qu (b+1048576) 3)))∧Below w.heap.size w w':=by
 obtain ⟨i0,hi,hz0,hz1,hz2⟩:=info_parts Tryz.info5;obtain ⟨⟨a1,a2⟩,b1,b2⟩:=zhu.1 h;have H:Hid (zcj 2 a b=true):=by simp [Hid,zcj,h]
 have PA:Hid (zcn 3 (a+1048576)=0∧zan 3 (a+1048576)=qu (a+1048576) 3):=zy (k:=3) (by omega) (by omega) (by omega) (by rw [zxd];omega);have PB:Hid (zcn 3 (b+1048576)=0∧zan 3 (b+1048576)=qu (b+1048576) 3):=zy (k:=3) (by omega) (by omega) (by omega) (by rw [zxd];omega);clear h;go_enter Tryz.func176,Tryz.ntmps176;go_wp2_with fail;refine (zh3 _ _ _ _ _ H.o).mono ?_;rintro e w1 ⟨rfl,hb1⟩;have S1:=zhy ((Sx.start w).newV hb1);clear hb1;obtain ⟨-,⟨z0,z1,z2,z3,-⟩,-⟩:=S1.o;go_wp2_with fail;clear z0 z1 z2 z3;refine (za6 3 (a+1048576) _ (by omega)).mono ?_;rintro e w2 ⟨A2,c2,rfl,ho2,hb2⟩;rw [PA.o.1,PA.o.2,qe];rw [PA.o.2,qe] at ho2;have S2:=zhy ((S1.o.call hb2).add (fR A2 c2 _) (qt ho2 (qr _ _)));clear hb2 ho2 S1;obtain ⟨-,-,⟨z0,z1,z2,z3,-⟩,-⟩:=S2.o;go_wp2_with fail;clear z0 z1 z2 z3;refine (za6 3 (b+1048576) _ (by omega)).mono ?_;rintro e w3 ⟨A3,c3,rfl,ho3,hb3⟩;rw [PB.o.1,PB.o.2,qe];rw [PB.o.2,qe] at ho3;have S3:=zhy ((S2.o.call hb3).add (fR A3 c3 _) (qt ho3 (qr _ _)));clear hb3 ho3 S2;have O1:Hid ((w3.alloc (.cells #[.int .u8 2] 5)).ownsRow w3.heap.size 5 1 (.slice (some ⟨w3.heap.size,0,none⟩) 1 1) 1 (cel [2])):=World.ownsRow_lit (base:=w3.heap.size) (e:=5) (size:=1) w3 #[.int .u8 2] 1 (Nat.le_refl _) (by unfold maxLen;simp) (by simp);go_wp2_with (at_builtin;refine qa _ rfl (.tmp 33) (.tmp 34) 40 rfl w3.heap.size 5 i0 Tryz.underlying40 hi hz0 hz1 hz2 _ 1 [2] rfl O1.o A2 3 c2 (qu (a+1048576) 3) rfl (Rd.alloc S3.o.2.2.1 _) (qe _ _).symm (by omega) qh.size ?_);intro A4 c4 w4 ho4 _ hb4 _;have O4:=zhy ho4;have B4:=zhy (qh.trans hb4);clear ho4 hb4 O1;go_wp2_with (at_builtin;refine qa _ rfl (.tmp 35) (.tmp 36) 40 rfl w3.heap.size 5 i0 Tryz.underlying40 hi hz0 hz1 hz2 _ 4 (2::qu (a+1048576) 3) rfl O4.o A3 3 c3 (qu (b+1048576) 3) rfl (Rd.keep S3.o.2.1 B4.o) (qe _ _).symm (by omega) B4.o.size ?_);intro A5 c5 w5 ho5 _ hb5 _;go_wp2_with fail;go_ret2;exact ⟨A5,c5,rfl,qg (by simpa using ho5) S3.o.1.size,qc S3.o.1 (B4.o.trans hb5)⟩
theorem zpl (k a b e0:Int) (L:List Int) (n:Nat) (w:World) (ha:-9223372036854775808≤a∧a≤9223372036854775807) (h:qb1 k a b=e0∧qb2 k a b=L∧L.length=n):Calls Tryz.prog 176 #[.agg #[.int .u8 k,.int .i64 a,.int .i64 b]] w fun e w'=>∃A c,e=.returned (.tuple #[.slice A n c,.int .i64 e0]) ∧
   w'.ownsRow w.heap.size 5 1 (.slice A n c) n (cel L)∧Below w.heap.size w w':=by
 obtain ⟨rfl,rfl,rfl⟩:=h;unfold qb1 qb2;cases hm:zcj k a b with
 | false =>
  refine (zoo k a b w hm).mono ?_;rintro e w' ⟨rfl,hb⟩;exact ⟨none,0,rfl,World.ownsRow_nil _ _ _ _,hb⟩
 | true =>
  by_cases h1:k=1
  ·subst h1;have h0:b=0:=by simpa [zcj] using hm
   subst h0;rw [if_pos rfl,zuc,if_pos rfl];have e:(1::qu a 8).length=9:=by simp [qe]
   rw [if_pos rfl,e];exact zo4 a w ha
  ·have h2:k=2∧okB a b=true:=by simpa [zcj,h1] using hm
   obtain ⟨rfl,h2⟩:=h2;rw [if_pos rfl,zuc,if_neg (by decide)];have e:(2::(qu (a+1048576) 3++qu (b+1048576) 3)).length=7:=by simp [qe]
   rw [if_pos rfl,e];exact zrd a b w h2
def vM (x:Vlu):Bool:=zcj x.1 x.2.1 x.2.2
def poM (L:List Vlu):Bool:=decide (L.length≤32)&&L.all vM
theorem zit (A:Option Addr) (c m:Nat) (L:List Vlu) (w:World) (hr:Rv w A c L) (hm:L.length=m):Calls Tryz.prog 175 #[.slice A m c] w fun e w'=>e=.returned (.bool (poM L))∧Below w.heap.size w w':=by
 subst hm;have hlen:=hr.len;have HR:=zhy hr;clear hr;go_enter Tryz.func175,Tryz.ntmps175;go_wp2_with fail;go_loopw [3] (fun i wr=>∃j:Nat,j≤L.length∧j≤33∧i=.int .i64 j∧Hid ((L.take j).all vM=true)∧Hid (Below w.heap.size w wr)) (fun i _=>L.length-(intOf i).toNat)
 case atStart=>exact ⟨0,by omega,by omega,rfl,rfl,zhy (Below.refl _ _)⟩
 case round =>
  obtain ⟨j,hj,hj2,rfl,HA,HB⟩:=hrel;by_cases h1:j<L.length
  ·by_cases h2:j≤32
   ·obtain ⟨ad,rfl,hc0,hc1,hc2⟩:=(HR.o.keep HB.o).at_ h1;go_wp2_with fail;refine (zh3 L[j].1 L[j].2.1 L[j].2.2 _ _ rfl).mono ?_;rintro e w1 ⟨rfl,hb1⟩;have HB1:=zhy (qc HB.o hb1);clear hb1 hc0 hc1 hc2 HB;cases hv:zcj L[j].1 L[j].2.1 L[j].2.2 with
    | true =>
     have HN:Hid ((L.take (j+1)).all vM=true):=by
      rw [Hid,List.take_add_one,zg7 h1];simp only [Option.toList_some,List.all_append,HA.o,List.all_cons,List.all_nil,Bool.and_true,Bool.true_and];exact hv
     clear HA;go_wp2_with fail;go_roundw
     case rel=>exact ⟨j+1,by omega,by omega,by go_num,HN,HB1⟩
     case measure=>simp [intOf];omega
    | false =>
     have HN:Hid (poM L=false):=by
      have:L.all vM=false:=List.all_eq_false.2 ⟨L[j],List.getElem_mem h1,by simp [vM,hv]⟩;rw [Hid,poM,this,Bool.and_false]
     go_wp2_with fail;go_ret;exact ⟨by rw [HN.o];rfl,HB1.o⟩
   ·have HN:Hid (poM L=false):=by rw [Hid,poM,decide_eq_false (show ¬L.length≤32 by omega)];simp
    go_wp2_with fail;go_ret;exact ⟨by rw [HN.o];simp [go_sem];omega,HB.o⟩
  ·obtain rfl:j=L.length:=by omega
   have HN:Hid (poM L=decide (L.length≤32)):=by
    have h2:=HA.o;rw [List.take_length] at h2;rw [Hid,poM,h2,Bool.and_true]
   clear HA;by_cases e2:L.length≤32
   ·go_wp2_with fail;go_ret;exact ⟨by rw [HN.o,decide_eq_true e2];simp [go_sem];omega,HB.o⟩
   ·go_wp2_with fail;go_ret;exact ⟨by rw [HN.o,decide_eq_false e2];simp [go_sem];omega,HB.o⟩
def vB (x:Vlu):List Int:=zuc x.1 x.2.1 x.2.2
def poB (L:List Vlu):List Int:=(L.length:Int)::L.flatMap vB
def poE (L:List Vlu):Int:=if poM L=true then 0 else 60
def poL (L:List Vlu):List Int:=if poM L=true then poB L else []
theorem zqe (x:Vlu):(vB x).length≤9:=by
 rw [vB,zuc];split<;>simp [qe]
theorem zpx (x:Vlu):Byt (vB x):=zuk _ _ _
theorem zpn:∀L:List Vlu,(L.flatMap vB).length≤9*L.length
 | []=>by simp
 | x::L=>by
  have h1:=zqe x;have h2:=zpn L;rw [List.flatMap_cons,List.length_append,List.length_cons];omega
theorem zy2 (L:List Vlu):Byt (L.flatMap vB):=by
 intro y hy;obtain ⟨x,_,hy⟩:=List.mem_flatMap.1 hy;exact zpx x y hy
theorem zzp {L:List Vlu} (h:L.length≤32):Byt (poB L):=by
 intro y hy;rcases List.mem_cons.1 hy with rfl | hy
 ·omega
 ·exact zy2 L y hy
theorem zmj {L:List Vlu} (h:poM L=true):L.length≤32:=by simp only [poM,Bool.and_eq_true,decide_eq_true_eq] at h;exact h.1
theorem zwp {L:List Vlu} (h:poM L=true):∀x∈L,vM x=true:=by simp only [poM,Bool.and_eq_true] at h;exact List.all_eq_true.1 h.2
theorem zkl (L:List Vlu):Byt (poL L):=by
 unfold poL;split
 ·rename_i h;exact zzp (zmj h)
 ·exact fun y hy=>(by cases hy)
theorem zh1 (L:List Vlu):(poL L).length≤289:=by
 unfold poL;split
 ·rename_i h;have h1:=zmj h;have h2:=zpn L;rw [poB,List.length_cons];omega
 ·simp
theorem zpv {x:Vlu} (h:vM x=true):qb1 x.1 x.2.1 x.2.2=0:=if_pos h
theorem zqj {x:Vlu} (h:vM x=true):qb2 x.1 x.2.1 x.2.2=vB x:=if_pos h
theorem ziq (A:Option Addr) (c m:Nat) (L:List Vlu) (w:World) (hr:Rv w A c L) (hm:L.length=m):Calls Tryz.prog 116 #[.slice A m c] w fun e w'=>∃A' c',e=.returned (.tuple #[.slice A' (poL L).length c',.int .i64 (poE L)])∧w'.ownsRow w.heap.size 5 1 (.slice A' (poL L).length c') (poL L).length (cel (poL L))∧Below w.heap.size w w':=by
 subst hm;obtain ⟨i0,hi,hz0,hz1,hz2⟩:=info_parts Tryz.info5;cases hc:poM L with
 | false =>
  have HC:=zhy hc;rw [poL,if_neg (by rw [hc];decide),poE,if_neg (by rw [hc];decide)];clear hc;go_enter Tryz.func116,Tryz.ntmps116;go_wp2_with fail;refine (zit A c _ L _ hr rfl).mono ?_;rintro e w1 ⟨rfl,hb1⟩;rw [HC.o];go_wp2_with fail;go_ret2;exact ⟨none,0,rfl,World.ownsRow_nil _ _ _ _,hb1⟩
 | true =>
  have HC:=zhy hc;rw [poL,if_pos hc,poE,if_pos hc];have hl2:=zmj hc;have HALL:=zhy (zwp hc);have HOK:=zhy hr.1;have S0:=zhy ((Sx.start w).add (fW A c L) hr);have HR0:=zhy hr;clear hc hr;go_enter Tryz.func116,Tryz.ntmps116;go_wp2_with fail;refine (zit A c _ L _ S0.o.2.1 rfl).mono ?_;rintro e w1 ⟨rfl,hb1⟩;rw [HC.o];have S1:=zhy (S0.o.call hb1);clear hb1 S0;go_wp2_with fail
  have HO1:=zhy (show (w1.alloc (.cells #[.int .u8 L.length] 5)).ownsRow w.heap.size 5 1 (.slice (some ⟨w1.heap.size,0,none⟩) 1 1) 1 (cel [(L.length:Int)]) from
   qg (World.ownsRow_lit (base:=w1.heap.size) (e:=5) (size:=1) w1 #[.int .u8 L.length] 1 (Nat.le_refl _) (by unfold maxLen;simp) (by simp)) S1.o.1.size)
  have S2:=zhy (S1.o.mk1 (.cells #[.int .u8 L.length] 5));have hmod:(L.length:Int) % 256=L.length:=by omega
  try rw [hmod]
  go_loopw [4,5] (fun o i wr=>∃(j:Nat) (A':Option Addr) (c':Nat) (X:List Int) (N:Nat),j≤L.length∧i=.int .i64 j∧o=.slice A' N c'∧N≤1+9*j∧Hid (X=(L.length:Int)::(L.take j).flatMap vB∧X.length=N∧wr.ownsRow w.heap.size 5 1 (.slice A' N c') N (cel X))∧Hid (Sx w wr [fW A c L]))
   (fun _ i _=>L.length-(intOf i).toNat)
  case atStart=>exact ⟨0,_,_,[(L.length:Int)],1,by omega,rfl,rfl,by omega,zhy ⟨by simp,rfl,HO1.o⟩,S2⟩
  case round =>
   obtain ⟨j,A',c',X,N,hj,rfl,rfl,hN,HX,S3⟩:=hrel;clear HO1 S1 S2;by_cases h1:j<L.length
   ·obtain ⟨ad,rfl,x0,x1,x2⟩:=S3.o.2.1.at_ h1;have HV:=zhy (HALL.o _ (List.getElem_mem h1));have HQ:=zhy (HOK.o _ (List.getElem_mem h1));have HL:Hid (L.take (j+1)=L.take j++[L[j]]):=by rw [Hid,List.take_add_one,zg7 h1];rfl
    generalize L[j]=x at *;have hbl:=zqe x;go_wp2_with fail;refine (zpl x.1 x.2.1 x.2.2 0 (vB x) _ _ HQ.o.2.1 ⟨zpv HV.o,zqj HV.o,rfl⟩).mono ?_;rintro e w3 ⟨A3,c3,rfl,ho3,hb3⟩;have HR1:=zhy (qt ho3 (zpx x));have HO3:=zhy (qb HX.o.2.2 hb3 (Nat.le_refl _));have S4:=zhy (S3.o.call hb3);have HX1:=zhy HX.o.1;have HX2:=zhy HX.o.2.1;clear HX ho3 hb3 x0 x1 x2 S3;go_wp2_with (at_builtin;refine qa _ rfl _ _ 40 rfl w.heap.size 5 i0 Tryz.underlying40 hi hz0 hz1 hz2 _ N X rfl HO3.o _ _ _ (vB x) rfl HR1.o rfl (by omega) S4.o.1.size ?_);intro A2 c2 w4 ho4 hg4 hb4 _;have HO4:=zhy ho4;have S5:=zhy (show Sx w w4 [fW (some ad) c L] from ⟨S4.o.1.trans hb4,HR0.o.keep (S4.o.1.trans hb4),trivial⟩);clear ho4 hg4 hb4 HO3 HR1 S4;go_wp2_with fail;go_roundw
    case rel=>exact ⟨j+1,A2,c2,_,N+(vB x).length,by omega,by go_num,rfl,by omega,zhy ⟨by rw [HX1.o,HL.o,List.flatMap_append,List.flatMap_cons,List.flatMap_nil,List.append_nil,List.cons_append],by rw [List.length_append,HX2.o],HO4.o⟩,S5⟩
    case measure=>simp [intOf];omega
   ·obtain rfl:j=L.length:=by omega
    have hx:=HX.o;rw [List.take_length,←poB] at hx;obtain ⟨rfl,rfl,ho⟩:=hx;have HO:=zhy ho;clear ho HX;go_wp2_with fail;go_ret2;exact ⟨A',c',rfl,HO.o,S3.o.1⟩
def zz7 (F:Fct):Prop:=∀(A:Option Addr) (c m:Nat) (L:List Vlu) (w:World),F.p w→Rv w A c L→L.length=m→m≤2000→Calls Tryz.prog 64 #[.slice A m c] w fun e w'=>∃A' c',e=.returned (.tuple #[.slice A' (poL L).length c',.int .i64 (poE L)]) ∧
 w'.ownsRow w.heap.size 5 1 (.slice A' (poL L).length c') (poL L).length (cel (poL L))∧Below w.heap.size w w'
structure Me where
 x:Mc
 m:Mh
 k:List Ins
def Me.ok (w:World) (z:Me):Prop:=Hd w z.x z.m∧Ri w z.x.D z.x.e z.k∧z.k.length=z.x.k
theorem Me.ok.keep {w w':World} {z:Me} (h:z.ok w) (hb:Below w.heap.size w w'):z.ok w':=⟨h.1.keep hb,h.2.1.keep hb,h.2.2⟩
abbrev ze (z:Me):Mh×List Ins:=(z.m,z.k)
def ce8 (z:Me):List Value:=[.slice z.x.A z.m.a.length z.x.c,.slice z.x.B z.m.l.length z.x.d,.int .u8 z.m.r,.bool z.m.q,.int .i64 z.m.f,.int .i64 z.m.s,.int .i64 z.m.h,.slice z.x.D z.x.k z.x.e]
def cem (Z:List Me):List Value:=Z.flatMap ce8
def At8 (w:World) (p:Addr) (z:Me):Prop:=w.cell? p=some (.slice z.x.A z.m.a.length z.x.c)∧w.cell? ⟨p.block,p.off+1,none⟩=some (.slice z.x.B z.m.l.length z.x.d)∧w.cell? ⟨p.block,p.off+2,none⟩=some (.int .u8 z.m.r) ∧
 w.cell? ⟨p.block,p.off+3,none⟩=some (.bool z.m.q)∧w.cell? ⟨p.block,p.off+4,none⟩=some (.int .i64 z.m.f)∧w.cell? ⟨p.block,p.off+5,none⟩=some (.int .i64 z.m.s)∧w.cell? ⟨p.block,p.off+6,none⟩=some (.int .i64 z.m.h) ∧
 w.cell? ⟨p.block,p.off+7,none⟩=some (.slice z.x.D z.x.k z.x.e)
theorem At8.keep {w w':World} {p:Addr} {z:Me} (h:At8 w p z) (hb:Below w.heap.size w w'):At8 w' p z:=by
 obtain ⟨h1,h2,h3,h4,h5,h6,h7,h8⟩:=h;have k:∀{a:Addr} {v:Value},w.cell? a=some v→w'.cell? a=some v:=fun hv=>(hb.cell (qi hv)).trans hv;exact ⟨k h1,k h2,k h3,k h4,k h5,k h6,k h7,k h8⟩
def Rm (w:World) (A:Option Addr) (c:Nat) (Z:List Me):Prop:=
 (∀z∈Z,z.ok w)∧Z.length≤c∧c≤maxLen∧((A=none∧c=0)∨∃ad:Addr,A=some ad∧∀i z,Z[i]?=some z→At8 w (ad.add (i*8)) z)
section
variable {w w' : World} {A : Option Addr} {c : Nat} {Z : List Me}
theorem Rm.le (h:Rm w A c Z):Z.length≤c:=h.2.1
theorem Rm.len (h:Rm w A c Z):Z.length≤9223372036854775807:=Nat.le_trans h.le h.2.2.1
theorem Rm.at_ (h:Rm w A c Z) {i:Nat} (hi:i<Z.length):∃ad:Addr,A=some ad∧At8 w (ad.add (i*8)) Z[i]∧(Z[i]).ok w:=by
 rcases h.2.2.2 with ⟨_,hc⟩ | ⟨ad,ha,hc⟩
 ·have:=h.le;omega
 ·exact ⟨ad,ha,hc i _ (zg7 hi),h.1 _ (List.getElem_mem hi)⟩
theorem Rm.none_ (w:World):Rm w none 0 []:=⟨fun x hx=>(by cases hx),Nat.le_refl _,Nat.zero_le _,.inl ⟨rfl,rfl⟩⟩
theorem Rm.keep (h:Rm w A c Z) (hb:Below w.heap.size w w'):Rm w' A c Z:=by
 refine ⟨fun z hz=>(h.1 z hz).keep hb,h.2.1,h.2.2.1,?_⟩;rcases h.2.2.2 with hn | ⟨ad,ha,hc⟩
 ·exact .inl hn
 ·exact .inr ⟨ad,ha,fun i z hz=>(hc i z hz).keep hb⟩
end
structure Md where
 g:List Vlu
 p:List Vlu
 s:List (Mh×List Ins)
 i:Int
structure Ma where
 G:Option Addr
 gc:Nat
 P:Option Addr
 pc:Nat
 A:Option Addr
 c:Nat
 Z:List Me
def Md.zero:Md:=⟨[],[],[],0⟩
def Ma.zero:Ma:=⟨none,0,none,0,none,0,[]⟩
abbrev dv (y:Ma) (d:Md):Value:=.agg #[.slice y.G d.g.length y.gc,.slice y.P d.p.length y.pc,.slice y.A d.s.length y.c,.int .i64 d.i]
def zn (y:Ma) (d:Md):Obj:=.cells #[.slice y.G d.g.length y.gc,.slice y.P d.p.length y.pc,.slice y.A d.s.length y.c,.int .i64 d.i] 25
def Hq (w:World) (y:Ma) (d:Md):Prop:=Rv w y.G y.gc d.g∧Rv w y.P y.pc d.p∧Rm w y.A y.c y.Z∧y.Z.map ze=d.s∧(-9223372036854775808≤d.i∧d.i≤9223372036854775807)
theorem Hq.keep {w w':World} {y:Ma} {d:Md} (h:Hq w y d) (hb:Below w.heap.size w w'):Hq w' y d:=⟨h.1.keep hb,h.2.1.keep hb,h.2.2.1.keep hb,h.2.2.2⟩
theorem Hq.zlen {w:World} {y:Ma} {d:Md} (h:Hq w y d):y.Z.length=d.s.length:=by rw [←h.2.2.2.1,List.length_map]
theorem Hq.zat {w:World} {y:Ma} {d:Md} (h:Hq w y d) {i:Nat} (h1:i<y.Z.length) (h2:i<d.s.length):d.s[i]=((y.Z[i]).m,(y.Z[i]).k):=by
 have e:=h.2.2.2.1;have:d.s[i]?=(y.Z.map ze)[i]?:=by rw [e]
 rw [zg7 h2,List.getElem?_map,zg7 h1] at this;simpa using this
abbrev fQm (y:Ma) (d:Md):Fct:=⟨fun w=>Hq w y d,fun _ _ h hb=>h.keep hb⟩
def Db (w:World) (B:Nat) (y:Ma) (d:Md):Prop:=B<w.heap.size∧w.cell? ⟨B,0,none⟩=some (.slice y.G d.g.length y.gc)∧w.cell? ⟨B,1,none⟩=some (.slice y.P d.p.length y.pc)∧w.cell? ⟨B,2,none⟩=some (.slice y.A d.s.length y.c)∧w.cell? ⟨B,3,none⟩=some (.int .i64 d.i)
theorem Db.new (w:World) (y:Ma) (d:Md):Db (w.alloc (zn y d)) w.heap.size y d:=by
 refine ⟨by simp,?_,?_,?_,?_⟩<;>simp [go_sem,zn]
theorem Db.keep {w w':World} {B:Nat} {y:Ma} {d:Md} (h:Db w B y d) (hb:Below w.heap.size w w'):Db w' B y d:=by
 obtain ⟨h0,h1,h2,h3,h4⟩:=h;obtain ⟨hc,hf⟩:=zbi hb;exact ⟨Nat.lt_of_lt_of_le h0 hb.size,(hc _ _ h0).trans h1,(hc _ _ h0).trans h2,(hc _ _ h0).trans h3,(hc _ _ h0).trans h4⟩
abbrev fD (B:Nat) (y:Ma) (d:Md):Fct:=⟨fun w=>Db w B y d,fun _ _ h hb=>h.keep hb⟩
theorem Sx.mkD {w0 w:World} {L:List Fct} (h:Sx w0 w L) (y:Ma) (d:Md):Sx w0 (w.alloc (zn y d)) (fD w.heap.size y d::L):=(h.mk1 _).add (fD w.heap.size y d) (Db.new w y d)
def qgE (z:Mh×List Ins):Bool:=gB z.1||decide (300<z.2.length)
def qG (d:Md):Bool:=decide (100<d.g.length)||(decide (100<d.p.length)||(decide (40<d.s.length)||d.s.any qgE))
def qmE:List (Mh×List Ins)→Int
 | []=>0
 | z::s=>if mM z.1=true then (if jq z.2=true then qmE s else 40) else 70
def qmB (s:List (Mh×List Ins)):List Int:=s.flatMap fun z=>mL z.1++ze8 z.2
def qX (d:Md):List Int:=poB d.g++(poB d.p++((d.s.length:Int)::(qmB d.s++[if d.i<0 then 255 else d.i])))
def qE (d:Md):Int:=
 if 4<d.g.length∨16<d.s.length∨d.i < -1∨(d.s.length:Int)≤d.i then 80 else
 if poM d.g=true then (if poM d.p=true then (if qmE d.s=0 then (if 2000<(qX d).length then 3 else 0) else qmE d.s) else 60) else 60
def qB (d:Md):List Int:=if qE d=0 then qX d else []
def qsS:List (Mh×List Ins)→List (Mh×List Ins)→Bool
 | [],[]=>true
 | z::s,y::t=>(mS z.1 y.1&&decide (z.2=y.2))&&qsS s t
 | _,_=>false
def qS (a b:Md):Bool:=a.i==b.i&&(decide (a.g=b.g)&&(decide (a.p=b.p)&&qsS a.s b.s))
theorem zkj:∀{s t:List (Mh×List Ins)},qsS s t=true↔s=t
 | [],[]=>by simp [qsS]
 | [],_::_=>by simp [qsS]
 | _::_,[]=>by simp [qsS]
 | (m,k)::s,(m',k')::t=>by
  rw [qsS,Bool.and_eq_true,Bool.and_eq_true,qb8,zkj (s:=s) (t:=t)];simp
theorem qbd {a b:Md}:qS a b=true↔a=b:=by
 obtain ⟨g,p,s,i⟩:=a;obtain ⟨g',p',s',i'⟩:=b;simp only [qS,Bool.and_eq_true,zkj,decide_eq_true_eq,beq_iff_eq,Md.mk.injEq];constructor
 ·rintro ⟨h1,h2,h3,h4⟩;exact ⟨h2,h3,h4,h1⟩
 ·rintro ⟨h2,h3,h4,h1⟩;exact ⟨h1,h2,h3,h4⟩
theorem zx5 (d:Md):qS d d=true:=qbd.2 rfl
theorem Rm.each {w:World} {ad:Addr} {c:Nat} {Z:List Me} {j:Nat} (h1:j<Z.length):∀w',Rm w' (some ad) c Z→At8 w' (ad.add (j*8)) Z[j]∧(Z[j]).ok w':=by
 intro w' h;obtain ⟨ad',e',ha,hk⟩:=h.at_ h1;obtain rfl:=Option.some.inj e';exact ⟨ha,hk⟩
theorem zvv (y:Ma) (d:Md) (w:World) (hq:Hq w y d):Calls Tryz.prog 9 #[dv y d] w fun e w'=>e=.returned (.bool (qG d))∧Below w.heap.size w w':=by
 obtain ⟨v,hv⟩:∃v,qG d=v:=⟨_,rfl⟩;have HV:=zhy hv;rw [hv];clear hv;have hlg:=hq.1.len;have hlp:=hq.2.1.len;have hls:=hq.2.2.1.len;have hzl:=hq.zlen;rw [hzl] at hls;have HZL:=zhy hzl;have HZA:=zhy (fun (i:Nat) (h1:i<y.Z.length) (h2:i<d.s.length)=>hq.zat h1 h2);obtain ⟨G,gc,P,pc,A,c,Z⟩:=y;dsimp only at HZL HZA hzl;have S0:=zhy (((Sx.start w).add (fQm ⟨G,gc,P,pc,A,c,Z⟩ d) hq).mkD ⟨G,gc,P,pc,A,c,Z⟩ d);clear hq hzl;obtain ⟨-,⟨z0,z1,z2,z3,z4⟩,-⟩:=S0.o;dsimp only at z1 z2 z3;by_cases b1:100<d.g.length
 ·have HN:Hid (v=true):=by rw [Hid,←HV.o,qG,decide_eq_true b1];rfl
  go_enter Tryz.func9,Tryz.ntmps9;go_wp2_with fail;go_ret;exact ⟨by rw [HN.o];rfl,S0.o.1⟩
 ·by_cases b2:100<d.p.length
  ·have HN:Hid (v=true):=by rw [Hid,←HV.o,qG,decide_eq_true b2];simp
   go_enter Tryz.func9,Tryz.ntmps9;go_wp2_with fail;go_ret;exact ⟨by rw [HN.o];rfl,S0.o.1⟩
  ·by_cases b3:40<d.s.length
   ·have HN:Hid (v=true):=by rw [Hid,←HV.o,qG,decide_eq_true b3];simp
    go_enter Tryz.func9,Tryz.ntmps9;go_wp2_with fail;go_ret;exact ⟨by rw [HN.o];rfl,S0.o.1⟩
   ·have HV2:Hid (d.s.any qgE=v):=by rw [Hid,←HV.o,qG,decide_eq_false b1,decide_eq_false b2,decide_eq_false b3];rfl
    clear HV;go_enter Tryz.func9,Tryz.ntmps9;go_upto_region 3 with (fail);generalize hw0:w.alloc (.cells #[.slice G d.g.length gc,.slice P d.p.length pc,.slice A d.s.length c,.int .i64 d.i] 25)=w0 at *;have S1:Hid (Sx w w0 [fD w.heap.size ⟨G,gc,P,pc,A,c,Z⟩ d,fQm ⟨G,gc,P,pc,A,c,Z⟩ d]):=by rw [←hw0];exact S0
    clear S0 z0 z1 z2 z3 z4 hw0;go_wp2_with fail;go_loopw [3] (fun i wr=>∃j:Nat,j≤d.s.length∧i=.int .i64 j∧Hid ((d.s.take j).any qgE=false)∧Hid (Sx w wr [fD w.heap.size ⟨G,gc,P,pc,A,c,Z⟩ d,fQm ⟨G,gc,P,pc,A,c,Z⟩ d])) (fun i _=>d.s.length-(intOf i).toNat)
    case atStart=>exact ⟨0,by omega,rfl,by simp [Hid],S1⟩
    case round =>
     obtain ⟨j,hj,rfl,HT,S2⟩:=hrel;clear S1;obtain ⟨-,⟨z0,z1,z2,z3,z4⟩,-⟩:=S2.o;dsimp only at z1 z2 z3;by_cases h1:j<d.s.length
     ·have h1z:j<Z.length:=by rw [HZL.o];exact h1
      have hR:Rm wr A c Z:=S2.o.2.2.1.2.2.1;obtain ⟨ad,rfl,-,-⟩:=hR.at_ h1z;have HE:=zhy (Rm.each (w:=wr) (ad:=ad) (c:=c) h1z);have HS:Hid (d.s.any qgE=true→v=true):=fun h=>by rw [←HV2.o];exact h
      have HJ:Hid (d.s[j]=((Z[j]).m,(Z[j]).k)):=HZA.o j h1z h1
      have HTN:Hid (qgE d.s[j]=false→(d.s.take (j+1)).any qgE=false):=fun h=>by
       rw [List.take_add_one,zg7 h1,List.any_append,HT.o];simp [h]
      have HTY:Hid (qgE d.s[j]=true→v=true):=fun h=>HS.o (List.any_eq_true.2 ⟨_,List.getElem_mem h1,h⟩);rw [HJ.o] at HTN HTY;obtain ⟨⟨a1,a2,a3,a4,a5,a6,a7,a8⟩,hok⟩:=HE.o wr hR;clear HJ HS HT hR;generalize Z[j]=z at *;obtain ⟨x,m,k⟩:=z;dsimp only at a1 a2 a3 a4 a5 a6 a7 a8 hok HTN HTY;have hP:=zhy (zyk x m wr hok.1);have hkl:k.length=x.k:=hok.2.2;have HKL:=zhy hkl;have hkm:=hok.2.1.len;rw [hkl] at hkm;clear hok hkl;go_wp2_with fail;refine hP.o.mono ?_;rintro e w3 ⟨rfl,hb3⟩;have S3:=zhy (S2.o.call hb3);have hR:Rm w3 (some ad) c Z:=S3.o.2.2.1.2.2.1;obtain ⟨⟨b1,b2,b3,b4,b5,b6,b7,b8⟩,-⟩:=HE.o w3 hR;dsimp only at b1 b2 b3 b4 b5 b6 b7 b8;clear hb3 S2 hP hR z0 z1 z2 z3 z4 a1 a2 a3 a4 a5 a6 a7 a8;obtain ⟨-,⟨z0,z1,z2,z3,z4⟩,-⟩:=S3.o;dsimp only at z1 z2 z3;cases hg:gB m with
      | true =>
       have HN:=zhy (HTY.o (by simp [qgE,hg]));clear HTN HTY hg;go_wp2_with fail;go_ret;exact ⟨by rw [HN.o];rfl,S3.o.1⟩
      | false =>
       by_cases h3:300<x.k
       ·have HN:=zhy (HTY.o (by simp [qgE,hg,HKL.o,h3]));clear HTN HTY hg;go_wp2_with fail;go_ret;exact ⟨by rw [HN.o];rfl,S3.o.1⟩
       ·have HN:=zhy (HTN.o (by simp [qgE,hg,HKL.o];omega));clear HTN HTY hg;go_wp2_with fail;go_roundw
        case rel=>exact ⟨j+1,by omega,by go_num,HN,S3⟩
        case measure=>simp [intOf];omega
     ·obtain rfl:j=d.s.length:=by omega
      have HN:Hid (v=false):=by
       have:=HT.o;rw [List.take_length] at this;rw [Hid,←HV2.o,this]
      clear HT;go_wp2_with fail;go_ret;exact ⟨by rw [HN.o];rfl,S2.o.1⟩
theorem qa5 {s t:List (Mh×List Ins)} {j:Nat} (h:j<s.length) (h2:j<t.length):qsS (s.drop j) (t.drop j)=((mS (s[j]).1 (t[j]).1&&decide ((s[j]).2=(t[j]).2))&&qsS (s.drop (j+1)) (t.drop (j+1))):=by
 rw [List.drop_eq_getElem_cons h,List.drop_eq_getElem_cons h2,qsS]
theorem zye {s t:List (Mh×List Ins)} (h:s.length≠t.length):qsS s t=false:=by
 cases hq:qsS s t with
 | false=>rfl
 | true=>exact absurd (by rw [zkj.1 hq]) h
theorem zt8 (y t:Ma) (d e:Md) (v:Bool) (w:World) (hy:Hq w y d) (ht:Hq w t e) (hv:qS d e=v) :
  Calls Tryz.prog 17 #[dv y d,dv t e] w fun r w'=>r=.returned (.bool v)∧Below w.heap.size w w':=by
 have hls:=hy.2.2.1.len;have hls2:=ht.2.2.1.len;have hzl:=hy.zlen;have hzl2:=ht.zlen;rw [hzl] at hls;rw [hzl2] at hls2;have HZL:=zhy (And.intro hzl hzl2);have HZA:=zhy (fun (i:Nat) (h1:i<y.Z.length) (h2:i<d.s.length)=>hy.zat h1 h2);have HZB:=zhy (fun (i:Nat) (h1:i<t.Z.length) (h2:i<e.s.length)=>ht.zat h1 h2);obtain ⟨G,gc,P,pc,A,c,Z⟩:=y;obtain ⟨G2,gc2,P2,pc2,A2,c2,Z2⟩:=t;dsimp only at HZL HZA HZB hzl hzl2;have S0:=zhy (((((Sx.start w).add (fQm ⟨G,gc,P,pc,A,c,Z⟩ d) hy).add (fQm ⟨G2,gc2,P2,pc2,A2,c2,Z2⟩ e) ht).mkD ⟨G,gc,P,pc,A,c,Z⟩ d).mkD ⟨G2,gc2,P2,pc2,A2,c2,Z2⟩ e);rw [qn] at S0;have HV:=zhy hv;clear hy ht hv hzl hzl2;obtain ⟨-,⟨y0,y1,y2,y3,y4⟩,⟨x0,x1,x2,x3,x4⟩,-⟩:=S0.o;dsimp only at x1 x2 x3 y1 y2 y3;by_cases hi:d.i=e.i
 ·have E0:(d.i != e.i)=false:=by simpa using hi
  have HI:=zhy hi;clear hi;go_enter Tryz.func17,Tryz.ntmps17;go_wp2_with fail;refine (zgj G G2 gc gc2 _ _ d.g e.g _ S0.o.2.2.2.2.1.1 S0.o.2.2.2.1.1 rfl rfl).mono ?_;rintro r1 w1 ⟨rfl,hb1⟩;have S1:=zhy (S0.o.call hb1);clear hb1 S0;clear y0 y1 y2 y3 y4 x0 x1 x2 x3 x4;obtain ⟨-,⟨y0,y1,y2,y3,y4⟩,⟨x0,x1,x2,x3,x4⟩,-⟩:=S1.o;dsimp only at x1 x2 x3 y1 y2 y3;by_cases hg:d.g=e.g
  ·rw [decide_eq_true hg];have HG:=zhy hg;clear hg;go_wp2_with fail;refine (zgj P P2 pc pc2 _ _ d.p e.p _ S1.o.2.2.2.2.1.2.1 S1.o.2.2.2.1.2.1 rfl rfl).mono ?_;rintro r1 w2 ⟨rfl,hb2⟩;have S2:=zhy (S1.o.call hb2);clear hb2 S1;clear y0 y1 y2 y3 y4 x0 x1 x2 x3 x4;obtain ⟨-,⟨y0,y1,y2,y3,y4⟩,⟨x0,x1,x2,x3,x4⟩,-⟩:=S2.o;dsimp only at x1 x2 x3 y1 y2 y3;by_cases hp:d.p=e.p
   ·rw [decide_eq_true hp];have HP:=zhy hp;clear hp;by_cases hn:d.s.length=e.s.length
    ·have HNL:=zhy hn;have E1:((d.s.length:Int) != (e.s.length:Int))=false:=by simp [hn]
     have HQ:Hid (qsS d.s e.s=v):=by
      rw [Hid,←HV.o,qS,decide_eq_true HG.o,decide_eq_true HP.o,HI.o];simp
     clear hn HV;go_wp2_with fail;clear E1;clear y0 y1 y2 y3 y4 x0 x1 x2 x3 x4;go_loopw [5] (fun i wr=>∃j:Nat,j≤d.s.length∧i=.int .i64 j∧Hid (qsS d.s e.s=qsS (d.s.drop j) (e.s.drop j))∧Hid (Sx w wr [fD (w.heap.size+1) ⟨G2,gc2,P2,pc2,A2,c2,Z2⟩ e,fD w.heap.size ⟨G,gc,P,pc,A,c,Z⟩ d,fQm ⟨G2,gc2,P2,pc2,A2,c2,Z2⟩ e,fQm ⟨G,gc,P,pc,A,c,Z⟩ d])) (fun i _=>d.s.length-(intOf i).toNat)
     case atStart=>exact ⟨0,by omega,rfl,by simp [Hid],S2⟩
     case round =>
      obtain ⟨j,hj,rfl,HT,S1⟩:=hrel;clear S2;obtain ⟨-,⟨y0,y1,y2,y3,y4⟩,⟨x0,x1,x2,x3,x4⟩,-⟩:=S1.o;dsimp only at x1 x2 x3 y1 y2 y3;by_cases h1:j<d.s.length
      ·have h2:j<e.s.length:=by rw [←HNL.o];exact h1
       have h1z:j<Z.length:=by rw [HZL.o.1];exact h1
       have h2z:j<Z2.length:=by rw [HZL.o.2];exact h2
       have hR:Rm wr A c Z:=S1.o.2.2.2.2.1.2.2.1;obtain ⟨ad,rfl,-,-⟩:=hR.at_ h1z;have hR2:Rm wr A2 c2 Z2:=S1.o.2.2.2.1.2.2.1;obtain ⟨ad2,rfl,-,-⟩:=hR2.at_ h2z;have HE1:=zhy (Rm.each (w:=wr) (ad:=ad) (c:=c) h1z);have HE2:=zhy (Rm.each (w:=wr) (ad:=ad2) (c:=c2) h2z);have hAT:=qa5 h1 h2;rw [HZA.o j h1z h1,HZB.o j h2z h2] at hAT;have HK:Hid ((Z[j]).k.length=(Z[j]).x.k∧(Z2[j]).k.length=(Z2[j]).x.k):=⟨(HE1.o _ hR).2.2.2,(HE2.o _ hR2).2.2.2⟩;clear hR hR2;generalize Z[j]=z at *;generalize Z2[j]=z2 at *;obtain ⟨xx,m,k⟩:=z;obtain ⟨xx2,m2,k2⟩:=z2;dsimp only at hAT HK;have HNO:Hid ((mS m m2&&decide (k=k2))=false→v=false):=fun h=>by rw [←HQ.o,HT.o,hAT,h,Bool.false_and]
       have HYES:Hid ((mS m m2&&decide (k=k2))=true→Hid (qsS d.s e.s=qsS (d.s.drop (j+1)) (e.s.drop (j+1)))):=fun h=>by rw [Hid,HT.o,hAT,h,Bool.true_and]
       obtain ⟨hs,hhs⟩:∃b,mS m m2=b:=⟨_,rfl⟩;have HM:=zhy hhs;clear hAT hhs HT;go_upto_region 6 with (fail);clear y0 y1 y2 y3 y4 x0 x1 x2 x3 x4;have S2:=S1;clear S1;cases hs with
       | false =>
        refine wp_region_held_drew (S:=fun w'=>Hid (Sx w w' [fD (w.heap.size+1) ⟨G2,gc2,P2,pc2,(some ad2),c2,Z2⟩ e,fD w.heap.size ⟨G,gc,P,pc,(some ad),c,Z⟩ d,fQm ⟨G2,gc2,P2,pc2,(some ad2),c2,Z2⟩ e,fQm ⟨G,gc,P,pc,(some ad),c,Z⟩ d])) (by kernel_rfl) (Hsx.drew S2) (fun hHeld=>?_);refine zq 0 (h:=?_);refine zq 1 (hy:=fun w hSw=>by (try dsimp only at hSw);obtain ⟨-,⟨y0,y1,y2,y3,y4⟩,⟨x0,x1,x2,x3,x4⟩,-⟩:=hSw.o;dsimp only at x1 x2 x3 y1 y2 y3;go_simp;try with_reducible rfl) (h:=?_);refine zq 2 (h:=?_);refine zq 3 (h:=?_);refine zq 4 (hy:=fun w hSw=>by (try dsimp only at hSw);obtain ⟨a1,a2,a3,a4,a5,a6,a7,a8⟩:=(HE1.o w hSw.o.2.2.2.2.1.2.2.1).1;dsimp only at a1 a2 a3 a4 a5 a6 a7 a8;go_simp;try with_reducible rfl) (h:=?_);refine zq 5 (h:=?_);refine zq 6 (hy:=fun w hSw=>by (try dsimp only at hSw);obtain ⟨-,⟨y0,y1,y2,y3,y4⟩,⟨x0,x1,x2,x3,x4⟩,-⟩:=hSw.o;dsimp only at x1 x2 x3 y1 y2 y3;go_simp;try with_reducible rfl) (h:=?_);refine zq 7 (h:=?_);refine zq 8 (h:=?_);refine zq 9 (hy:=fun w hSw=>by (try dsimp only at hSw);obtain ⟨a1,a2,a3,a4,a5,a6,a7,a8⟩:=(HE2.o w hSw.o.2.2.2.1.2.2.1).1;dsimp only at a1 a2 a3 a4 a5 a6 a7 a8;go_simp;try with_reducible rfl) (h:=?_);refine wpAnyH_ready (rs:=[10]) (by kernel_rfl) (by simp) ?_;refine AllReadyH.cons rfl (fun K hK=>?_) AllReadyH.nil;go_simp;refine (zrb xx xx2 m m2 _ _ (HE1.o _ hHeld.o.2.2.2.2.1.2.2.1).2.1 (HE2.o _ hHeld.o.2.2.2.1.2.2.1).2.1 HM.o).mono ?_;rintro r1 wb ⟨rfl,hb⟩;go_wp2_with fail;refine hK.out _ _ (Hsx.call hb hHeld) (fun hHeld=>?_);clear hK K;(try simp only [Act.put,zg1,zg2,zg3,zg4,zg5,zg6]);refine zq 11 (h:=?_);refine zq 12 (h:=?_);refine ztk (i:=13) (v:=undef) rfl (by kernel_rfl) (fun _ _ _ h=>h) (Or.inr ⟨by rfl,rfl⟩) (by assumption) ?_;(try simp only [Act.put,zg1,zg2,zg3,zg4,zg5,zg6]);refine ztk (i:=14) (v:=undef) rfl (by kernel_rfl) (fun _ _ _ h=>h) (Or.inr ⟨by rfl,rfl⟩) (by assumption) ?_;(try simp only [Act.put,zg1,zg2,zg3,zg4,zg5,zg6]);refine ztk (i:=15) (v:=undef) rfl (by kernel_rfl) (fun _ _ _ h=>h) (Or.inr ⟨by rfl,rfl⟩) (by assumption) ?_;(try simp only [Act.put,zg1,zg2,zg3,zg4,zg5,zg6]);refine ztk (i:=16) (v:=undef) rfl (by kernel_rfl) (fun _ _ _ h=>h) (Or.inr ⟨by rfl,rfl⟩) (by assumption) ?_;(try simp only [Act.put,zg1,zg2,zg3,zg4,zg5,zg6]);refine ztk (i:=17) (v:=undef) rfl (by kernel_rfl) (fun _ _ _ h=>h) (Or.inr ⟨by rfl,rfl⟩) (by assumption) ?_;(try simp only [Act.put,zg1,zg2,zg3,zg4,zg5,zg6]);refine ztk (i:=18) (v:=undef) rfl (by kernel_rfl) (fun _ _ _ h=>h) (Or.inr ⟨by rfl,rfl⟩) (by assumption) ?_;(try simp only [Act.put,zg1,zg2,zg3,zg4,zg5,zg6]);refine ztk (i:=19) (v:=undef) rfl (by kernel_rfl) (fun _ _ _ h=>h) (Or.inr ⟨by rfl,rfl⟩) (by assumption) ?_;(try simp only [Act.put,zg1,zg2,zg3,zg4,zg5,zg6]);refine ztk (i:=20) (v:=undef) rfl (by kernel_rfl) (fun _ _ _ h=>h) (Or.inr ⟨by rfl,rfl⟩) (by assumption) ?_;(try simp only [Act.put,zg1,zg2,zg3,zg4,zg5,zg6]);refine ztk (i:=21) (v:=undef) rfl (by kernel_rfl) (fun _ _ _ h=>h) (Or.inr ⟨by rfl,rfl⟩) (by assumption) ?_;(try simp only [Act.put,zg1,zg2,zg3,zg4,zg5,zg6]);refine ztk (i:=22) (v:=undef) rfl (by kernel_rfl) (fun _ _ _ h=>h) (Or.inr ⟨by rfl,rfl⟩) (by assumption) ?_;(try simp only [Act.put,zg1,zg2,zg3,zg4,zg5,zg6]);refine ztk (i:=23) (v:=undef) rfl (by kernel_rfl) (fun _ _ _ h=>h) (Or.inr ⟨by rfl,rfl⟩) (by assumption) ?_;(try simp only [Act.put,zg1,zg2,zg3,zg4,zg5,zg6]);refine ztk (i:=24) (v:=undef) rfl (by kernel_rfl) (fun _ _ _ h=>h) (Or.inr ⟨by rfl,rfl⟩) (by assumption) ?_;(try simp only [Act.put,zg1,zg2,zg3,zg4,zg5,zg6]);refine ztk (i:=25) (v:=undef) rfl (by kernel_rfl) (fun _ _ _ h=>h) (Or.inr ⟨by rfl,rfl⟩) (by assumption) ?_;(try simp only [Act.put,zg1,zg2,zg3,zg4,zg5,zg6]);refine ztk (i:=26) (v:=undef) rfl (by kernel_rfl) (fun _ _ _ h=>h) (Or.inr ⟨by rfl,rfl⟩) (by assumption) ?_;(try simp only [Act.put,zg1,zg2,zg3,zg4,zg5,zg6]);refine zq 27 (h:=?_);refine wpAnyH_done (by kernel_rfl) ?_ _;have HN:Hid (v=false):=HNO.o (by rw [HM.o];rfl);have HB:=zhy hHeld.o.1;clear hHeld S2;go_wp2_with fail;go_ret;exact ⟨by rw [HN.o];rfl,HB.o⟩
       | true =>
        refine wp_region_held_drew (S:=fun w'=>Hid (Sx w w' [fD (w.heap.size+1) ⟨G2,gc2,P2,pc2,(some ad2),c2,Z2⟩ e,fD w.heap.size ⟨G,gc,P,pc,(some ad),c,Z⟩ d,fQm ⟨G2,gc2,P2,pc2,(some ad2),c2,Z2⟩ e,fQm ⟨G,gc,P,pc,(some ad),c,Z⟩ d])) (by kernel_rfl) (Hsx.drew S2) (fun hHeld=>?_);refine zq 0 (h:=?_);refine zq 1 (hy:=fun w hSw=>by (try dsimp only at hSw);obtain ⟨-,⟨y0,y1,y2,y3,y4⟩,⟨x0,x1,x2,x3,x4⟩,-⟩:=hSw.o;dsimp only at x1 x2 x3 y1 y2 y3;go_simp;try with_reducible rfl) (h:=?_);refine zq 2 (h:=?_);refine zq 3 (h:=?_);refine zq 4 (hy:=fun w hSw=>by (try dsimp only at hSw);obtain ⟨a1,a2,a3,a4,a5,a6,a7,a8⟩:=(HE1.o w hSw.o.2.2.2.2.1.2.2.1).1;dsimp only at a1 a2 a3 a4 a5 a6 a7 a8;go_simp;try with_reducible rfl) (h:=?_);refine zq 5 (h:=?_);refine zq 6 (hy:=fun w hSw=>by (try dsimp only at hSw);obtain ⟨-,⟨y0,y1,y2,y3,y4⟩,⟨x0,x1,x2,x3,x4⟩,-⟩:=hSw.o;dsimp only at x1 x2 x3 y1 y2 y3;go_simp;try with_reducible rfl) (h:=?_);refine zq 7 (h:=?_);refine zq 8 (h:=?_);refine zq 9 (hy:=fun w hSw=>by (try dsimp only at hSw);obtain ⟨a1,a2,a3,a4,a5,a6,a7,a8⟩:=(HE2.o w hSw.o.2.2.2.1.2.2.1).1;dsimp only at a1 a2 a3 a4 a5 a6 a7 a8;go_simp;try with_reducible rfl) (h:=?_);refine wpAnyH_ready (rs:=[10]) (by kernel_rfl) (by simp) ?_;refine AllReadyH.cons rfl (fun K hK=>?_) AllReadyH.nil;go_simp;refine (zrb xx xx2 m m2 _ _ (HE1.o _ hHeld.o.2.2.2.2.1.2.2.1).2.1 (HE2.o _ hHeld.o.2.2.2.1.2.2.1).2.1 HM.o).mono ?_;rintro r1 wb ⟨rfl,hb⟩;go_wp2_with fail;refine hK.out _ _ (Hsx.call hb hHeld) (fun hHeld=>?_);clear hK K;(try simp only [Act.put,zg1,zg2,zg3,zg4,zg5,zg6]);refine zq 11 (h:=?_);refine zq 12 (h:=?_);refine zq 13 (h:=?_);refine zq 14 (hy:=fun w hSw=>by (try dsimp only at hSw);obtain ⟨-,⟨y0,y1,y2,y3,y4⟩,⟨x0,x1,x2,x3,x4⟩,-⟩:=hSw.o;dsimp only at x1 x2 x3 y1 y2 y3;go_simp;try with_reducible rfl) (h:=?_);refine zq 15 (h:=?_);refine zq 16 (h:=?_);refine zq 17 (h:=?_);refine zq 18 (hy:=fun w hSw=>by (try dsimp only at hSw);obtain ⟨a1,a2,a3,a4,a5,a6,a7,a8⟩:=(HE1.o w hSw.o.2.2.2.2.1.2.2.1).1;dsimp only at a1 a2 a3 a4 a5 a6 a7 a8;go_simp;try with_reducible rfl) (h:=?_);refine zq 19 (h:=?_);refine zq 20 (hy:=fun w hSw=>by (try dsimp only at hSw);obtain ⟨-,⟨y0,y1,y2,y3,y4⟩,⟨x0,x1,x2,x3,x4⟩,-⟩:=hSw.o;dsimp only at x1 x2 x3 y1 y2 y3;go_simp;try with_reducible rfl) (h:=?_);refine zq 21 (h:=?_);refine zq 22 (h:=?_);refine zq 23 (h:=?_);refine zq 24 (hy:=fun w hSw=>by (try dsimp only at hSw);obtain ⟨a1,a2,a3,a4,a5,a6,a7,a8⟩:=(HE2.o w hSw.o.2.2.2.1.2.2.1).1;dsimp only at a1 a2 a3 a4 a5 a6 a7 a8;go_simp;try with_reducible rfl) (h:=?_);refine wpAnyH_ready (rs:=[25]) (by kernel_rfl) (by simp) ?_;refine AllReadyH.cons rfl (fun K hK=>?_) AllReadyH.nil;go_simp;refine (znw xx.D xx2.D xx.e xx2.e xx.k xx2.k k k2 _ (HE1.o _ hHeld.o.2.2.2.2.1.2.2.1).2.2.1 (HE2.o _ hHeld.o.2.2.2.1.2.2.1).2.2.1 HK.o.1 HK.o.2).mono ?_;rintro r1 wb ⟨rfl,hb⟩;go_wp2_with fail;refine hK.out _ _ (Hsx.call hb hHeld) (fun hHeld=>?_);clear hK K;(try simp only [Act.put,zg1,zg2,zg3,zg4,zg5,zg6]);refine zq 26 (h:=?_);refine zq 27 (h:=?_);refine wpAnyH_done (by kernel_rfl) ?_ _;have S3:=hHeld;clear hHeld S2;by_cases hk:k=k2
        ·rw [decide_eq_true hk];have HN:=HYES.o (by rw [HM.o,decide_eq_true hk];rfl);clear hk;go_wp2_with fail;go_roundw
         case rel=>exact ⟨j+1,by omega,by go_num,HN,S3⟩
         case measure=>simp [intOf];omega
        ·rw [decide_eq_false hk];have HN:Hid (v=false):=HNO.o (by rw [HM.o,decide_eq_false hk];rfl);clear hk;go_wp2_with fail;go_ret;exact ⟨by rw [HN.o];rfl,S3.o.1⟩
      ·obtain rfl:j=d.s.length:=by omega
       have HN:Hid (v=true):=by
        rw [Hid,←HQ.o,HT.o,List.drop_of_length_le (Nat.le_refl _),List.drop_of_length_le (by rw [HNL.o];omega)];rfl
       clear HT;go_wp2_with fail;go_ret;exact ⟨by rw [HN.o];rfl,S1.o.1⟩
    ·have E1:((d.s.length:Int) != (e.s.length:Int))=true:=by simp;omega
     have HN:Hid (v=false):=by rw [Hid,←HV.o,qS,zye hn];simp
     clear hn;go_wp2_with fail;go_ret;exact ⟨by rw [HN.o];rfl,S2.o.1⟩
   ·rw [decide_eq_false hp];have HN:Hid (v=false):=by rw [Hid,←HV.o,qS,decide_eq_false hp];simp
    clear hp;go_wp2_with fail;go_ret;exact ⟨by rw [HN.o];rfl,S2.o.1⟩
  ·rw [decide_eq_false hg];have HN:Hid (v=false):=by rw [Hid,←HV.o,qS,decide_eq_false hg];simp
   clear hg;go_wp2_with fail;go_ret;exact ⟨by rw [HN.o];rfl,S1.o.1⟩
 ·have E0:(d.i != e.i)=true:=by simpa using hi
  have HN:Hid (v=false):=by rw [Hid,←HV.o,qS,show (d.i==e.i)=false by simpa using hi];rfl
  clear hi;go_enter Tryz.func17,Tryz.ntmps17;go_wp2_with fail;go_ret;exact ⟨by rw [HN.o];rfl,S0.o.1⟩
def Bk (w:World) (B t n:Nat):Prop:=∃cur,w.heap[B]?=some (.cells cur t (0,0))∧cur.size=n
theorem Bk.lt {w:World} {B t n:Nat} (h:Bk w B t n):B<w.heap.size:=by
 obtain ⟨cur,h,_⟩:=h;exact (zg9.1 h).1
theorem Bk.keep {w w':World} {B t n:Nat} (h:Bk w B t n) (hb:Below w.heap.size w w'):Bk w' B t n:=by
 have hl:=h.lt;obtain ⟨cur,h,hn⟩:=h;exact ⟨cur,(hb.block B hl).trans h,hn⟩
theorem Bk.new (w:World) (cs:Array Value) (t:Nat):Bk (w.alloc (.cells cs t)) w.heap.size t cs.size:=⟨cs,heap_alloc_new w _,rfl⟩
theorem Bk.set {w:World} {B t n:Nat} (h:Bk w B t n) (g j:Nat) (v:Value):Bk (w.setCell ⟨g,j,none⟩ v) B t n:=by
 obtain ⟨cur,h,hn⟩:=h;by_cases e:g=B
 ·subst e;exact ⟨cur.setIfInBounds j v,heap_setCell_same w g j cur t v h,by simpa using hn⟩
 ·exact ⟨cur,(Below.heap_setCell w ⟨g,j,none⟩ v B (fun e'=>e e'.symm)).trans h,hn⟩
theorem zt {w:World} {base e size n B t k:Nat} {v:Value} {xs:List Value} (h:w.ownsRow base e size v n xs) (hB:Bk w B t k) (hne:e≠t) (j:Nat) (u:Value):(w.setCell ⟨B,j,none⟩ u).ownsRow base e size v n xs:=by
 obtain ⟨h1,h2⟩:=h;refine ⟨h1,?_⟩;rcases h2 with h2 | ⟨g,cap,cur,hv,hg,hh,r⟩
 ·exact .inl h2
 ·obtain ⟨cur2,hh2,_⟩:=hB
  have hgB:g≠B:=fun e'=>by
   subst e';rw [hh] at hh2;injection hh2 with hh2;injection hh2 with _ h3 _;exact hne h3
  exact .inr ⟨g,cap,cur,hv,hg,by rw [Below.heap_setCell _ _ _ _ (fun e'=>hgB e')];exact hh,r⟩
theorem zak {w w':World} {base base2 e e2 size size2 n n2:Nat} {v v2:Value} {xs xs2:List Value} (h:w.ownsRow base e size v n xs) (h2:w.ownsRow base2 e2 size2 v2 n2 xs2) (hne:e≠e2) (hg:w.grownBy w' v2.ownBlock):w'.ownsRow base e size v n xs:=by
 obtain ⟨h1,h3⟩:=h;refine ⟨h1,?_⟩;rcases h3 with h3 | ⟨g,cap,cur,hv,hgb,hh,r⟩
 ·exact .inl h3
 ·have hlt:=(zg9.1 hh).1
  have hgB:some g≠v2.ownBlock:=fun e'=>by
   rcases h2.2 with ⟨rfl,_⟩ | ⟨g2,cap2,cur2,rfl,_,hh2,_⟩
   ·simp [Value.ownBlock] at e'
   ·simp [Value.ownBlock] at e';subst e';rw [hh] at hh2;injection hh2 with hh2;injection hh2 with _ h3 _;exact hne h3
  exact .inr ⟨g,cap,cur,hv,hgb,(hg.block g hlt hgB).trans hh,r⟩
theorem Bk.grown {w w':World} {B t n base2 e2 size2 n2:Nat} {v2:Value} {xs2:List Value} (h:Bk w B t n) (h2:w.ownsRow base2 e2 size2 v2 n2 xs2) (hne:t≠e2) (hg:w.grownBy w' v2.ownBlock):Bk w' B t n:=by
 have hlt:=h.lt;obtain ⟨cur,hh,hn⟩:=h
 have hgB:some B≠v2.ownBlock:=fun e'=>by
  rcases h2.2 with ⟨rfl,_⟩ | ⟨g2,cap2,cur2,rfl,_,hh2,_⟩
  ·simp [Value.ownBlock] at e'
  ·simp [Value.ownBlock] at e';subst e';rw [hh] at hh2;injection hh2 with hh2;injection hh2 with _ h3 _;exact hne h3
 exact ⟨cur,(hg.block B hlt hgB).trans hh,hn⟩
theorem zas (z:Me):(ce8 z).length=8:=rfl
theorem zn7 (Z:List Me):(cem Z).length=Z.length*8:=by
 induction Z with
 | nil=>rfl
 | cons z Z ih=>rw [cem,List.flatMap_cons,List.length_append,←cem,ih,zas];simp;omega
theorem znf (Z Y:List Me):cem (Z++Y)=cem Z++cem Y:=by simp [cem]
theorem zz4 (z:Me):cem [z]=ce8 z:=by simp [cem]
theorem zxw (z:Me):∀u∈ce8 z,u.oneCell'=true:=by
 intro u hu;simp [ce8] at hu;rcases hu with rfl | rfl | rfl | rfl | rfl | rfl | rfl | rfl<;>rfl
theorem qal {Z:List Me} {i:Nat} {z:Me} (h:Z[i]?=some z) (j:Nat) (hj:j<8):(cem Z)[i*8+j]?=(ce8 z)[j]?:=by
 induction Z generalizing i with
 | nil=>simp at h
 | cons y Z ih =>
  have e:cem (y::Z)=ce8 y++cem Z:=by simp [cem]
  cases i with
  | zero =>
   simp at h;subst h;rw [e,Nat.zero_mul,Nat.zero_add,List.getElem?_append_left (by rw [zas];omega)]
  | succ i =>
   rw [e,List.getElem?_append_right (by rw [zas];omega),zas,show (i+1)*8+j-8=i*8+j by omega];exact ih (by simpa using h)
theorem Tryz.infoM:(Tryz.prog.info? 50).map (fun i=>(i.zero,i.size,i.bytes))=some (some (.agg #[.slice none 0 0,.slice none 0 0,.int .u8 0,.bool false,.int .i64 0,.int .i64 0,.int .i64 0,.slice none 0 0]),8,104):=by kernel_rfl
theorem zef (w:World) {ops:Array Oper} {rest:List Oper} {o:Oper} {a:Act} {Q:Exit→Act→World→Prop} (hgd:o.guard=none) (s x:Operand)
  (ho:o.op=.call { callee:=.builtin .append,args:=#[s,x],argTypes:=#[23,23]})
  (base:Nat) (v:Value) (n:Nat) (K:List Me) (hs:a.eval s=v) (hown:w.ownsRow base 50 8 v n (cem K))
  (ad:Addr) (z:Me) (hx:a.eval x=.slice (some ad) 1 1) (hr:∀j u,(ce8 z)[j]?=some u→w.cell? (ad.add j)=some u) (hbytes:n+1≤1000000) (hbase:base≤w.heap.size)
  (h:∀A' c' w',w'.ownsRow base 50 8 (.slice A' (n+1) c') (n+1) (cem (K++[z]))→w.grownBy w' v.ownBlock→Below base w w' →
   ((Value.slice A' (n+1) c').ownBlock=v.ownBlock∨(Value.slice A' (n+1) c').ownBlock=some w.heap.size)→wpList Tryz.prog ops Q rest (a.put o.dst (.slice A' (n+1) c')) w'):wpList Tryz.prog ops Q (o::rest) a w:=by
 have hinfo:=Tryz.infoM;rw [Option.map_eq_some_iff] at hinfo;obtain ⟨i,hi,hz⟩:=hinfo;simp only [Prod.mk.injEq] at hz;obtain ⟨hz0,hz1,hz2⟩:=hz;have hbel:∀{w'},w.grownBy w' v.ownBlock→Below base w w':=fun hg=>(Below.refl _ _).grown hg hbase fun g hg'=>(hown.lt g hg').1;refine wpList_append_own_at w hgd s x 23 ho base 50 i _ 8 104 Tryz.underlying23 hi hz0 hz1 hz2 rfl (by decide) v n (cem K) hs hown ad 1 1 (ce8 z) hx (by rw [zas]) hr (zxw z) (by unfold maxLen;omega) (by omega) hbase ?_;intro v' w' hown' hg _ hb;obtain ⟨A',c',rfl⟩:=qv hown';exact h A' c' w' (by rw [znf,zz4];exact hown') hg (hbel hg) hb
theorem Rm.of_own {w:World} {A:Option Addr} {c base e n:Nat} {Z:List Me} (h:w.ownsRow base e 8 (.slice A n c) n (cem Z)) (hk:∀z∈Z,z.ok w):Rm w A c Z∧n=Z.length:=by
 have hn:n=Z.length:=by have:=h.1;rw [zn7] at this;omega
 refine ⟨⟨hk,?_⟩,hn⟩;have hcell:=fun g=>h.cells (g:=g);rcases h.2 with ⟨hv,h0⟩ | ⟨g,cap,cur,hv,_,_,hcap,hm,_⟩
 ·injection hv with e1 e2 e3;exact ⟨by omega,by omega,.inl ⟨e1,e3⟩⟩
 ·injection hv with e1 e2 e3;subst e1 e3;refine ⟨by omega,hm,.inr ⟨_,rfl,fun i z hz=>?_⟩⟩
  have hq:∀j,j<8→w.cell? ((⟨g,0,none⟩:Addr).add (i*8+j))=(ce8 z)[j]?:=fun j hj=>by
   have h1:=qal hz j hj;have h2:(ce8 z)[j]?=some ((ce8 z)[j]'(by rw [zas];exact hj)):=zg7 _;rw [h2] at h1 ⊢;exact hcell g rfl _ _ h1
  have ea:∀j,(⟨g,0,none⟩:Addr).add (i*8+(j+1))=⟨((⟨g,0,none⟩:Addr).add (i*8)).block,((⟨g,0,none⟩:Addr).add (i*8)).off+(j+1),none⟩:=fun j=>by
   unfold Addr.add;rw [if_neg (by omega)];split
   ·rename_i h0;simp [h0]
   ·simp
  refine ⟨hq 0 (by omega),?_,?_,?_,?_,?_,?_,?_⟩
  ·rw [←ea 0];exact hq 1 (by omega)
  ·rw [←ea 1];exact hq 2 (by omega)
  ·rw [←ea 2];exact hq 3 (by omega)
  ·rw [←ea 3];exact hq 4 (by omega)
  ·rw [←ea 4];exact hq 5 (by omega)
  ·rw [←ea 5];exact hq 6 (by omega)
  ·rw [←ea 6];exact hq 7 (by omega)
def zpj (w:World) (B:Nat) (y:Ma) (d:Md):World:=
 (((w.setCell ⟨B,0,none⟩ (.slice y.G d.g.length y.gc)).setCell ⟨B,1,none⟩ (.slice y.P d.p.length y.pc)).setCell ⟨B,2,none⟩ (.slice y.A d.s.length y.c)).setCell ⟨B,3,none⟩ (.int .i64 d.i)
theorem zn2 {w0 w:World} {k B:Nat} (h:Below k w0 w) (hB:k≤B) (y:Ma) (d:Md):Below k w0 (zpj w B y d):=
 (((h.setCell (p:=⟨B,0,none⟩) hB _).setCell (p:=⟨B,1,none⟩) hB _).setCell (p:=⟨B,2,none⟩) hB _).setCell (p:=⟨B,3,none⟩) hB _
theorem zyl {w:World} {B:Nat} {t:Ma} {e:Md} (h:Db w B t e) (y:Ma) (d:Md):Db (zpj w B y d) B y d:=by
 obtain ⟨h0,h1,h2,h3,h4⟩:=h;unfold zpj;refine ⟨by simpa using h0,?_,?_,?_,?_⟩<;>simp [go_sem,h1,h2,h3,h4]
theorem Db.other {w:World} {B:Nat} {y:Ma} {d:Md} (h:Db w B y d) {p:Addr} (hp:p.block≠B) (v:Value):Db (w.setCell p v) B y d:=by
 obtain ⟨h0,h1,h2,h3,h4⟩:=h;have ne:∀i,p≠(⟨B,i,none⟩:Addr):=fun i e=>hp (by rw [e]);refine ⟨by simpa using h0,?_,?_,?_,?_⟩<;>(rw [World.cell?_setCell_other _ _ _ _ (ne _)];assumption)
def Rs (w:World) (lo hi e size:Nat) (A:Option Addr) (n:Nat):Prop:=n=0∨∃g cur,A=some ⟨g,0,none⟩∧lo≤g∧g<hi∧w.heap[g]?=some (.cells cur e (0,0))∧n*size≤cur.size
theorem Rs.of_own {w:World} {base e size n c lo hi:Nat} {A:Option Addr} {xs:List Value} (h:w.ownsRow base e size (.slice A n c) n xs) (hl:lo≤base) (hh:w.heap.size≤hi):Rs w lo hi e size A n:=by
 rcases h.2 with ⟨hv,h0⟩ | ⟨g,cap,cur,hv,hg,hb,hcap,hm,hs,ht⟩
 ·exact .inl h0
 ·injection hv with e1 e2 e3;have hlt:=(zg9.1 hb).1;exact .inr ⟨g,cur,e1,by omega,by omega,hb,by rw [hs];exact Nat.mul_le_mul_right _ hcap⟩
section
open Go.ChangeShapes Go.WideShapes Go.ChangeAt Go.RowKit Go.Deep
theorem qfu:((Tryz.prog.fieldsOf 50).map fun f=>(f.offset,f.type))=#[(0,40),(1,40),(2,5),(3,4),(4,3),(5,3),(6,3),(7,48)]:=by kernel_rfl
theorem zbx {j:Nat} {o t:Nat} (h:(#[(0,40),(1,40),(2,5),(3,4),(4,3),(5,3),(6,3),(7,48)]:Array (Nat×TypeId))[j]?=some (o,t)):∃f,(Tryz.prog.fieldsOf 50)[j]?=some f∧f.offset=o∧f.type=t:=by
 rw [←qfu,Array.getElem?_map,Option.map_eq_some_iff] at h;obtain ⟨f,h1,h2⟩:=h;simp only [Prod.mk.injEq] at h2;exact ⟨f,h1,h2.1,h2.2⟩
section
variable {H : Type} {enc : TypeId × Value → H} {w : World} {base : Nat} {sp : Nat → Bool} {held : Bool} {fuel : Nat}
theorem zrc {v:Value} {x:DataW H×List MemPlace} (h:DataW.trod enc Tryz.prog w base sp held fuel 40 [v]=some x):∃(A:Option Addr) (c:Nat) (l:List Int),v=.slice A l.length c∧Rd w A c l:=by
 rcases open_ints Tryz.underlying40 Tryz.underlying5 (by kernel_rfl) h with ⟨h0,_⟩ | ⟨a,len,cap,zs,h0,_,hl,hm,hz,_,hc,hw⟩
 ·simp at h0;exact ⟨none,0,[],h0,Rd.none_ _⟩
 ·simp at h0;have hle:len≤zs.length:=by rw [hz];split<;>omega
  have hlen:(zs.take len).length=len:=by simp;omega
  refine ⟨some a,cap,zs.take len,by rw [hlen];exact h0,?_,by rw [hlen];exact hl,hm,.inr ⟨a,rfl,fun i y hy=>?_⟩⟩
  ·intro n hn;have:=bounds_u8 (hw n (List.mem_of_mem_take hn));omega
  ·rw [List.getElem?_take] at hy;split at hy
   ·have hlt:=(zg8.1 hy).1;rw [hc i hlt,List.getD_eq_getElem?_getD,hy];rfl
   ·cases hy
end
end
end Go.Proofs.YtnjgkkoiamiaaaaGreatDoor
