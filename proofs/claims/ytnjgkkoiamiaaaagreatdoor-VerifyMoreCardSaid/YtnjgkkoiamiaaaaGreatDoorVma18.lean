import Derived.Test.YtnjgkkoiamiaaaaGreatDoorVma8
import Derived.Test.YtnjgkkoiamiaaaaGreatDoorVma11
import Derived.WalkSmall
import Derived.Test.YtnjgkkoiamiaaaaGreatDoorVma5
import Derived.Test.YtnjgkkoiamiaaaaGreatDoorVma3
import Derived.Test.YtnjgkkoiamiaaaaGreatDoorVma1
import Derived.Test.YtnjgkkoiamiaaaaGreatDoorVma7
import Derived.Deep.WholeRow
set_option maxRecDepth 100000
set_option maxHeartbeats 16000000
set_option linter.unusedSimpArgs false
set_option linter.unusedVariables false
namespace Go.Proofs.YtnjgkkoiamiaaaaGreatDoor
open Go.RowKit
def clr {α:Type} (f:α→List Value) (L:List α):List Value:=L.flatMap f
section
variable {α : Type} {f : α → List Value} {m : Nat}
theorem clr_len (hm:∀x,(f x).length=m):∀L:List α,(clr f L).length=L.length*m
 | []=>by simp [clr]
 | x::L=>by
  have:=clr_len hm L;unfold clr at this ⊢;rw [List.flatMap_cons,List.length_append,this,hm,List.length_cons,Nat.add_mul];omega
theorem clr_append (L M:List α):clr f (L++M)=clr f L++clr f M:=by simp [clr]
theorem clr_at (hm:∀x,(f x).length=m) {j:Nat} (hj:j<m):∀{L:List α} {i:Nat} {x:α},L[i]?=some x→(clr f L)[i*m+j]?=(f x)[j]?
 | [],i,x,h=>by simp at h
 | y::L,0,x,h=>by
  simp at h;subst h;rw [clr,List.flatMap_cons,Nat.zero_mul,Nat.zero_add,List.getElem?_append_left (by rw [hm];exact hj)]
 | y::L,i+1,x,h=>by
  have:=clr_at hm hj (L:=L) (i:=i) (x:=x) (by simpa using h);rw [clr,List.flatMap_cons,List.getElem?_append_right (by rw [hm,Nat.add_mul];omega),hm,←clr,show (i+1)*m+j-m=i*m+j by rw [Nat.add_mul];omega];exact this
theorem clr_set (hm:∀x,(f x).length=m) {L:List α} {i:Nat} {x y:α} (h:L[i]?=some x) {j:Nat} (hj:j<m) {u:Value} (hy:f y=(f x).set j u):(clr f L).set (i*m+j) u=clr f (L.set i y):=by
 have hi:=(zg8.1 h).1;apply List.ext_getElem?;intro k;by_cases hk:k<L.length*m
 ·have hm0:0<m:=by omega
  have hk2:k / m<L.length:=(Nat.div_lt_iff_lt_mul hm0).2 hk;have e:k=k / m*m+k % m:=by rw [Nat.mul_comm];exact (Nat.div_add_mod k m).symm
  have hr:=Nat.mod_lt k hm0;by_cases hki:k / m=i
  ·have h2:(L.set i y)[k / m]?=some y:=by rw [hki,List.getElem?_set_self hi]
   have h3:=clr_at hm hr h2;rw [←e] at h3;rw [h3,hy];by_cases hkj:k % m=j
   ·have:k=i*m+j:=by rw [←hki,←hkj];exact e
    rw [this,List.getElem?_set_self (by rw [clr_len hm];omega),←this,hkj,List.getElem?_set_self (by rw [hm];exact hj)]
   ·have:i*m+j≠k:=fun h'=>hkj (by rw [←h',Nat.mul_comm i m,Nat.mul_add_mod,Nat.mod_eq_of_lt hj]);rw [List.getElem?_set_ne this,List.getElem?_set_ne (fun h'=>hkj h'.symm)];have h4:=clr_at hm hr (show L[k / m]?=some x by rw [hki];exact h);rw [←e] at h4;exact h4
  ·have h2:(L.set i y)[k / m]?=some L[k / m]:=by rw [List.getElem?_set_ne (fun h'=>hki h'.symm),zg7 hk2]
   have h3:=clr_at hm hr h2;have h4:=clr_at hm hr (zg7 hk2);rw [←e] at h3 h4;have:i*m+j≠k:=fun h'=>hki (by rw [←h',Nat.mul_comm i m,Nat.mul_add_div hm0,Nat.div_eq_of_lt hj,Nat.add_zero]);rw [List.getElem?_set_ne this,h4,h3]
 ·rw [List.getElem?_eq_none (by rw [List.length_set,clr_len hm];omega),List.getElem?_eq_none (by rw [clr_len hm,List.length_set];omega)]
def Rg (f:α→List Value) (m:Nat) (w:World) (A:Option Addr) (c:Nat) (L:List α):Prop:=L.length≤c∧c≤maxLen∧((A=none∧L=[])∨∃g,A=some ⟨g,0,none⟩∧g<w.heap.size∧∀j u,(clr f L)[j]?=some u→w.cell? ⟨g,j,none⟩=some u)
theorem Rg.keep {w w':World} {A:Option Addr} {c:Nat} {L:List α} (h:Rg f m w A c L) (hb:Below w.heap.size w w'):Rg f m w' A c L:=by
 refine ⟨h.1,h.2.1,?_⟩;rcases h.2.2 with h1 | ⟨g,hA,hg,hc⟩
 ·exact .inl h1
 ·exact .inr ⟨g,hA,Nat.lt_of_lt_of_le hg hb.size,fun j u hj=>(hb.cell (cell_lt (hc j u hj))).trans (hc j u hj)⟩
theorem Rg.of_own {w:World} {A:Option Addr} {c base e:Nat} {n:Nat} {L:List α} (hm:∀x,(f x).length=m) (hm0:0<m) (h:w.ownsRow base e m (.slice A n c) n (clr f L)):Rg f m w A c L∧n=L.length:=by
 have hn:n=L.length:=by have:=h.1;rw [clr_len hm] at this;exact (Nat.eq_of_mul_eq_mul_right hm0 this).symm
 have hc:=fun g (hg:A=some ⟨g,0,none⟩) j u (hj:(clr f L)[j]?=some u)=>(by subst hg;have:=h.cells (g:=g) rfl j u hj;exact this:w.cell? ((⟨g,0,none⟩:Addr).add j)=some u);refine ⟨?_,hn⟩;rcases h.2 with ⟨hv,h0⟩ | ⟨g,cap,cur,hv,_,hh,hcap,hmx,_⟩
 ·injection hv with e1 e2 e3;have:L=[]:=List.eq_nil_of_length_eq_zero (by omega);exact ⟨by omega,by unfold maxLen;omega,.inl ⟨e1,this⟩⟩
 ·injection hv with e1 e2 e3;refine ⟨by omega,by omega,.inr ⟨g,e1,(zg9.1 hh).1,fun j u hj=>?_⟩⟩;have:=hc g e1 j u hj;unfold Addr.add at this;split at this
  ·rename_i h0;subst h0;exact this
  ·simpa using this
theorem Rg.at_ {w:World} {A:Option Addr} {c:Nat} {L:List α} (hm:∀x,(f x).length=m) (h:Rg f m w A c L) {i:Nat} {x:α} (hx:L[i]?=some x):∃g,A=some ⟨g,0,none⟩∧g<w.heap.size∧∀j,j<m→w.cell? ⟨g,i*m+j,none⟩=(f x)[j]?:=by
 rcases h.2.2 with ⟨_,h1⟩ | ⟨g,hA,hg,hc⟩
 ·subst h1;simp at hx
 ·refine ⟨g,hA,hg,fun j hj=>?_⟩;have h1:=clr_at hm hj hx;have h2:(f x)[j]?=some ((f x)[j]'(by rw [hm];exact hj)):=zg7 _;rw [h2] at h1 ⊢;exact hc _ _ h1
end
def cl4 (x:Kl12):List Value:=[.int .i64 x.1,.int .i64 x.2.1,.bool x.2.2.1,.int .i64 x.2.2.2]
theorem cl4_len (x:Kl12):(cl4 x).length=4:=rfl
def ce3 (x:Ce):List Value:=[.int .i64 x.1,.int .i64 x.2.1,.int .i64 x.2.2]
theorem ce3_len (x:Ce):(ce3 x).length=3:=rfl
structure Az where
 c:Ce
 A:Option Addr
 k:Nat
 L:List Kl12
def az4 (z:Az):List Value:=[.int .i64 z.c.1,.int .i64 z.c.2.1,.int .i64 z.c.2.2,.slice z.A z.L.length z.k]
theorem az4_len (z:Az):(az4 z).length=4:=rfl
def Az.ok (w:World) (z:Az):Prop:=Rg cl4 4 w z.A z.k z.L
def Ax (w:World) (X:Nat) (c:Ce) (v:Value):Prop:=w.heap[X]?=some (.cells #[.int .i64 c.1,.int .i64 c.2.1,.int .i64 c.2.2,v] 105 (0,0))
section
variable {w w' : World} {X : Nat} {c : Ce} {v : Value}
theorem Ax.lt (h:Ax w X c v):X<w.heap.size:=(zg9.1 h).1
theorem Ax.keep (h:Ax w X c v) (hb:Below w.heap.size w w'):Ax w' X c v:=(hb.block X h.lt).trans h
theorem Ax.new (w:World) (c:Ce) (v:Value):Ax (w.alloc (.cells #[.int .i64 c.1,.int .i64 c.2.1,.int .i64 c.2.2,v] 105)) w.heap.size c v:=heap_alloc_last w _
theorem Ax.cells (h:Ax w X c v):w.cell? ⟨X,0,none⟩=some (.int .i64 c.1)∧w.cell? ⟨X,1,none⟩=some (.int .i64 c.2.1)∧w.cell? ⟨X,2,none⟩=some (.int .i64 c.2.2)∧w.cell? ⟨X,3,none⟩=some v ∧
  w.frozen? ⟨X,0,none⟩=false∧w.frozen? ⟨X,1,none⟩=false∧w.frozen? ⟨X,2,none⟩=false∧w.frozen? ⟨X,3,none⟩=false:=by
 refine ⟨?_,?_,?_,?_,frozen_of_row w X 0 _ _ h,frozen_of_row w X 1 _ _ h,frozen_of_row w X 2 _ _ h,frozen_of_row w X 3 _ _ h⟩<;>rw [cell_of_row w X _ _ _ (0,0) h]<;>rfl
theorem Ax.set0 (h:Ax w X c v) (n:Int):Ax (w.setCell ⟨X,0,none⟩ (.int .i64 n)) X (n,c.2) v:=by
 unfold Ax;rw [heap_setCell_same w X 0 _ _ _ h];rfl
theorem Ax.set1 (h:Ax w X c v) (n:Int):Ax (w.setCell ⟨X,1,none⟩ (.int .i64 n)) X (c.1,n,c.2.2) v:=by
 unfold Ax;rw [heap_setCell_same w X 1 _ _ _ h];rfl
theorem Ax.set2 (h:Ax w X c v) (n:Int):Ax (w.setCell ⟨X,2,none⟩ (.int .i64 n)) X (c.1,c.2.1,n) v:=by
 unfold Ax;rw [heap_setCell_same w X 2 _ _ _ h];rfl
theorem Ax.set3 (h:Ax w X c v) (u:Value):Ax (w.setCell ⟨X,3,none⟩ u) X c u:=by
 unfold Ax;rw [heap_setCell_same w X 3 _ _ _ h];rfl
theorem Ax.other (h:Ax w X c v) {p:Addr} (hp:p.block≠X) (u:Value):Ax (w.setCell p u) X c v:=(Below.heap_setCell w p u X (fun e=>hp e.symm)).trans h
end
abbrev Fx (X:Nat) (w w':World):Prop:=Fr11 (·=X) w w'
theorem Fx.below {X:Nat} {w w':World} (h:Fx X w w') {B:Nat} (hB:B≤X) (hw:B≤w.heap.size):Below B w w':=Fr11.below h fun j hj=>⟨by omega,by omega⟩
theorem wrap_small {x:Int} (h:-9223372036854775808≤x∧x≤9223372036854775807):IntKind.i64.wrap x=x:=by
 simp [IntKind.wrap,IntKind.signed,IntKind.bits,go_sem];omega
theorem add12_v (X:Nat) (c:Ce) (v:Value) (f s h n:Int) (w:World) (hx:Ax w X c v) (b1:0≤f*n∧f*n≤1000000000000000000) (b2:0≤h*n∧h*n≤1000000000000000000) (b3:0≤c.1∧c.1≤1000000000000000000) (b4:0≤c.2.2∧c.2.2≤1000000000000000000) :
  Calls Tryz.prog 103 #[.pointer (some ⟨X,0,none⟩),.agg #[.int .i64 f,.int .i64 s,.int .i64 h],.int .i64 n] w fun e w'=>e=.returned (.tuple #[])∧Ax w' X (c.1+f*n,c.2.1,c.2.2+h*n) v∧Fx X w w':=by
 have hlt:=hx.lt
 have e1:IntKind.i64.wrap (f*n)=f*n:=wrap_small (by omega)
 have e2:IntKind.i64.wrap (h*n)=h*n:=wrap_small (by omega)
 have e3:IntKind.i64.wrap (c.1+f*n)=c.1+f*n:=wrap_small (by omega)
 have e4:IntKind.i64.wrap (c.2.2+h*n)=c.2.2+h*n:=wrap_small (by omega)
 have HX:=zhy hx
 clear hx b1 b2 b3 b4
 go_enter Tryz.func103,Tryz.ntmps103
 go_upto_region 1 with (fail)
 have H1:=zhy (HX.out.keep (w':=w.alloc (.cells #[.int .i64 f,.int .i64 s,.int .i64 h] 39)) new1)
 have HB:Hid (Fx X w (w.alloc (.cells #[.int .i64 f,.int .i64 s,.int .i64 h] 39))):=zhy ((Fr11.refl _ _).alloc _)
 obtain ⟨B,hB⟩:∃B,w.heap.size=B:=⟨_,rfl⟩
 have hlt2:X<B:=by omega
 have hc:(w.alloc (.cells #[.int .i64 f,.int .i64 s,.int .i64 h] 39)).cell? ⟨B,0,none⟩=some (.int .i64 f)∧(w.alloc (.cells #[.int .i64 f,.int .i64 s,.int .i64 h] 39)).cell? ⟨B,2,none⟩=some (.int .i64 h):=by
  rw [←hB];constructor<;>simp [go_sem]
 obtain ⟨c0,c2⟩:=hc
 rw [hB] at *
 generalize w.alloc (.cells #[.int .i64 f,.int .i64 s,.int .i64 h] 39)=w1 at H1 HB c0 c2 ⊢
 obtain ⟨x0,x1,x2,x3,y0,y1,y2,y3⟩:=H1.out.cells
 go_region
 go_upto_region 2 with (fail)
 have H2:Hid (Ax (w1.setCell ⟨X,0,none⟩ (.int .i64 (c.1+f*n))).drew X (c.1+f*n,c.2) v):=zhy (H1.out.set0 _)
 have HB2:Hid (Fx X w (w1.setCell ⟨X,0,none⟩ (.int .i64 (c.1+f*n))).drew):=zhy ((HB.out.set (p:=⟨X,0,none⟩) (.inr rfl) _).drewN 1)
 have hBX:B≠X:=by omega
 have c3:(w1.setCell ⟨X,0,none⟩ (.int .i64 (c.1+f*n))).drew.cell? ⟨B,2,none⟩=some (.int .i64 h):=by
  have:(w1.setCell ⟨X,0,none⟩ (.int .i64 (c.1+f*n))).cell? ⟨B,2,none⟩=some (.int .i64 h):=by
   rw [World.cell?_setCell_other _ _ _ _ (fun e=>by injection e with e _;exact hBX e.symm)];exact c2
  exact this
 generalize (w1.setCell ⟨X,0,none⟩ (.int .i64 (c.1+f*n))).drew=w2 at H2 HB2 c3 ⊢
 clear x0 x1 x2 x3 y0 y1 y2 y3 c0 c2 HB H1
 obtain ⟨x0,x1,x2,x3,y0,y1,y2,y3⟩:=H2.out.cells
 dsimp only at x0 x1 x2
 go_region
 go_wp2_with fail
 go_end0
 exact ⟨rfl,H2.out.set2 _,(HB2.out.set (p:=⟨X,2,none⟩) (.inr rfl) _).drewN 1⟩
theorem rise12_v (X:Nat) (c:Ce) (v:Value) (n:Int) (w:World) (hx:Ax w X c v) (hn:-9223372036854775808≤n∧n≤9223372036854775807) :
  Calls Tryz.prog 104 #[.pointer (some ⟨X,0,none⟩),.int .i64 n] w fun e w'=>e=.returned (.tuple #[])∧Ax w' X (c.1,max c.2.1 n,c.2.2) v∧Fx X w w':=by
 have HX:=zhy hx
 have HB:Hid (Fx X w w):=zhy (Fr11.refl _ _)
 obtain ⟨x0,x1,x2,x3,y0,y1,y2,y3⟩:=hx.cells
 clear hx
 go_enter Tryz.func104,Tryz.ntmps104
 go_wp2_with fail
 ·have h:=‹_<_›
  have HM:Hid (max c.2.1 n=n):=zhy (by omega)
  go_end0
  exact ⟨rfl,by rw [HM.out];exact HX.out.set1 n,HB.out.set (p:=⟨X,1,none⟩) (.inr rfl) _⟩
 ·have h:=‹n≤c.2.1›
  have HM:Hid (max c.2.1 n=c.2.1):=zhy (by omega)
  go_end0
  exact ⟨rfl,by rw [HM.out];exact HX.out.set1 c.2.1,HB.out.set (p:=⟨X,1,none⟩) (.inr rfl) _⟩
abbrev cv (c:Ce):Value:=.agg #[.int .i64 c.1,.int .i64 c.2.1,.int .i64 c.2.2]
theorem within12_v (n a b:Int) (w:World):Calls Tryz.prog 105 #[.int .i64 n,.int .i64 a,.int .i64 b] w fun e w'=>e=.returned (.bool (wi12 n a b))∧w'=w:=by
 by_cases h0:0≤n
 ·have e0:decide (0≤n)=true:=by simpa using h0
  obtain ⟨v,hv⟩:∃v,wi12 n a b=v:=⟨_,rfl⟩;have HV:Hid (wi12 n a b=v):=zhy hv;have HW:Hid (decide (n≤min a b)=v):=zhy (by rw [←hv,wi12,e0,Bool.true_and]);rw [hv];clear hv;go_enter Tryz.func105,Tryz.ntmps105;go_wp2_with fail
  ·have h:=‹b<a›;have HD:Hid (decide (n≤b)=v):=zhy (by rw [←HW.out];congr 1;rw [Int.min_def,if_neg (by omega)]);go_ret;exact ⟨by rw [←HD.out];rfl,rfl⟩
  ·have h:=‹a≤b›;have HD:Hid (decide (n≤a)=v):=zhy (by rw [←HW.out];congr 1;rw [Int.min_def,if_pos h]);go_ret;exact ⟨by rw [←HD.out];rfl,rfl⟩
 ·have e0:decide (0≤n)=false:=by simpa using h0
  have HW:Hid (wi12 n a b=false):=zhy (by rw [wi12,e0,Bool.false_and]);go_enter Tryz.func105,Tryz.ntmps105;go_wp2_with fail;go_ret;exact ⟨by rw [HW.out];rfl,rfl⟩
theorem fits12_v (c:Ce) (x:Mc) (m:Mh) (w:World):Calls Tryz.prog 59 #[cv c,mv x m] w fun e w'=>e=.returned (.bool (fi12 c m))∧Below w.heap.size w w':=by
 obtain ⟨cf,cs,ch⟩:=c;have HB:Hid (Below w.heap.size w ((w.alloc (.cells #[.int .i64 cf,.int .i64 cs,.int .i64 ch] 39)).alloc (hcel x m))):=zhy (new1.trans (new1.mono (by simp)));obtain ⟨v1,h1⟩:∃v,wi12 cf m.f 1048576=v:=⟨_,rfl⟩;obtain ⟨v2,h2⟩:∃v,wi12 cs m.s 256=v:=⟨_,rfl⟩;obtain ⟨v3,h3⟩:∃v,wi12 ch m.h 1024=v:=⟨_,rfl⟩;have HV:Hid (fi12 (cf,cs,ch) m=(v1&&(v2&&v3))):=zhy (by rw [fi12,h1,h2,h3]);rw [HV.out];have H1:=fun w=>zhy (within12_v cf m.f 1048576 w);have H2:=fun w=>zhy (within12_v cs m.s 256 w);have H3:=fun w=>zhy (within12_v ch m.h 1024 w);rw [h1] at H1;rw [h2] at H2;rw [h3] at H3;clear h1 h2 h3;go_enter Tryz.func59,Tryz.ntmps59;go_upto_region 1 with (fail);go_wp2_with fail;refine (H1 _).out.mono ?_;rintro e w' ⟨rfl,rfl⟩;cases v1 with
 | false =>
  go_wp2_with fail;go_ret;exact ⟨rfl,HB.out⟩
 | true =>
  go_wp2_with fail;refine (H2 _).out.mono ?_;rintro e w' ⟨rfl,rfl⟩;cases v2 with
  | false =>
   go_wp2_with fail;go_ret;exact ⟨rfl,HB.out⟩
  | true =>
   go_wp2_with fail;refine (H3 _).out.mono ?_;rintro e w' ⟨rfl,rfl⟩;go_wp2_with fail;go_ret;exact ⟨by simp,HB.out⟩
structure Rx where
 r:Bool
 A:Option Addr
 c:Nat
 K:List Int
abbrev rz (z:Rx):Rz:=(z.r,z.K)
def At2 (w:World) (p:Addr) (z:Rx):Prop:=w.cell? p=some (.bool z.r)∧w.cell? ⟨p.block,p.off+1,none⟩=some (.slice z.A z.K.length z.c)
def Rw (w:World) (A:Option Addr) (c:Nat) (Z:List Rx):Prop:=(∀z∈Z,Rd w z.A z.c z.K)∧Z.length≤c∧c≤maxLen∧((A=none∧c=0)∨∃ad:Addr,A=some ad∧∀i z,Z[i]?=some z→At2 w (ad.add (i*2)) z)
theorem At2.keep {w w':World} {p:Addr} {z:Rx} (h:At2 w p z) (hb:Below w.heap.size w w'):At2 w' p z:=⟨(hb.cell (cell_lt h.1)).trans h.1,(hb.cell (cell_lt h.2)).trans h.2⟩
theorem Rw.keep {w w':World} {A:Option Addr} {c:Nat} {Z:List Rx} (h:Rw w A c Z) (hb:Below w.heap.size w w'):Rw w' A c Z:=by
 refine ⟨fun z hz=>(h.1 z hz).keep hb,h.2.1,h.2.2.1,?_⟩;rcases h.2.2.2 with hn | ⟨ad,ha,hc⟩
 ·exact .inl hn
 ·exact .inr ⟨ad,ha,fun i z hz=>(hc i z hz).keep hb⟩
theorem Rw.at_ {w:World} {A:Option Addr} {c:Nat} {Z:List Rx} (h:Rw w A c Z) {i:Nat} {z:Rx} (hz:Z[i]?=some z):∃ad:Addr,A=some ad∧At2 w (ad.add (i*2)) z∧Rd w z.A z.c z.K:=by
 rcases h.2.2.2 with ⟨_,hc⟩ | ⟨ad,ha,hc⟩
 ·have:=h.2.1;have:=(zg8.1 hz).1;omega
 ·exact ⟨ad,ha,hc i z hz,h.1 z (List.mem_of_getElem? hz)⟩
abbrev fRw (A:Option Addr) (c:Nat) (Z:List Rx):Fct:=⟨fun w=>Rw w A c Z,fun _ _ h hb=>h.keep hb⟩
theorem hg10_take {Z:List Rx} {i:Nat} {z:Rx} (h:Z[i]?=some z):hg10 ((Z.take (i+1)).map rz)=max (hg10 ((Z.take i).map rz)) z.K.length:=by
 rw [List.take_add_one,h];simp [hg10]
def cer (Z:List Rx):List Value:=Z.flatMap fun z=>[.bool z.r,.slice z.A z.K.length z.c]
theorem cer_cons (z:Rx) (Z:List Rx):cer (z::Z)=.bool z.r::.slice z.A z.K.length z.c::cer Z:=by simp [cer]
theorem length_cer (Z:List Rx):(cer Z).length=Z.length*2:=by
 induction Z with
 | nil=>rfl
 | cons z Z ih=>rw [cer_cons];simp [ih];omega
theorem cer_at:∀{Z:List Rx} {i:Nat} {z:Rx},Z[i]?=some z→(cer Z)[i*2]?=some (.bool z.r)∧(cer Z)[i*2+1]?=some (.slice z.A z.K.length z.c)
 | y::Z,0,z,h=>by
  simp at h;subst h;rw [cer_cons];exact ⟨rfl,rfl⟩
 | y::Z,i+1,z,h=>by
  obtain ⟨h1,h2⟩:=cer_at (Z:=Z) (i:=i) (by simpa using h);rw [cer_cons,show (i+1)*2=i*2+1+1 by omega,show i*2+1+1+1=(i*2+1)+1+1 by omega];simp only [List.getElem?_cons_succ];exact ⟨h1,h2⟩
theorem cer_setr:∀{Z:List Rx} {i:Nat} {z:Rx} (r:Bool),Z[i]?=some z→(cer Z).set (i*2) (.bool r)=cer (Z.set i { z with r:=r })
 | y::Z,0,z,r,h=>by
  simp at h;subst h;rw [List.set_cons_zero,cer_cons,cer_cons];rfl
 | y::Z,i+1,z,r,h=>by
  have ih:=cer_setr (Z:=Z) (i:=i) (z:=z) r (by simpa using h);rw [List.set_cons_succ,cer_cons,cer_cons,←ih,show (i+1)*2=i*2+1+1 by omega];rfl
theorem cer_setk:∀{Z:List Rx} {i:Nat} {z:Rx} (A:Option Addr) (c:Nat) (K:List Int),Z[i]?=some z→(cer Z).set (i*2+1) (.slice A K.length c)=cer (Z.set i ⟨z.r,A,c,K⟩)
 | y::Z,0,z,A,c,K,h=>by
  simp at h;subst h;rw [List.set_cons_zero,cer_cons,cer_cons];rfl
 | y::Z,i+1,z,A,c,K,h=>by
  have ih:=cer_setk (Z:=Z) (i:=i) (z:=z) A c K (by simpa using h);rw [List.set_cons_succ,cer_cons,cer_cons,←ih,show (i+1)*2+1=i*2+1+1+1 by omega];rfl
def Wr (w:World) (t g:Nat) (Z:List Rx):Prop:=w.heap[g]?=some (.cells (cer Z).toArray t (0,0))∧∀z∈Z,Rd w z.A z.c z.K
theorem cer_no (Z:List Rx):∀u∈cer Z,∀kd x,u≠.int kd x:=by
 intro u hu kd x e;simp only [cer,List.mem_flatMap] at hu;obtain ⟨z,-,hz⟩:=hu;subst e;simp at hz
section
variable {w w' : World} {t g : Nat} {Z : List Rx}
theorem Wr.lt (h:Wr w t g Z):g<w.heap.size:=(zg9.1 h.1).1
theorem Wr.keep (h:Wr w t g Z) (hb:Below w.heap.size w w'):Wr w' t g Z:=⟨(hb.block g h.lt).trans h.1,fun z hz=>(h.2 z hz).keep hb⟩
theorem Wr.cell0 (h:Wr w t g Z) {i:Nat} {z:Rx} (hz:Z[i]?=some z):w.cell? ⟨g,i*2,none⟩=some (.bool z.r):=by
 rw [cell_of_row w g _ _ _ (0,0) h.1,List.getElem?_toArray];exact (cer_at hz).1
theorem Wr.cell1 (h:Wr w t g Z) {i:Nat} {z:Rx} (hz:Z[i]?=some z):w.cell? ⟨g,i*2+1,none⟩=some (.slice z.A z.K.length z.c):=by
 rw [cell_of_row w g _ _ _ (0,0) h.1,List.getElem?_toArray];exact (cer_at hz).2
theorem Wr.froz (h:Wr w t g Z) (i:Nat):w.frozen? ⟨g,i,none⟩=false:=frozen_of_row w g i _ _ h.1
theorem Wr.no_int (h:Wr w t g Z) {p:Addr} {kd:IntKind} {x:Int} (hp:w.cell? p=some (.int kd x)):p.block≠g:=by
 intro e;obtain ⟨b,o,sp⟩:=p;subst e
 have hc:sp=none→(cer Z)[o]?=some (.int kd x):=fun e=>by
  subst e;rw [cell_of_row w _ _ _ _ (0,0) h.1,List.getElem?_toArray] at hp;exact hp
 cases sp with
 | none=>exact cer_no Z _ (List.mem_of_getElem? (hc rfl)) kd x rfl
 | some s=>simp [World.cell?,h.1] at hp
theorem Rd.past {A:Option Addr} {c:Nat} {K:List Int} (h:Rd w A c K) (hw:Wr w t g Z) (j:Nat) (v:Value):Rd (w.setCell ⟨g,j,none⟩ v) A c K:=by
 refine ⟨h.1,h.2.1,h.2.2.1,?_⟩;rcases h.2.2.2 with hn | ⟨ad,ha,hc⟩
 ·exact .inl hn
 ·refine .inr ⟨ad,ha,fun i x hx=>?_⟩;have:=hc i x hx;rw [World.cell?_setCell_other _ _ _ _ (fun e=>hw.no_int this (by rw [←e]))];exact this
theorem Wr.setr (h:Wr w t g Z) {i:Nat} {z:Rx} (hz:Z[i]?=some z) (r:Bool):Wr (w.setCell ⟨g,i*2,none⟩ (.bool r)) t g (Z.set i { z with r:=r }):=by
 refine ⟨?_,fun u hu=>?_⟩
 ·rw [heap_setCell_same w g _ _ _ _ h.1,←cer_setr r hz];simp
 ·rcases List.mem_or_eq_of_mem_set hu with hu | rfl
  ·exact (h.2 u hu).past h _ _
  ·exact (h.2 z (List.mem_of_getElem? hz)).past h _ _
theorem Wr.setk (h:Wr w t g Z) {i:Nat} {z:Rx} (hz:Z[i]?=some z) {A:Option Addr} {c:Nat} {K:List Int} (hk:Rd w A c K):Wr (w.setCell ⟨g,i*2+1,none⟩ (.slice A K.length c)) t g (Z.set i ⟨z.r,A,c,K⟩):=by
 refine ⟨?_,fun u hu=>?_⟩
 ·rw [heap_setCell_same w g _ _ _ _ h.1,←cer_setk A c K hz];simp
 ·rcases List.mem_or_eq_of_mem_set hu with hu | rfl
  ·exact (h.2 u hu).past h _ _
  ·exact hk.past h _ _
theorem Wr.rw (h:Wr w t g Z) {m:Nat} (hm:Z.length=m) (hl:m≤1000000):Rw w (some ⟨g,0,none⟩) m Z:=by
 refine ⟨h.2,by omega,by unfold maxLen;omega,.inr ⟨_,rfl,fun i z hz=>?_⟩⟩
 have e:∀k,(⟨g,0,none⟩:Addr).add k=⟨g,k,none⟩:=fun k=>by
  unfold Addr.add;split
  ·rename_i h0;simp [h0]
  ·simp
 rw [At2,e];exact ⟨h.cell0 hz,h.cell1 hz⟩
end
abbrev fWr (t g:Nat) (Z:List Rx):Fct:=⟨fun w=>Wr w t g Z,fun _ _ h hb=>h.keep hb⟩
abbrev fC1 (p:Addr) (v:Value):Fct:=⟨fun w=>w.cell? p=some v,fun _ _ h hb=>(hb.cell (cell_lt h)).trans h⟩
def zx10:Rx:=⟨false,none,0,[]⟩
theorem sequal_v (A B:Option Addr) (c d n m:Nat) (l k:List Int) (v:Bool) (w:World) (hr:Rd w A c l) (hs:Rd w B d k) (hn:l.length=n) (hm:k.length=m) (hv:(l==k)=v) :
  Calls Tryz.prog 200 #[.slice A n c,.slice B m d] w fun e w'=>e=.returned (.bool v)∧Below w.heap.size w w':=by
 subst hn hm
 have hlen:=hr.len
 have hlen2:=hs.len
 have HR:=zhy hr
 have HS:=zhy hs
 have HV:=zhy hv
 clear hr hs hv
 by_cases hl:l.length=k.length
 ·go_enter Tryz.func200,Tryz.ntmps200
  go_wp2_with fail
  go_loopw [13] (fun i wr=>∃j:Nat,j≤l.length∧i=.int .i64 j∧Hid (l.take j=k.take j)∧Hid (Below w.heap.size w wr)) (fun i _=>l.length-(intOf i).toNat)
  case atStart=>exact ⟨0,by omega,rfl,rfl,Below.refl _ _⟩
  case round =>
   obtain ⟨j,hj,rfl,HT,HB⟩:=hrel
   by_cases h1:j<l.length
   ·have h2:j<k.length:=by omega
    obtain ⟨ad,rfl,hc⟩:=(HR.out.keep HB.out).at_ h1
    obtain ⟨bd,rfl,hd⟩:=(HS.out.keep HB.out).at_ h2
    rw [zg7 h1] at hc
    rw [zg7 h2] at hd
    simp only [Option.getD_some] at hc hd
    by_cases hx:l[j]=k[j]
    ·have HN:=zhy (take_eq h1 h2 hx HT.out)
     clear HT
     rw [←hx] at hd
     clear hx
     generalize l[j]=x at *
     go_wp2_with fail
     go_quiet (fail)
     go_wp2_with fail
     go_roundw
     case rel=>exact ⟨j+1,by omega,by go_num,HN,zhy (below_draws HB.out _)⟩
     case measure=>simp [intOf];omega
    ·have HN:Hid (v=false):=by rw [Hid,←HV.out];exact beq_no (take_ne h1 h2 hx)
     clear HT
     generalize l[j]=x at *
     generalize k[j]=y at *
     go_wp2_with fail
     go_quiet (fail)
     go_wp2_with fail
     go_ret
     exact ⟨by rw [HN.out];rfl,below_draws HB.out _⟩
   ·obtain rfl:j=l.length:=by omega
    have HN:Hid (v=true):=by
     rw [Hid,←HV.out];have:=HT.out;rw [List.take_length,hl,List.take_length] at this;simpa using this
    clear HT
    go_wp2_with fail
    go_ret
    exact ⟨by rw [HN.out];rfl,HB.out⟩
 ·have HN:Hid (v=false):=by rw [Hid,←HV.out];exact beq_no (fun e=>hl (by rw [e]))
  go_enter Tryz.func200,Tryz.ntmps200
  go_wp2_with fail
  go_ret
  exact ⟨by rw [HN.out];rfl,Below.refl _ _⟩
end Go.Proofs.YtnjgkkoiamiaaaaGreatDoor
