import Derived.Test.YtnjgkkoiamiaaaaGreatDoorVma1
import Derived.Test.YtnjgkkoiamiaaaaGreatDoorVma10
import Derived.Test.YtnjgkkoiamiaaaaGreatDoorVma24
import Derived.Test.YtnjgkkoiamiaaaaGreatDoorVma9
import Derived.Test.YtnjgkkoiamiaaaaGreatDoorVma25
import Derived.Test.YtnjgkkoiamiaaaaGreatDoorVma5
import Derived.Test.YtnjgkkoiamiaaaaGreatDoorVma18
set_option maxRecDepth 100000
set_option maxHeartbeats 16000000
set_option linter.unusedSimpArgs false
set_option linter.unusedVariables false
namespace Go.Proofs.YtnjgkkoiamiaaaaGreatDoor
open Go.RowKit
theorem mayG_v (n:Nat) (v:Bool) (w:World) (hv:decide ((n:Int)≤4)=v):Calls Tryz.prog 60 #[.int .i64 n] w fun r w'=>r=.returned (.bool v)∧w'=w:=by
 go_enter Tryz.func60,Tryz.ntmps60;go_wp2_with fail;go_ret;exact ⟨by rw [←hv];rfl,rfl⟩
theorem mayS_v (n:Int) (v:Bool) (w:World) (hv:decide (n≤16)=v):Calls Tryz.prog 61 #[.int .i64 n] w fun r w'=>r=.returned (.bool v)∧w'=w:=by
 go_enter Tryz.func61,Tryz.ntmps61;go_wp2_with fail;go_ret;exact ⟨by rw [←hv];rfl,rfl⟩
theorem mayI_v (i:Int) (n:Nat) (v:Bool) (w:World) (hv:decide (i=-1∨0≤i∧i<n)=v):Calls Tryz.prog 62 #[.int .i64 i,.int .i64 n] w fun r w'=>r=.returned (.bool v)∧w'=w:=by
 by_cases h1:i=-1
 ·have hv2:v=true:=by rw [←hv,decide_eq_true (.inl h1)]
  subst hv2;clear hv;subst h1;go_enter Tryz.func62,Tryz.ntmps62;go_wp2_with fail;go_ret;exact ⟨rfl,rfl⟩
 ·have e1:(i==-1)=false:=by simpa using h1
  by_cases h2:0≤i
  ·have HV:Hid (decide (i<(n:Int))=v):=by
    rw [Hid,←hv];exact decide_eq_decide.2 (by omega)
   clear hv;go_enter Tryz.func62,Tryz.ntmps62;go_wp2_with fail;go_ret;exact ⟨by rw [←HV.out];rfl,rfl⟩
  ·have hv2:v=false:=by rw [←hv,decide_eq_false (by omega)]
   subst hv2;clear hv;go_enter Tryz.func62,Tryz.ntmps62;go_wp2_with fail;go_ret;exact ⟨rfl,rfl⟩
theorem last_v (i:Int) (w:World) (h:-1≤i):Calls Tryz.prog 68 #[.int .i64 i] w fun r w'=>r=.returned (.int .i64 (if i<0 then 255 else i))∧w'=w:=by
 by_cases h1:i=-1
 ·subst h1;go_enter Tryz.func68,Tryz.ntmps68;go_wp2_with fail;go_ret;exact ⟨rfl,rfl⟩
 ·have e1:(i==-1)=false:=by simpa using h1
  rw [if_neg (by omega)];go_enter Tryz.func68,Tryz.ntmps68;go_wp2_with fail;go_ret;exact ⟨rfl,rfl⟩
theorem migOf_v (n:Int) (w:World):Calls Tryz.prog 142 #[.int .i64 n] w fun r w'=>r=.returned (.int .i64 (if n=255 then -1 else n))∧w'=w:=by
 by_cases h1:n=255
 ·subst h1;go_enter Tryz.func142,Tryz.ntmps142;go_wp2_with fail;go_ret;exact ⟨rfl,rfl⟩
 ·have e1:(n==255)=false:=by simpa using h1
  rw [if_neg h1];go_enter Tryz.func142,Tryz.ntmps142;go_wp2_with fail;go_ret;exact ⟨rfl,rfl⟩
def Wx8 (w:World) (T:Nat) (A:Option Addr) (c n:Nat) (X:List Int) (e:Int):Prop:=
 T<w.heap.size∧w.cell? ⟨T,0,none⟩=some (.slice A n c)∧w.cell? ⟨T,1,none⟩=some (.int .i64 e)∧w.frozen? ⟨T,0,none⟩=false∧w.frozen? ⟨T,1,none⟩=false∧w.ownsRow (T+1) 5 1 (.slice A n c) n (cel X)
theorem Wx8.keep {w w':World} {T:Nat} {A:Option Addr} {c n:Nat} {X:List Int} {e:Int} (h:Wx8 w T A c n X e) (hb:Below w.heap.size w w'):Wx8 w' T A c n X e:=by
 obtain ⟨h1,h2,h3,h4,h5,h6⟩:=h;obtain ⟨hc,hf⟩:=bcell hb;exact ⟨Nat.lt_of_lt_of_le h1 hb.size,(hc _ _ h1).trans h2,(hc _ _ h1).trans h3,(hf _ _ h1).trans h4,(hf _ _ h1).trans h5,own_below h6 hb (Nat.le_refl _)⟩
theorem Wx8.new (w:World) (t:Nat):Wx8 (w.alloc (.cells #[.slice none 0 0,.int .i64 0] t)) w.heap.size none 0 0 [] 0:=by
 refine ⟨by simp,?_,?_,?_,?_,World.ownsRow_nil _ _ _ _⟩<;>simp [go_sem]
def adX (X:List Int) (e:Int) (l:List Int):List Int:=if e=0 then X++l else X
def adE (e e1:Int):Int:=if e=0 then e1 else e
def adN (n:Nat) (e:Int) (m:Nat):Nat:=if e=0 then n+m else n
theorem wadd_v (T:Nat) (A A1:Option Addr) (c n n1 c1:Nat) (X l:List Int) (e e1:Int) (w:World) (h:Wx8 w T A c n X e) (hr:Rd w A1 c1 l) (hn:l.length=n1) (hs:n+n1≤1000000) :
  Calls Tryz.prog 63 #[.pointer (some ⟨T,0,none⟩),.slice A1 n1 c1,.int .i64 e1] w fun r w'=>r=.returned (.tuple #[])∧(∃A2 c2,Wx8 w' T A2 c2 (adN n e n1) (adX X e l) (adE e e1))∧Below T w w'∧(∀k o,w.heap[k]?=some o→noRow o→k≠T→w'.heap[k]?=some o):=by
 obtain ⟨i0,hi,hz0,hz1,hz2⟩:=info_parts Tryz.info5
 by_cases he:e=0
 ·subst he
  rw [adX,if_pos rfl,adE,if_pos rfl,adN,if_pos rfl]
  obtain ⟨t0,t1,t2,t3,t4,t5⟩:=h
  have HO:=zhy t5
  have HR:=zhy hr
  have HN:=zhy hn
  have HC:=zhy (And.intro t1 (And.intro t2 (And.intro t3 t4)))
  clear t5 hr hn
  go_enter Tryz.func63,Tryz.ntmps63
  go_wp2_with (at_builtin;refine wpList_append_rd _ rfl _ _ 40 rfl (T+1) 5 i0 Tryz.underlying40 hi hz0 hz1 hz2 _ n X rfl HO.out A1 n1 c1 l rfl HR.out HN.out.symm (by omega) (by omega) ?_)
  intro A2 c2 w2 ho hg hb _
  have k:∀i,w2.cell? ⟨T,i,none⟩=w.cell? ⟨T,i,none⟩:=fun i=>hb.cell (p:=⟨T,i,none⟩) (show T<T+1 by omega)
  have f:∀i,w2.frozen? ⟨T,i,none⟩=w.frozen? ⟨T,i,none⟩:=fun i=>hb.frozen (p:=⟨T,i,none⟩) (show T<T+1 by omega)
  have x0:=(k 0).trans HC.out.1
  have x1:=(k 1).trans HC.out.2.1
  have x2:=(f 0).trans HC.out.2.2.1
  have x3:=(f 1).trans HC.out.2.2.2
  have hsz:=hb.size
  have HK:Hid (∀k o,w.heap[k]?=some o→noRow o→k≠T→((w2.setCell ⟨T,0,none⟩ (.slice A2 (n+n1) c2)).setCell ⟨T,1,none⟩ (.int .i64 e1)).heap[k]?=some o):=by
   intro k o hk ho2 hne;rw [Below.heap_setCell _ _ _ _ (show k≠T from hne),Below.heap_setCell _ _ _ _ (show k≠T from hne)];exact (hg.block k (zg9.1 hk).1 (fun e'=>own_noRow HO.out hk ho2 e'.symm)).trans hk
  have HO2:=zhy ho
  have HB:=zhy (hb.mono (show T≤T+1 by omega))
  have HF:Hid (Wx8 ((w2.setCell ⟨T,0,none⟩ (.slice A2 (n+n1) c2)).setCell ⟨T,1,none⟩ (.int .i64 e1)) T A2 c2 (n+n1) (X++l) e1∧Below T w ((w2.setCell ⟨T,0,none⟩ (.slice A2 (n+n1) c2)).setCell ⟨T,1,none⟩ (.int .i64 e1))):=by
   refine ⟨⟨by simp;omega,?_,?_,?_,?_,ownsRow_setCell_below (ownsRow_setCell_below HO2.out (show T<T+1 by omega) _) (show T<T+1 by omega) _⟩,(HB.out.setCell (p:=⟨T,0,none⟩) (Nat.le_refl _) _).setCell (p:=⟨T,1,none⟩) (Nat.le_refl _) _⟩<;>simp [go_sem,x0,x1,x2,x3]
  clear k f hb ho hg HC t1 t2 t3 t4
  go_wp2_with fail
  go_end0
  exact ⟨rfl,⟨A2,c2,HF.out.1⟩,HF.out.2,HK.out⟩
 ·have e2:(e==0)=false:=by simpa using he
  have HE:=zhy he
  have HW:=zhy h
  obtain ⟨t0,t1,t2,t3,t4,t5⟩:=h
  clear t5 he
  go_enter Tryz.func63,Tryz.ntmps63
  go_wp2_with fail
  go_end0
  exact ⟨rfl,⟨A,c,by rw [adX,if_neg HE.out,adE,if_neg HE.out,adN,if_neg HE.out];exact HW.out⟩,Below.refl _ _,fun _ _ h _ _=>h⟩
theorem noRow_hcel (x:Mc) (m:Mh):noRow (hcel x m):=fun cs q h=>by
 rw [hcel] at h;injection h with _ h _;exact absurd h (by decide)
theorem mb_of {w:World} {B:Nat} {x:Mc} {m:Mh} (h:w.heap[B]?=some (hcel x m)):Mb w B x m:=by
 refine ⟨(zg9.1 h).1,?_,?_,?_,?_,?_,?_,?_,?_⟩<;>(rw [hcel] at h;rw [cell_cells h];rfl)
def wmL:List (Mh×List Ins)→List Int→Int→List Int×Int
 | [],X,e=>(X,e)
 | z::s,X,e=>wmL s (adX (adX X e (mL z.1)) (adE e (mE z.1)) (byL z.2)) (adE (adE e (mE z.1)) (cdE z.2))
theorem wmL_err:∀(s:List (Mh×List Ins)) (X:List Int) (e:Int),e≠0→wmL s X e=(X,e)
 | [],X,e,h=>rfl
 | z::s,X,e,h=>by
  rw [wmL];have h1:adE e (mE z.1)=e:=by rw [adE,if_neg h]
  have h2:adX X e (mL z.1)=X:=by rw [adX,if_neg h]
  rw [h1,h2,adX,if_neg h,adE,if_neg h];exact wmL_err s X e h
theorem wmL_ok:∀(s:List (Mh×List Ins)) (X:List Int),(wmL s X 0).2=qmE s∧(qmE s=0→(wmL s X 0).1=X++qmB s)
 | [],X=>⟨rfl,fun _=>by simp [wmL,qmB]⟩
 | z::s,X=>by
  rw [wmL,qmE];have h1:adE 0 (mE z.1)=mE z.1:=by rw [adE,if_pos rfl]
  have h2:adX X 0 (mL z.1)=X++mL z.1:=by rw [adX,if_pos rfl]
  rw [h1,h2];by_cases hm:mM z.1=true
  ·have e1:mE z.1=0:=by rw [mE,if_pos hm]
   rw [if_pos hm,e1,adX,if_pos rfl,adE,if_pos rfl];by_cases hk:codM z.2=true
   ·have e2:cdE z.2=0:=by rw [cdE,if_pos hk]
    rw [if_pos hk,e2];have ih:=wmL_ok s ((X++mL z.1)++byL z.2);refine ⟨ih.1,fun h=>?_⟩;rw [ih.2 h,byL,if_pos hk,qmB,qmB];simp
   ·have e2:cdE z.2=40:=by rw [cdE,if_neg hk]
    rw [if_neg hk,e2,wmL_err s _ _ (by decide)];exact ⟨rfl,fun h=>by cases h⟩
  ·have e1:mE z.1=70:=by rw [mE,if_neg hm]
   rw [if_neg hm,e1];have e3:adE 70 (cdE z.2)=70:=by rw [adE,if_neg (by decide)]
   rw [e3,wmL_err s _ _ (by decide)];exact ⟨rfl,fun h=>by cases h⟩
theorem adE_ne {e e1:Int} (h:e≠0):adE e e1=e:=by rw [adE,if_neg h]
theorem byt1 {x:Int} (h:0≤x) (h2:x<256):Byt [x]:=fun z hz=>by rw [List.mem_singleton.1 hz];exact ⟨h,h2⟩
theorem qfin {d:Md} (h80:¬(4<d.g.length∨16<d.s.length∨d.i < -1∨(d.s.length:Int)≤d.i)) {X1 X2 X3 X5 X6:List Int} {e1 e2 e3 e5 e6:Int}
  (h1:adX [] 0 (poL d.g)=X1∧adE 0 (poE d.g)=e1) (h2:adX X1 e1 (poL d.p)=X2∧adE e1 (poE d.p)=e2) (h3:adX X2 e2 [(d.s.length:Int)]=X3∧adE e2 0=e3) (h5:wmL d.s X3 e3=(X5,e5)) (h6:adX X5 e5 [if d.i<0 then 255 else d.i]=X6∧adE e5 0=e6) :
  (e6≠0→qE d=e6∧qB d=[])∧(e6=0→X6=qX d∧qE d=if 2000<(qX d).length then 3 else 0):=by
 have hB:qE d≠0→qB d=[]:=fun h=>by rw [qB,if_neg h]
 have key:(e6≠0→qE d=e6)∧(e6=0→X6=qX d∧qE d=if 2000<(qX d).length then 3 else 0):=by
  rw [qE,if_neg h80];rw [adX,if_pos rfl,adE,if_pos rfl] at h1;obtain ⟨rfl,rfl⟩:=h1;by_cases hg:poM d.g=true
  ·have e1:poE d.g=0:=by rw [poE,if_pos hg]
   rw [e1,adX,if_pos rfl,adE,if_pos rfl] at h2;obtain ⟨rfl,rfl⟩:=h2;rw [if_pos hg];by_cases hp:poM d.p=true
   ·have e2:poE d.p=0:=by rw [poE,if_pos hp]
    rw [e2,adX,if_pos rfl,adE,if_pos rfl] at h3;obtain ⟨rfl,rfl⟩:=h3;rw [if_pos hp];obtain ⟨i1,i2⟩:=wmL_ok d.s (([]++poL d.g)++poL d.p++[(d.s.length:Int)]);rw [h5] at i1 i2;dsimp only at i1 i2;by_cases hm:qmE d.s=0
    ·rw [hm] at i1;subst i1;rw [if_pos hm];rw [adX,if_pos rfl,adE,if_pos rfl] at h6;obtain ⟨rfl,rfl⟩:=h6;refine ⟨fun h=>absurd rfl h,fun _=>⟨?_,rfl⟩⟩;rw [i2 hm,qX,poL,if_pos hg,poL,if_pos hp];simp
    ·rw [if_neg hm];rw [adE_ne (by rw [i1];exact hm)] at h6;obtain ⟨-,rfl⟩:=h6;exact ⟨fun _=>i1.symm,fun h=>absurd (i1.symm.trans h) hm⟩
   ·have e2:poE d.p=60:=by rw [poE,if_neg hp]
    rw [e2,adE_ne (by decide)] at h3;obtain ⟨-,rfl⟩:=h3;rw [wmL_err _ _ _ (by decide)] at h5;injection h5 with h5 h5';subst h5';rw [adE_ne (by decide)] at h6;obtain ⟨-,rfl⟩:=h6;rw [if_neg hp];exact ⟨fun _=>rfl,fun h=>by cases h⟩
  ·have e1:poE d.g=60:=by rw [poE,if_neg hg]
   rw [e1,adE_ne (by decide)] at h2;obtain ⟨-,rfl⟩:=h2;rw [adE_ne (by decide)] at h3;obtain ⟨-,rfl⟩:=h3;rw [wmL_err _ _ _ (by decide)] at h5;injection h5 with h5 h5';subst h5';rw [adE_ne (by decide)] at h6;obtain ⟨-,rfl⟩:=h6;rw [if_neg hg];exact ⟨fun _=>rfl,fun h=>by cases h⟩
 exact ⟨fun h=>⟨key.1 h,hB (by rw [key.1 h];exact h)⟩,key.2⟩
theorem qG_parts {d:Md} (h:qG d=false):d.g.length≤100∧d.p.length≤100∧d.s.length≤40∧∀z∈d.s,gB z.1=false∧z.2.length≤300:=by
 rw [qG,Bool.or_eq_false_iff,Bool.or_eq_false_iff,Bool.or_eq_false_iff,decide_eq_false_iff_not,decide_eq_false_iff_not,decide_eq_false_iff_not,List.any_eq_false] at h;obtain ⟨h1,h2,h3,h4⟩:=h;refine ⟨by omega,by omega,by omega,fun z hz=>?_⟩;have:=h4 z hz;rw [qgE,Bool.not_eq_true,Bool.or_eq_false_iff,decide_eq_false_iff_not] at this;exact ⟨this.1,by omega⟩
theorem adN_le (n:Nat) (e:Int) (m:Nat):adN n e m≤n+m:=by
 rw [adN];split<;>omega
theorem mL_le2 (m:Mh):(mL m).length≤27:=by
 by_cases h:mM m=true
 ·exact mL_le h
 ·rw [mL,if_neg h];simp
theorem byL_le (k:List Ins):(byL k).length≤601:=by
 by_cases h:codM k=true
 ·rw [byL,if_pos h];exact cB_le h
 ·rw [byL,if_neg h];simp
theorem byL_byt {k:List Ins} (h0:∀x∈k,InOk x):Byt (byL k):=by
 by_cases h:codM k=true
 ·rw [byL,if_pos h];exact cB_byt h h0
 ·rw [byL,if_neg h];intro x hx;cases hx
theorem kmbytes:KMBytes fWM:=by
 intro y d w hw hq hg;obtain ⟨hgl,hpl,hsl,hzb⟩:=qG_parts hg;have HZB:=zhy hzb;have hib:=hq.2.2.2.2;have hzl:=hq.zlen;have HZL:=zhy hzl;have HZA:=zhy (fun (i:Nat) (h1:i<y.Z.length) (h2:i<d.s.length)=>hq.zat h1 h2);obtain ⟨G,gc,P,pc,A,c,Z⟩:=y;dsimp only at HZL HZA hzl;have S0:=zhy ((((Sx.start w).add fWM hw).add (fQm ⟨G,gc,P,pc,A,c,Z⟩ d) hq).mkD ⟨G,gc,P,pc,A,c,Z⟩ d);clear hq hzl hw hg hzb;obtain ⟨z0,z1,z2,z3,z4⟩:=(S0.out.call (Below.refl _ _)).2.1;dsimp only at z1 z2 z3;go_enter Tryz.func29,Tryz.ntmps29;by_cases c1:4<d.g.length
 ·have HE:Hid (qE d=80):=by rw [Hid,qE,if_pos (by omega)]
  have HB0:Hid (qB d=[]):=by rw [Hid,qB,HE.out];rfl
  have P1:=fun w=>zhy (mayG_v d.g.length false w (decide_eq_false (by omega)));go_wp2_with fail;refine (P1 _).out.mono ?_;rintro r w' ⟨rfl,rfl⟩;go_wp2_with fail;go_ret2;exact ⟨none,0,by rw [HE.out,HB0.out];rfl,by rw [HB0.out];exact World.ownsRow_nil _ _ _ _,S0.out.1⟩
 have P1:=fun w=>zhy (mayG_v d.g.length true w (decide_eq_true (by omega)));by_cases c2:16<d.s.length
 ·have HE:Hid (qE d=80):=by rw [Hid,qE,if_pos (by omega)]
  have HB0:Hid (qB d=[]):=by rw [Hid,qB,HE.out];rfl
  have P2:=fun w=>zhy (mayS_v d.s.length false w (decide_eq_false (by omega)));go_wp2_with fail;refine (P1 _).out.mono ?_;rintro r w' ⟨rfl,rfl⟩;go_wp2_with fail;refine (P2 _).out.mono ?_;rintro r w' ⟨rfl,rfl⟩;go_wp2_with fail;go_ret2;exact ⟨none,0,by rw [HE.out,HB0.out];rfl,by rw [HB0.out];exact World.ownsRow_nil _ _ _ _,S0.out.1⟩
 have P2:=fun w=>zhy (mayS_v d.s.length true w (decide_eq_true (by omega)));by_cases c3':¬(d.i=-1∨0≤d.i∧d.i<d.s.length)
 ·have HE:Hid (qE d=80):=by rw [Hid,qE,if_pos (by omega)]
  have HB0:Hid (qB d=[]):=by rw [Hid,qB,HE.out];rfl
  have P3:=fun w=>zhy (mayI_v d.i d.s.length false w (decide_eq_false c3'));clear c3';go_wp2_with fail;refine (P1 _).out.mono ?_;rintro r w' ⟨rfl,rfl⟩;go_wp2_with fail;refine (P2 _).out.mono ?_;rintro r w' ⟨rfl,rfl⟩;go_wp2_with fail;refine (P3 _).out.mono ?_;rintro r w' ⟨rfl,rfl⟩;go_wp2_with fail;go_ret2;exact ⟨none,0,by rw [HE.out,HB0.out];rfl,by rw [HB0.out];exact World.ownsRow_nil _ _ _ _,S0.out.1⟩
 have c3:d.i=-1∨0≤d.i∧d.i<d.s.length:=Classical.not_not.1 c3';clear c3';have P3:=fun w=>zhy (mayI_v d.i d.s.length true w (decide_eq_true c3));have h80:¬(4<d.g.length∨16<d.s.length∨d.i < -1∨(d.s.length:Int)≤d.i):=by omega
 have HF:=zhy (fun X1 X2 X3 X5 X6 e1 e2 e3 e5 e6=>qfin (d:=d) h80 (X1:=X1) (X2:=X2) (X3:=X3) (X5:=X5) (X6:=X6) (e1:=e1) (e2:=e2) (e3:=e3) (e5:=e5) (e6:=e6));have P7:=fun w=>zhy (last_v d.i w (by omega))
 have HLB:Hid (0≤(if d.i<0 then 255 else d.i)∧(if d.i<0 then 255 else d.i)<256):=by
  unfold Hid;split<;>omega
 clear c3 h80;go_wp2_with fail;refine (P1 _).out.mono ?_;rintro r w' ⟨rfl,rfl⟩;go_wp2_with fail;refine (P2 _).out.mono ?_;rintro r w' ⟨rfl,rfl⟩;go_wp2_with fail;refine (P3 _).out.mono ?_;rintro r w' ⟨rfl,rfl⟩;clear P1 P2 P3;go_upto_region 3 with (fail);have S0':Hid (Sx w (w.alloc (.cells #[.slice G d.g.length gc,.slice P d.p.length pc,.slice A d.s.length c,.int .i64 d.i] 25)) [fD w.heap.size ⟨G,gc,P,pc,A,c,Z⟩ d,fQm ⟨G,gc,P,pc,A,c,Z⟩ d,fWM]):=S0;clear S0;generalize w.alloc (.cells #[.slice G d.g.length gc,.slice P d.p.length pc,.slice A d.s.length c,.int .i64 d.i] 25)=w0 at *;have S00:Hid (∀w',Below w0.heap.size w0 w'→Sx w w' [fD w.heap.size ⟨G,gc,P,pc,A,c,Z⟩ d,fQm ⟨G,gc,P,pc,A,c,Z⟩ d,fWM]):=fun w' hb=>S0'.out.call hb;have HW0:=zhy (Wx8.new w0 110);have HB0:=zhy (new1 (w:=w0) (a:=.cells #[.slice none 0 0,.int .i64 0] 110));clear S0' z0 z1 z2 z3 z4;go_upto_region 4 with (fail);generalize w0.alloc (.cells #[.slice none 0 0,.int .i64 0] 110)=w1 at *;have hwT:w.heap.size≤w0.heap.size+1:=by have:=(S00.out w0 (Below.refl _ _)).1.size;omega
 generalize w0.heap.size=T at *;obtain ⟨-,⟨z0,z1,z2,z3,z4⟩,-⟩:=S00.out _ HB0.out;dsimp only at z1 z2 z3;go_wp2_with fail;refine (kpbytes G gc d.g.length d.g w1 (S00.out _ HB0.out).2.2.2.1.1 (S00.out _ HB0.out).2.2.1.1 rfl (by omega)).mono ?_;rintro r w2 ⟨A2,c2,rfl,ho2,hb2⟩;have HR2:=zhy (own_rd ho2 (poL_byt _));have HW2:=zhy (HW0.out.keep hb2);have HB2:=zhy (HB0.out.trans (hb2.mono (Nat.le_of_lt HW0.out.1)));clear ho2 hb2 z0 z1 z2 z3 z4 HW0 HB0;have bl:=poL_len d.g;go_wp2_with fail;refine (wadd_v T none A2 0 0 _ c2 [] (poL d.g) 0 (poE d.g) w2 HW2.out HR2.out rfl (by omega)).mono ?_;rintro r w3 ⟨rfl,⟨A3,c3,hw3⟩,hb3,-⟩;have bn:=adN_le 0 0 (poL d.g).length;obtain ⟨n3,hn3⟩:∃n,adN 0 0 (poL d.g).length=n:=⟨_,rfl⟩;obtain ⟨X1,hX1⟩:∃X,adX [] 0 (poL d.g)=X:=⟨_,rfl⟩;obtain ⟨e1,he1⟩:∃e,adE 0 (poE d.g)=e:=⟨_,rfl⟩;rw [hn3,hX1,he1] at hw3;rw [hn3] at bn;have HX1:=zhy (And.intro hX1 he1);have HW3:=zhy hw3;have HB3:=zhy (HB2.out.trans hb3);clear hn3 hX1 he1 hw3 hb3 HW2 HR2 HB2;obtain ⟨-,⟨z0,z1,z2,z3,z4⟩,-⟩:=S00.out _ HB3.out;dsimp only at z1 z2 z3;go_wp2_with fail;refine (kpbytes P pc d.p.length d.p w3 (S00.out _ HB3.out).2.2.2.1.1 (S00.out _ HB3.out).2.2.1.2.1 rfl (by omega)).mono ?_;rintro r w4 ⟨A4,c4,rfl,ho2,hb2⟩;have HR2:=zhy (own_rd ho2 (poL_byt _));have HW4:=zhy (HW3.out.keep hb2);have HB4:=zhy (HB3.out.trans (hb2.mono (Nat.le_of_lt HW3.out.1)));clear ho2 hb2 z0 z1 z2 z3 z4 HW3 HB3;have bl2:=poL_len d.p;go_wp2_with fail;refine (wadd_v T A3 A4 c3 n3 _ c4 X1 (poL d.p) e1 (poE d.p) w4 HW4.out HR2.out rfl (by omega)).mono ?_;rintro r w5 ⟨rfl,⟨A5,c5,hw3⟩,hb3,-⟩;have bn5:=adN_le n3 e1 (poL d.p).length;obtain ⟨n5,hn3⟩:∃n,adN n3 e1 (poL d.p).length=n:=⟨_,rfl⟩;obtain ⟨X2,hX1⟩:∃X,adX X1 e1 (poL d.p)=X:=⟨_,rfl⟩;obtain ⟨e2,he1⟩:∃e,adE e1 (poE d.p)=e:=⟨_,rfl⟩;rw [hn3,hX1,he1] at hw3;rw [hn3] at bn5;have HX2:=zhy (And.intro hX1 he1);have HW5:=zhy hw3;have HB5:=zhy (HB4.out.trans hb3);clear hn3 hX1 he1 hw3 hb3 HW4 HR2 HB4;obtain ⟨-,⟨z0,z1,z2,z3,z4⟩,-⟩:=S00.out _ HB5.out;dsimp only at z1 z2 z3;have PU:=fun w=>zhy (put_any 1 d.s.length w);rw [(put_1 (n:=d.s.length) (by omega) (by omega)).1,(put_1 (n:=d.s.length) (by omega) (by omega)).2] at PU;go_wp2_with fail;refine (PU _).out.mono ?_;rintro r w6 ⟨A6,c6,rfl,ho2,hb2⟩;have HR2:=zhy (own_rd ho2 (byt1 (x:=d.s.length) (by omega) (by omega)));have HW6:=zhy (HW5.out.keep hb2);have HB6:=zhy (HB5.out.trans (hb2.mono (Nat.le_of_lt HW5.out.1)));clear ho2 hb2 z0 z1 z2 z3 z4 HW5 HB5 PU;go_wp2_with fail;refine (wadd_v T A5 A6 c5 n5 1 c6 X2 [(d.s.length:Int)] e2 0 w6 HW6.out HR2.out rfl (by omega)).mono ?_;rintro r w7 ⟨rfl,⟨A7,c7,hw3⟩,hb3,-⟩;have bn7:=adN_le n5 e2 1;obtain ⟨n7,hn3⟩:∃n,adN n5 e2 1=n:=⟨_,rfl⟩;obtain ⟨X3,hX1⟩:∃X,adX X2 e2 [(d.s.length:Int)]=X:=⟨_,rfl⟩;obtain ⟨e3,he1⟩:∃e,adE e2 0=e:=⟨_,rfl⟩;rw [hn3,hX1,he1] at hw3;rw [hn3] at bn7;have HX3:=zhy (And.intro hX1 he1);have HW7:=zhy hw3;have HB7:=zhy (HB6.out.trans hb3);have HF2:=zhy (fun X5 X6 e5 e6=>HF.out X1 X2 X3 X5 X6 e1 e2 e3 e5 e6 HX1.out HX2.out HX3.out);clear hn3 hX1 he1 hw3 hb3 HW6 HR2 HB6 HX1 HX2 HX3 HF;obtain ⟨-,⟨z0,z1,z2,z3,z4⟩,-⟩:=S00.out _ HB7.out;dsimp only at z1 z2 z3;go_wp2_with fail;have hn7:n7≤579:=by omega
 obtain ⟨FX,fe,hfin⟩:∃FX fe,wmL d.s X3 e3=(FX,fe):=⟨_,_,rfl⟩;have HFIN:=zhy hfin;have HFIN0:=zhy hfin;clear hfin bn bl bn5 bl2 bn7 z0 z1 z2 z3 z4;go_loopw [50] (fun i wr=>∃(j:Nat) (A':Option Addr) (c' N:Nat) (X:List Int) (e:Int),j≤d.s.length∧N≤579+j*628∧i=.int .i64 j∧Hid (Wx8 wr T A' c' N X e)∧Hid (wmL (d.s.drop j) X e=(FX,fe))∧Hid (Below T w0 wr)) (fun i _=>d.s.length-(intOf i).toNat)
 case atStart=>exact ⟨0,A7,c7,n7,X3,e3,by omega,by omega,rfl,HW7,HFIN,HB7⟩
 case round =>
  obtain ⟨j,A5,c5,N,X,e,hj,hN,rfl,HW,HX,HB⟩:=hrel;clear HW7 HFIN HB7;obtain ⟨-,⟨z0,z1,z2,z3,z4⟩,-⟩:=S00.out _ HB.out;dsimp only at z1 z2 z3;by_cases h1:j<d.s.length
  ·have h1z:j<Z.length:=by rw [HZL.out];exact h1
   have hR:Rm wr A c Z:=(S00.out _ HB.out).2.2.1.2.2.1;obtain ⟨ad,rfl,-,-⟩:=hR.at_ h1z;have HE:=zhy (Rm.each (w:=wr) (ad:=ad) (c:=c) h1z)
   have HX2:Hid (wmL (d.s.drop (j+1)) (adX (adX X e (mL (d.s[j]).1)) (adE e (mE (d.s[j]).1)) (byL (d.s[j]).2)) (adE (adE e (mE (d.s[j]).1)) (cdE (d.s[j]).2))=(FX,fe)):=by
    have:=HX.out;rw [List.drop_eq_getElem_cons h1,wmL] at this;exact this
   have HKL:=zhy (HZB.out _ (List.getElem_mem h1)).2;rw [HZA.out j h1z h1] at HX2 HKL;obtain ⟨⟨a1,a2,a3,a4,a5,a6,a7,a8⟩,hok⟩:=HE.out wr hR;clear hR HX;generalize Z[j]=z at *;obtain ⟨x,m,k⟩:=z;dsimp only at a1 a2 a3 a4 a5 a6 a7 a8 hok HX2 HKL;have hkx:k.length=x.k:=hok.2.2;have hkl:x.k≤300:=by rw [←hkx];exact HKL.out
   have HKX:=zhy hkx;have HOK:=zhy hok;have HWb:=zhy (HW.out.keep (new1 (a:=hcel x m)));have HBb:=zhy (HB.out.trans ((new1 (w:=wr) (a:=hcel x m)).mono (Nat.le_of_lt HW.out.1)));have HOKb:=zhy (Me.ok.keep (z:=⟨x,m,k⟩) HOK.out (new1 (a:=hcel x m)));have HMb:=zhy (heap_alloc_new wr (hcel x m));have hTb:T<wr.heap.size:=HW.out.1;clear hok HOK HKL hkx HW;go_upto_region 10 with (fail);obtain ⟨wb,hwb⟩:∃wb,wr.alloc (hcel x m)=wb:=⟨_,rfl⟩;rw [hwb] at HWb HBb HOKb HMb;rw [hcel] at hwb;rw [hwb];clear hwb;generalize wr.heap.size=Tb at *;clear a1 a2 a3 a4 a5 a6 a7 a8 z0 z1 z2 z3 z4;obtain ⟨b0,b1,b2,b3,b4,b5,b6,b7,b8⟩:=mb_of HMb.out;go_wp2_with fail;refine (mbytes_v x m wb HOKb.out.1 (S00.out _ HBb.out).2.2.2.1.2).mono ?_;rintro r w4 ⟨A4,c4,rfl,ho2,hb2⟩;have HR2:=zhy (own_rd ho2 (mL_byt _));have HW4:=zhy (HWb.out.keep hb2);have HB4:=zhy (HBb.out.trans (hb2.mono (Nat.le_of_lt HWb.out.1)));have HOK4:=zhy (HOKb.out.keep hb2);have HM4:=zhy ((hb2.block Tb b0).trans HMb.out);clear ho2 hb2 HWb HBb HOKb HMb b0 b1 b2 b3 b4 b5 b6 b7 b8;have bl:=mL_le2 m;go_wp2_with fail;refine (wadd_v T A5 A4 c5 N _ c4 X (mL m) e (mE m) w4 HW4.out HR2.out rfl (by omega)).mono ?_;rintro r w5 ⟨rfl,⟨A6,c6,hw3⟩,hb3,hk3⟩;have bn:=adN_le N e (mL m).length;obtain ⟨n6,hn6⟩:∃n,adN N e (mL m).length=n:=⟨_,rfl⟩;obtain ⟨X6,hX6⟩:∃X',adX X e (mL m)=X':=⟨_,rfl⟩;obtain ⟨e6,he6⟩:∃e',adE e (mE m)=e':=⟨_,rfl⟩;rw [hn6,hX6,he6] at hw3;rw [hn6] at bn;rw [hX6,he6] at HX2;have HW5:=zhy hw3;have HB5:=zhy (HB4.out.trans hb3);have HM5:=zhy (hk3 _ _ HM4.out (noRow_hcel x m) (by omega));have HR5:=zhy (HE.out w5 (S00.out _ HB5.out).2.2.1.2.2.1).2.2.1;dsimp only at HR5;clear hn6 hX6 he6 hw3 hb3 hk3 HW4 HR2 HB4 HM4 HOK4;obtain ⟨b0,b1,b2,b3,b4,b5,b6,b7,b8⟩:=mb_of HM5.out;go_wp2_with fail;refine (kbytes fNo x.D x.e x.k k w5 trivial HR5.out HKX.out (by omega)).mono ?_;rintro r w6 ⟨A7,c7,rfl,ho2,hb2⟩;have HR2:=zhy (own_rd ho2 (byL_byt HR5.out.1));have HW6:=zhy (HW5.out.keep hb2);have HB6:=zhy (HB5.out.trans (hb2.mono (Nat.le_of_lt HW5.out.1)));have bl2:=byL_le k;clear ho2 hb2 HW5 HB5 HM5 HR5 b0 b1 b2 b3 b4 b5 b6 b7 b8;go_wp2_with fail;refine (wadd_v T A6 A7 c6 n6 _ c7 X6 (byL k) e6 (cdE k) w6 HW6.out HR2.out rfl (by omega)).mono ?_;rintro r w7 ⟨rfl,⟨A8,c8,hw3⟩,hb3,-⟩;have bn8:=adN_le n6 e6 (byL k).length;obtain ⟨n8,hn6⟩:∃n,adN n6 e6 (byL k).length=n:=⟨_,rfl⟩;obtain ⟨X8,hX6⟩:∃X',adX X6 e6 (byL k)=X':=⟨_,rfl⟩;obtain ⟨e8,he6⟩:∃e',adE e6 (cdE k)=e':=⟨_,rfl⟩;rw [hn6,hX6,he6] at hw3;rw [hn6] at bn8;rw [hX6,he6] at HX2;have HW7:=zhy hw3;have HB7:=zhy (HB6.out.trans hb3);clear hn6 hX6 he6 hw3 hb3 HW6 HR2 HB6;go_wp2_with fail;go_roundw
   case rel=>exact ⟨j+1,A8,c8,n8,X8,e8,by omega,by omega,by go_num,HW7,HX2,HB7⟩
   case measure=>simp [intOf];omega
  ·obtain rfl:j=d.s.length:=by omega
   have HX2:Hid (X=FX∧e=fe):=by
    have:=HX.out;rw [List.drop_of_length_le (Nat.le_refl _),wmL] at this;injection this with h1 h2;exact ⟨h1,h2⟩
   clear HX;go_wp2_with fail;refine (P7 _).out.mono ?_;rintro r w4 ⟨rfl,rfl⟩;obtain ⟨lb,hlb⟩:∃lb:Int,(if d.i<0 then 255 else d.i)=lb:=⟨_,rfl⟩;rw [hlb] at HLB HF2;rw [hlb];have PU:=zhy (put_any 1 lb w4);rw [(put_1 HLB.out.1 HLB.out.2).1,(put_1 HLB.out.1 HLB.out.2).2] at PU;clear hlb z0 z1 z2 z3 z4 P7;go_wp2_with fail;refine PU.out.mono ?_;rintro r w6 ⟨A6,c6,rfl,ho2,hb2⟩;have HR2:=zhy (own_rd ho2 (byt1 HLB.out.1 HLB.out.2));have HW6:=zhy (HW.out.keep hb2);have HB6:=zhy (HB.out.trans (hb2.mono (Nat.le_of_lt HW.out.1)));clear ho2 hb2 HW HB PU;go_wp2_with fail;refine (wadd_v T A5 A6 c5 N 1 c6 X [lb] e 0 w6 HW6.out HR2.out rfl (by omega)).mono ?_;rintro r w7 ⟨rfl,⟨A7,c7,hw3⟩,hb3,-⟩;obtain ⟨n7,hn3⟩:∃n,adN N e 1=n:=⟨_,rfl⟩;obtain ⟨X9,hX1⟩:∃X',adX X e [lb]=X':=⟨_,rfl⟩;obtain ⟨e9,he1⟩:∃e',adE e 0=e':=⟨_,rfl⟩;rw [hn3,hX1,he1] at hw3;have HFF:=zhy (HF2.out X X9 e e9 (by rw [HX2.out.1,HX2.out.2];exact HFIN0.out) ⟨hX1,he1⟩);have HW7:=zhy hw3;have HB7:=zhy (HB6.out.trans hb3);have HBw:=zhy (S00.out _ HB7.out).1;have bn7:=adN_le N e 1;rw [hn3] at bn7;clear hn3 hX1 he1 hw3 hb3 HW6 HR2 HB6 HF2;obtain ⟨t0,t1,t2,t3,t4,t5⟩:=HW7.out;have HOW:=zhy t5;clear t5;by_cases h9:e9=0
   ·subst h9;obtain ⟨hx9,hq9⟩:=HFF.out.2 rfl
    have hn9:n7=(qX d).length:=by
     have:=HOW.out.1;rw [length_cel,hx9] at this;omega
    have HQ9:=zhy hq9;rw [hx9] at HOW;clear hq9 hx9 HFF;by_cases hl:2000<n7
    ·have HE:Hid (qE d=3):=by rw [Hid,HQ9.out,if_pos (by omega)]
     have HB0:Hid (qB d=[]):=by rw [Hid,qB,HE.out];rfl
     clear hn9;go_wp2_with fail;go_ret2;exact ⟨none,0,by rw [HE.out,HB0.out];rfl,by rw [HB0.out];exact World.ownsRow_nil _ _ _ _,HBw.out⟩
    ·have HE:Hid (qE d=0):=by rw [Hid,HQ9.out,if_neg (by omega)]
     have HB0:Hid (qB d=qX d):=by rw [Hid,qB,if_pos HE.out]
     have HN9:=zhy hn9;clear hn9;go_wp2_with fail;go_ret2;exact ⟨A7,c7,by rw [HE.out,HB0.out,←HN9.out];rfl,by rw [HB0.out,←HN9.out];exact own_base HOW.out hwT,HBw.out⟩
   ·have h9b:(e9 != 0)=true:=by simpa using h9
    obtain ⟨hx9,hq9⟩:=HFF.out.1 h9;have HN:=zhy (And.intro hx9 hq9);clear hx9 hq9 HFF h9;go_wp2_with fail;go_region;go_wp2_with fail;go_ret2;exact ⟨none,0,by rw [HN.out.1,HN.out.2];rfl,by rw [HN.out.2];exact World.ownsRow_nil _ _ _ _,HBw.out.drew⟩
theorem kmmay:KMMay fWM:=by
 intro y d w hw hq hg;have S0:=zhy ((((Sx.start w).add fWM hw).add (fQm y d) hq).mkD y d);have HG:=zhy hg;clear hw hq hg;obtain ⟨z0,z1,z2,z3,z4⟩:=(S0.out.call (Below.refl _ _)).2.1;go_enter Tryz.func21,Tryz.ntmps21;go_wp2_with fail;refine (kmbytes y d _ S0.out.2.2.2.1 S0.out.2.2.1 HG.out).mono ?_;rintro r w1 ⟨A,c,rfl,-,hb⟩;have S1:=zhy (S0.out.call hb);clear hb S0 z0 z1 z2 z3 z4;go_wp2_with fail;go_ret;exact ⟨rfl,S1.out.1⟩
end Go.Proofs.YtnjgkkoiamiaaaaGreatDoor
