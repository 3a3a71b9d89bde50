import Derived.Test.YtnjgkkoiamiaaaaGreatDoorVta1
import Derived.Test.YtnjgkkoiamiaaaaGreatDoorVta21
import Derived.Test.YtnjgkkoiamiaaaaGreatDoorVta26
import Derived.Test.YtnjgkkoiamiaaaaGreatDoorVta20
import Derived.Test.YtnjgkkoiamiaaaaGreatDoorVta5
import Derived.Test.YtnjgkkoiamiaaaaGreatDoorVta8
import Derived.Test.YtnjgkkoiamiaaaaGreatDoorVta19
import Derived.Test.YtnjgkkoiamiaaaaGreatDoorVta13
import Derived.Test.YtnjgkkoiamiaaaaGreatDoorVta14
import Derived.Test.YtnjgkkoiamiaaaaGreatDoorVta3
import Derived.OwnWalk
import Derived.Laws.OwnMore
import Derived.Test.YtnjgkkoiamiaaaaGreatDoorVta18
import Derived.Laws.EntriesVeiled
import Derived.BigQuiet
set_option maxRecDepth 100000
set_option maxHeartbeats 16000000
set_option linter.unusedSimpArgs false
set_option linter.unusedVariables false
namespace Go.Proofs.YtnjgkkoiamiaaaaGreatDoor
open Go.RowKit
theorem zwn (n:Nat) (v:Bool) (w:World) (hv:decide ((n:Int)≤4)=v):Calls Tryz.prog 60 #[.int .i64 n] w fun r w'=>r=.returned (.bool v)∧w'=w:=by
 go_enter Tryz.func60,Tryz.ntmps60;go_wp2_with fail;go_ret;exact ⟨by rw [←hv];rfl,rfl⟩
theorem zw9 (n:Int) (v:Bool) (w:World) (hv:decide (n≤16)=v):Calls Tryz.prog 61 #[.int .i64 n] w fun r w'=>r=.returned (.bool v)∧w'=w:=by
 go_enter Tryz.func61,Tryz.ntmps61;go_wp2_with fail;go_ret;exact ⟨by rw [←hv];rfl,rfl⟩
theorem zwz (i:Int) (n:Nat) (v:Bool) (w:World) (hv:decide (i=-1∨0≤i∧i<n)=v):Calls Tryz.prog 62 #[.int .i64 i,.int .i64 n] w fun r w'=>r=.returned (.bool v)∧w'=w:=by
 by_cases h1:i=-1
 ·have hv2:v=true:=by rw [←hv,decide_eq_true (.inl h1)]
  subst hv2;clear hv;subst h1;go_enter Tryz.func62,Tryz.ntmps62;go_wp2_with fail;go_ret;exact ⟨rfl,rfl⟩
 ·have e1:(i==-1)=false:=by simpa using h1
  by_cases h2:0≤i
  ·have HV:Hid (decide (i<(n:Int))=v):=by
    rw [Hid,←hv];exact decide_eq_decide.2 (by omega)
   clear hv;go_enter Tryz.func62,Tryz.ntmps62;go_wp2_with fail;go_ret;exact ⟨by rw [←HV.o];rfl,rfl⟩
  ·have hv2:v=false:=by rw [←hv,decide_eq_false (by omega)]
   subst hv2;clear hv;go_enter Tryz.func62,Tryz.ntmps62;go_wp2_with fail;go_ret;exact ⟨rfl,rfl⟩
theorem qb4 (i:Int) (w:World) (h:-1≤i):Calls Tryz.prog 68 #[.int .i64 i] w fun r w'=>r=.returned (.int .i64 (if i<0 then 255 else i))∧w'=w:=by
 by_cases h1:i=-1
 ·subst h1;go_enter Tryz.func68,Tryz.ntmps68;go_wp2_with fail;go_ret;exact ⟨rfl,rfl⟩
 ·have e1:(i==-1)=false:=by simpa using h1
  rw [if_neg (by omega)];go_enter Tryz.func68,Tryz.ntmps68;go_wp2_with fail;go_ret;exact ⟨rfl,rfl⟩
def Wx8 (w:World) (T:Nat) (A:Option Addr) (c n:Nat) (X:List Int) (e:Int):Prop:=
 T<w.heap.size∧w.cell? ⟨T,0,none⟩=some (.slice A n c)∧w.cell? ⟨T,1,none⟩=some (.int .i64 e)∧w.frozen? ⟨T,0,none⟩=false∧w.frozen? ⟨T,1,none⟩=false∧w.ownsRow (T+1) 5 1 (.slice A n c) n (cel X)
theorem Wx8.keep {w w':World} {T:Nat} {A:Option Addr} {c n:Nat} {X:List Int} {e:Int} (h:Wx8 w T A c n X e) (hb:Below w.heap.size w w'):Wx8 w' T A c n X e:=by
 obtain ⟨h1,h2,h3,h4,h5,h6⟩:=h;obtain ⟨hc,hf⟩:=zbi hb;exact ⟨Nat.lt_of_lt_of_le h1 hb.size,(hc _ _ h1).trans h2,(hc _ _ h1).trans h3,(hf _ _ h1).trans h4,(hf _ _ h1).trans h5,qb h6 hb (Nat.le_refl _)⟩
theorem Wx8.new (w:World) (t:Nat):Wx8 (w.alloc (.cells #[.slice none 0 0,.int .i64 0] t)) w.heap.size none 0 0 [] 0:=by
 refine ⟨by simp,?_,?_,?_,?_,World.ownsRow_nil _ _ _ _⟩<;>simp [go_sem]
def adX (X:List Int) (e:Int) (l:List Int):List Int:=if e=0 then X++l else X
def adE (e e1:Int):Int:=if e=0 then e1 else e
def adN (n:Nat) (e:Int) (m:Nat):Nat:=if e=0 then n+m else n
theorem zgc (T:Nat) (A A1:Option Addr) (c n n1 c1:Nat) (X l:List Int) (e e1:Int) (w:World) (h:Wx8 w T A c n X e) (hr:Rd w A1 c1 l) (hn:l.length=n1) (hs:n+n1≤1000000) :
  Calls Tryz.prog 63 #[.pointer (some ⟨T,0,none⟩),.slice A1 n1 c1,.int .i64 e1] w fun r w'=>r=.returned (.tuple #[])∧(∃A2 c2,Wx8 w' T A2 c2 (adN n e n1) (adX X e l) (adE e e1))∧Below T w w'∧(∀k o,w.heap[k]?=some o→zks o→k≠T→w'.heap[k]?=some o):=by
 obtain ⟨i0,hi,hz0,hz1,hz2⟩:=info_parts Tryz.info5;by_cases he:e=0
 ·subst he;rw [adX,if_pos rfl,adE,if_pos rfl,adN,if_pos rfl];obtain ⟨t0,t1,t2,t3,t4,t5⟩:=h;have HO:=zhy t5;have HR:=zhy hr;have HN:=zhy hn;have HC:=zhy (And.intro t1 (And.intro t2 (And.intro t3 t4)));clear t5 hr hn;go_enter Tryz.func63,Tryz.ntmps63;go_wp2_with (at_builtin;refine qa _ rfl _ _ 40 rfl (T+1) 5 i0 Tryz.underlying40 hi hz0 hz1 hz2 _ n X rfl HO.o A1 n1 c1 l rfl HR.o HN.o.symm (by omega) (by omega) ?_);intro A2 c2 w2 ho hg hb _;have k:∀i,w2.cell? ⟨T,i,none⟩=w.cell? ⟨T,i,none⟩:=fun i=>hb.cell (p:=⟨T,i,none⟩) (show T<T+1 by omega);have f:∀i,w2.frozen? ⟨T,i,none⟩=w.frozen? ⟨T,i,none⟩:=fun i=>hb.frozen (p:=⟨T,i,none⟩) (show T<T+1 by omega);have x0:=(k 0).trans HC.o.1;have x1:=(k 1).trans HC.o.2.1;have x2:=(f 0).trans HC.o.2.2.1;have x3:=(f 1).trans HC.o.2.2.2;have hsz:=hb.size
  have HK:Hid (∀k o,w.heap[k]?=some o→zks o→k≠T→((w2.setCell ⟨T,0,none⟩ (.slice A2 (n+n1) c2)).setCell ⟨T,1,none⟩ (.int .i64 e1)).heap[k]?=some o):=by
   intro k o hk ho2 hne;rw [Below.heap_setCell _ _ _ _ (show k≠T from hne),Below.heap_setCell _ _ _ _ (show k≠T from hne)];exact (hg.block k (zg9.1 hk).1 (fun e'=>zax HO.o hk ho2 e'.symm)).trans hk
  have HO2:=zhy ho;have HB:=zhy (hb.mono (show T≤T+1 by omega))
  have HF:Hid (Wx8 ((w2.setCell ⟨T,0,none⟩ (.slice A2 (n+n1) c2)).setCell ⟨T,1,none⟩ (.int .i64 e1)) T A2 c2 (n+n1) (X++l) e1∧Below T w ((w2.setCell ⟨T,0,none⟩ (.slice A2 (n+n1) c2)).setCell ⟨T,1,none⟩ (.int .i64 e1))):=by
   refine ⟨⟨by simp;omega,?_,?_,?_,?_,ownsRow_setCell_below (ownsRow_setCell_below HO2.o (show T<T+1 by omega) _) (show T<T+1 by omega) _⟩,(HB.o.setCell (p:=⟨T,0,none⟩) (Nat.le_refl _) _).setCell (p:=⟨T,1,none⟩) (Nat.le_refl _) _⟩<;>simp [go_sem,x0,x1,x2,x3]
  clear k f hb ho hg HC t1 t2 t3 t4;go_wp2_with fail;go_end0;exact ⟨rfl,⟨A2,c2,HF.o.1⟩,HF.o.2,HK.o⟩
 ·have e2:(e==0)=false:=by simpa using he
  have HE:=zhy he;have HW:=zhy h;obtain ⟨t0,t1,t2,t3,t4,t5⟩:=h;clear t5 he;go_enter Tryz.func63,Tryz.ntmps63;go_wp2_with fail;go_end0;exact ⟨rfl,⟨A,c,by rw [adX,if_neg HE.o,adE,if_neg HE.o,adN,if_neg HE.o];exact HW.o⟩,Below.refl _ _,fun _ _ h _ _=>h⟩
theorem zng (x:Mc) (m:Mh):zks (zbk x m):=fun cs q h=>by
 rw [zbk] at h;injection h with _ h _;exact absurd h (by decide)
theorem qbp {w:World} {B:Nat} {x:Mc} {m:Mh} (h:w.heap[B]?=some (zbk x m)):Mb w B x m:=by
 refine ⟨(zg9.1 h).1,?_,?_,?_,?_,?_,?_,?_,?_⟩<;>(rw [zbk] at h;rw [jf h];rfl)
def wmL:List (Mh×List Ins)→List Int→Int→List Int×Int
 | [],X,e=>(X,e)
 | z::s,X,e=>wmL s (adX (adX X e (mL z.1)) (adE e (mE z.1)) (byL z.2)) (adE (adE e (mE z.1)) (cdE z.2))
theorem ze4:∀(s:List (Mh×List Ins)) (X:List Int) (e:Int),e≠0→wmL s X e=(X,e)
 | [],X,e,h=>rfl
 | z::s,X,e,h=>by
  rw [wmL];have h1:adE e (mE z.1)=e:=by rw [adE,if_neg h]
  have h2:adX X e (mL z.1)=X:=by rw [adX,if_neg h]
  rw [h1,h2,adX,if_neg h,adE,if_neg h];exact ze4 s X e h
theorem zw3:∀(s:List (Mh×List Ins)) (X:List Int),(wmL s X 0).2=qmE s∧(qmE s=0→(wmL s X 0).1=X++qmB s)
 | [],X=>⟨rfl,fun _=>by simp [wmL,qmB]⟩
 | z::s,X=>by
  rw [wmL,qmE];have h1:adE 0 (mE z.1)=mE z.1:=by rw [adE,if_pos rfl]
  have h2:adX X 0 (mL z.1)=X++mL z.1:=by rw [adX,if_pos rfl]
  rw [h1,h2];by_cases hm:mM z.1=true
  ·have e1:mE z.1=0:=by rw [mE,if_pos hm]
   rw [if_pos hm,e1,adX,if_pos rfl,adE,if_pos rfl];by_cases hk:jq z.2=true
   ·have e2:cdE z.2=0:=by rw [cdE,if_pos hk]
    rw [if_pos hk,e2];have ih:=zw3 s ((X++mL z.1)++byL z.2);refine ⟨ih.1,fun h=>?_⟩;rw [ih.2 h,byL,if_pos hk,qmB,qmB];simp
   ·have e2:cdE z.2=40:=by rw [cdE,if_neg hk]
    rw [if_neg hk,e2,ze4 s _ _ (by decide)];exact ⟨rfl,fun h=>by cases h⟩
  ·have e1:mE z.1=70:=by rw [mE,if_neg hm]
   rw [if_neg hm,e1];have e3:adE 70 (cdE z.2)=70:=by rw [adE,if_neg (by decide)]
   rw [e3,ze4 s _ _ (by decide)];exact ⟨rfl,fun h=>by cases h⟩
theorem zgp {e e1:Int} (h:e≠0):adE e e1=e:=by rw [adE,if_neg h]
theorem qfe {x:Int} (h:0≤x) (h2:x<256):Byt [x]:=fun z hz=>by rw [List.mem_singleton.1 hz];exact ⟨h,h2⟩
theorem qfl {d:Md} (h80:¬(4<d.g.length∨16<d.s.length∨d.i < -1∨(d.s.length:Int)≤d.i)) {X1 X2 X3 X5 X6:List Int} {e1 e2 e3 e5 e6:Int}
  (h1:adX [] 0 (poL d.g)=X1∧adE 0 (poE d.g)=e1) (h2:adX X1 e1 (poL d.p)=X2∧adE e1 (poE d.p)=e2) (h3:adX X2 e2 [(d.s.length:Int)]=X3∧adE e2 0=e3) (h5:wmL d.s X3 e3=(X5,e5)) (h6:adX X5 e5 [if d.i<0 then 255 else d.i]=X6∧adE e5 0=e6) :
  (e6≠0→qE d=e6∧qB d=[])∧(e6=0→X6=qX d∧qE d=if 2000<(qX d).length then 3 else 0):=by
 have hB:qE d≠0→qB d=[]:=fun h=>by rw [qB,if_neg h]
 have key:(e6≠0→qE d=e6)∧(e6=0→X6=qX d∧qE d=if 2000<(qX d).length then 3 else 0):=by
  rw [qE,if_neg h80];rw [adX,if_pos rfl,adE,if_pos rfl] at h1;obtain ⟨rfl,rfl⟩:=h1;by_cases hg:poM d.g=true
  ·have e1:poE d.g=0:=by rw [poE,if_pos hg]
   rw [e1,adX,if_pos rfl,adE,if_pos rfl] at h2;obtain ⟨rfl,rfl⟩:=h2;rw [if_pos hg];by_cases hp:poM d.p=true
   ·have e2:poE d.p=0:=by rw [poE,if_pos hp]
    rw [e2,adX,if_pos rfl,adE,if_pos rfl] at h3;obtain ⟨rfl,rfl⟩:=h3;rw [if_pos hp];obtain ⟨i1,i2⟩:=zw3 d.s (([]++poL d.g)++poL d.p++[(d.s.length:Int)]);rw [h5] at i1 i2;dsimp only at i1 i2;by_cases hm:qmE d.s=0
    ·rw [hm] at i1;subst i1;rw [if_pos hm];rw [adX,if_pos rfl,adE,if_pos rfl] at h6;obtain ⟨rfl,rfl⟩:=h6;refine ⟨fun h=>absurd rfl h,fun _=>⟨?_,rfl⟩⟩;rw [i2 hm,qX,poL,if_pos hg,poL,if_pos hp];simp
    ·rw [if_neg hm];rw [zgp (by rw [i1];exact hm)] at h6;obtain ⟨-,rfl⟩:=h6;exact ⟨fun _=>i1.symm,fun h=>absurd (i1.symm.trans h) hm⟩
   ·have e2:poE d.p=60:=by rw [poE,if_neg hp]
    rw [e2,zgp (by decide)] at h3;obtain ⟨-,rfl⟩:=h3;rw [ze4 _ _ _ (by decide)] at h5;injection h5 with h5 h5';subst h5';rw [zgp (by decide)] at h6;obtain ⟨-,rfl⟩:=h6;rw [if_neg hp];exact ⟨fun _=>rfl,fun h=>by cases h⟩
  ·have e1:poE d.g=60:=by rw [poE,if_neg hg]
   rw [e1,zgp (by decide)] at h2;obtain ⟨-,rfl⟩:=h2;rw [zgp (by decide)] at h3;obtain ⟨-,rfl⟩:=h3;rw [ze4 _ _ _ (by decide)] at h5;injection h5 with h5 h5';subst h5';rw [zgp (by decide)] at h6;obtain ⟨-,rfl⟩:=h6;rw [if_neg hg];exact ⟨fun _=>rfl,fun h=>by cases h⟩
 exact ⟨fun h=>⟨key.1 h,hB (by rw [key.1 h];exact h)⟩,key.2⟩
theorem zs8 {d:Md} (h:qG d=false):d.g.length≤100∧d.p.length≤100∧d.s.length≤40∧∀z∈d.s,gB z.1=false∧z.2.length≤300:=by
 rw [qG,Bool.or_eq_false_iff,Bool.or_eq_false_iff,Bool.or_eq_false_iff,decide_eq_false_iff_not,decide_eq_false_iff_not,decide_eq_false_iff_not,List.any_eq_false] at h;obtain ⟨h1,h2,h3,h4⟩:=h;refine ⟨by omega,by omega,by omega,fun z hz=>?_⟩;have:=h4 z hz;rw [qgE,Bool.not_eq_true,Bool.or_eq_false_iff,decide_eq_false_iff_not] at this;exact ⟨this.1,by omega⟩
theorem zgt (n:Nat) (e:Int) (m:Nat):adN n e m≤n+m:=by
 rw [adN];split<;>omega
theorem qcc (m:Mh):(mL m).length≤27:=by
 by_cases h:mM m=true
 ·exact qbc h
 ·rw [mL,if_neg h];simp
theorem qbq (k:List Ins):(byL k).length≤601:=by
 by_cases h:jq k=true
 ·rw [byL,if_pos h];exact qcz h
 ·rw [byL,if_neg h];simp
theorem zxu {k:List Ins} (h0:∀x∈k,zt7 x):Byt (byL k):=by
 by_cases h:jq k=true
 ·rw [byL,if_pos h];exact zw4 h h0
 ·rw [byL,if_neg h];intro x hx;cases hx
theorem zxl:zyg fWM:=by
 intro y d w hw hq hg;obtain ⟨hgl,hpl,hsl,hzb⟩:=zs8 hg;have HZB:=zhy hzb;have hib:=hq.2.2.2.2;have hzl:=hq.zlen;have HZL:=zhy hzl;have HZA:=zhy (fun (i:Nat) (h1:i<y.Z.length) (h2:i<d.s.length)=>hq.zat h1 h2);obtain ⟨G,gc,P,pc,A,c,Z⟩:=y;dsimp only at HZL HZA hzl;have S0:=zhy ((((Sx.start w).add fWM hw).add (fQm ⟨G,gc,P,pc,A,c,Z⟩ d) hq).mkD ⟨G,gc,P,pc,A,c,Z⟩ d);clear hq hzl hw hg hzb;obtain ⟨z0,z1,z2,z3,z4⟩:=(S0.o.call (Below.refl _ _)).2.1;dsimp only at z1 z2 z3;go_enter Tryz.func29,Tryz.ntmps29;by_cases c1:4<d.g.length
 ·have HE:Hid (qE d=80):=by rw [Hid,qE,if_pos (by omega)]
  have HB0:Hid (qB d=[]):=by rw [Hid,qB,HE.o];rfl
  have P1:=fun w=>zhy (zwn d.g.length false w (decide_eq_false (by omega)));go_wp2_with fail;refine (P1 _).o.mono ?_;rintro r w' ⟨rfl,rfl⟩;go_wp2_with fail;go_ret2;exact ⟨none,0,by rw [HE.o,HB0.o];rfl,by rw [HB0.o];exact World.ownsRow_nil _ _ _ _,S0.o.1⟩
 have P1:=fun w=>zhy (zwn d.g.length true w (decide_eq_true (by omega)));by_cases c2:16<d.s.length
 ·have HE:Hid (qE d=80):=by rw [Hid,qE,if_pos (by omega)]
  have HB0:Hid (qB d=[]):=by rw [Hid,qB,HE.o];rfl
  have P2:=fun w=>zhy (zw9 d.s.length false w (decide_eq_false (by omega)));go_wp2_with fail;refine (P1 _).o.mono ?_;rintro r w' ⟨rfl,rfl⟩;go_wp2_with fail;refine (P2 _).o.mono ?_;rintro r w' ⟨rfl,rfl⟩;go_wp2_with fail;go_ret2;exact ⟨none,0,by rw [HE.o,HB0.o];rfl,by rw [HB0.o];exact World.ownsRow_nil _ _ _ _,S0.o.1⟩
 have P2:=fun w=>zhy (zw9 d.s.length true w (decide_eq_true (by omega)));by_cases c3':¬(d.i=-1∨0≤d.i∧d.i<d.s.length)
 ·have HE:Hid (qE d=80):=by rw [Hid,qE,if_pos (by omega)]
  have HB0:Hid (qB d=[]):=by rw [Hid,qB,HE.o];rfl
  have P3:=fun w=>zhy (zwz d.i d.s.length false w (decide_eq_false c3'));clear c3';go_wp2_with fail;refine (P1 _).o.mono ?_;rintro r w' ⟨rfl,rfl⟩;go_wp2_with fail;refine (P2 _).o.mono ?_;rintro r w' ⟨rfl,rfl⟩;go_wp2_with fail;refine (P3 _).o.mono ?_;rintro r w' ⟨rfl,rfl⟩;go_wp2_with fail;go_ret2;exact ⟨none,0,by rw [HE.o,HB0.o];rfl,by rw [HB0.o];exact World.ownsRow_nil _ _ _ _,S0.o.1⟩
 have c3:d.i=-1∨0≤d.i∧d.i<d.s.length:=Classical.not_not.1 c3';clear c3';have P3:=fun w=>zhy (zwz d.i d.s.length true w (decide_eq_true c3));have h80:¬(4<d.g.length∨16<d.s.length∨d.i < -1∨(d.s.length:Int)≤d.i):=by omega
 have HF:=zhy (fun X1 X2 X3 X5 X6 e1 e2 e3 e5 e6=>qfl (d:=d) h80 (X1:=X1) (X2:=X2) (X3:=X3) (X5:=X5) (X6:=X6) (e1:=e1) (e2:=e2) (e3:=e3) (e5:=e5) (e6:=e6));have P7:=fun w=>zhy (qb4 d.i w (by omega))
 have HLB:Hid (0≤(if d.i<0 then 255 else d.i)∧(if d.i<0 then 255 else d.i)<256):=by
  unfold Hid;split<;>omega
 clear c3 h80;go_wp2_with fail;refine (P1 _).o.mono ?_;rintro r w' ⟨rfl,rfl⟩;go_wp2_with fail;refine (P2 _).o.mono ?_;rintro r w' ⟨rfl,rfl⟩;go_wp2_with fail;refine (P3 _).o.mono ?_;rintro r w' ⟨rfl,rfl⟩;clear P1 P2 P3;go_upto_region 3 with (fail);have S0':Hid (Sx w (w.alloc (.cells #[.slice G d.g.length gc,.slice P d.p.length pc,.slice A d.s.length c,.int .i64 d.i] 25)) [fD w.heap.size ⟨G,gc,P,pc,A,c,Z⟩ d,fQm ⟨G,gc,P,pc,A,c,Z⟩ d,fWM]):=S0;clear S0;generalize w.alloc (.cells #[.slice G d.g.length gc,.slice P d.p.length pc,.slice A d.s.length c,.int .i64 d.i] 25)=w0 at *;have S00:Hid (∀w',Below w0.heap.size w0 w'→Sx w w' [fD w.heap.size ⟨G,gc,P,pc,A,c,Z⟩ d,fQm ⟨G,gc,P,pc,A,c,Z⟩ d,fWM]):=fun w' hb=>S0'.o.call hb;have HW0:=zhy (Wx8.new w0 110);have HB0:=zhy (qh (w:=w0) (a:=.cells #[.slice none 0 0,.int .i64 0] 110));clear S0' z0 z1 z2 z3 z4;go_upto_region 4 with (fail);generalize w0.alloc (.cells #[.slice none 0 0,.int .i64 0] 110)=w1 at *;have hwT:w.heap.size≤w0.heap.size+1:=by have:=(S00.o w0 (Below.refl _ _)).1.size;omega
 generalize w0.heap.size=T at *;obtain ⟨-,⟨z0,z1,z2,z3,z4⟩,-⟩:=S00.o _ HB0.o;dsimp only at z1 z2 z3;go_wp2_with fail;refine (zpk G gc d.g.length d.g w1 (S00.o _ HB0.o).2.2.2.1.1 (S00.o _ HB0.o).2.2.1.1 rfl (by omega)).mono ?_;rintro r w2 ⟨A2,c2,rfl,ho2,hb2⟩;have HR2:=zhy (qt ho2 (zkl _));have HW2:=zhy (HW0.o.keep hb2);have HB2:=zhy (HB0.o.trans (hb2.mono (Nat.le_of_lt HW0.o.1)));clear ho2 hb2 z0 z1 z2 z3 z4 HW0 HB0;have bl:=zh1 d.g;go_wp2_with fail;refine (zgc T none A2 0 0 _ c2 [] (poL d.g) 0 (poE d.g) w2 HW2.o HR2.o rfl (by omega)).mono ?_;rintro r w3 ⟨rfl,⟨A3,c3,hw3⟩,hb3,-⟩;have bn:=zgt 0 0 (poL d.g).length;obtain ⟨n3,hn3⟩:∃n,adN 0 0 (poL d.g).length=n:=⟨_,rfl⟩;obtain ⟨X1,hX1⟩:∃X,adX [] 0 (poL d.g)=X:=⟨_,rfl⟩;obtain ⟨e1,he1⟩:∃e,adE 0 (poE d.g)=e:=⟨_,rfl⟩;rw [hn3,hX1,he1] at hw3;rw [hn3] at bn;have HX1:=zhy (And.intro hX1 he1);have HW3:=zhy hw3;have HB3:=zhy (HB2.o.trans hb3);clear hn3 hX1 he1 hw3 hb3 HW2 HR2 HB2;obtain ⟨-,⟨z0,z1,z2,z3,z4⟩,-⟩:=S00.o _ HB3.o;dsimp only at z1 z2 z3;go_wp2_with fail;refine (zpk P pc d.p.length d.p w3 (S00.o _ HB3.o).2.2.2.1.1 (S00.o _ HB3.o).2.2.1.2.1 rfl (by omega)).mono ?_;rintro r w4 ⟨A4,c4,rfl,ho2,hb2⟩;have HR2:=zhy (qt ho2 (zkl _));have HW4:=zhy (HW3.o.keep hb2);have HB4:=zhy (HB3.o.trans (hb2.mono (Nat.le_of_lt HW3.o.1)));clear ho2 hb2 z0 z1 z2 z3 z4 HW3 HB3;have bl2:=zh1 d.p;go_wp2_with fail;refine (zgc T A3 A4 c3 n3 _ c4 X1 (poL d.p) e1 (poE d.p) w4 HW4.o HR2.o rfl (by omega)).mono ?_;rintro r w5 ⟨rfl,⟨A5,c5,hw3⟩,hb3,-⟩;have bn5:=zgt n3 e1 (poL d.p).length;obtain ⟨n5,hn3⟩:∃n,adN n3 e1 (poL d.p).length=n:=⟨_,rfl⟩;obtain ⟨X2,hX1⟩:∃X,adX X1 e1 (poL d.p)=X:=⟨_,rfl⟩;obtain ⟨e2,he1⟩:∃e,adE e1 (poE d.p)=e:=⟨_,rfl⟩;rw [hn3,hX1,he1] at hw3;rw [hn3] at bn5;have HX2:=zhy (And.intro hX1 he1);have HW5:=zhy hw3;have HB5:=zhy (HB4.o.trans hb3);clear hn3 hX1 he1 hw3 hb3 HW4 HR2 HB4;obtain ⟨-,⟨z0,z1,z2,z3,z4⟩,-⟩:=S00.o _ HB5.o;dsimp only at z1 z2 z3;have PU:=fun w=>zhy (zcq 1 d.s.length w);rw [(zpc (n:=d.s.length) (by omega) (by omega)).1,(zpc (n:=d.s.length) (by omega) (by omega)).2] at PU;go_wp2_with fail;refine (PU _).o.mono ?_;rintro r w6 ⟨A6,c6,rfl,ho2,hb2⟩;have HR2:=zhy (qt ho2 (qfe (x:=d.s.length) (by omega) (by omega)));have HW6:=zhy (HW5.o.keep hb2);have HB6:=zhy (HB5.o.trans (hb2.mono (Nat.le_of_lt HW5.o.1)));clear ho2 hb2 z0 z1 z2 z3 z4 HW5 HB5 PU;go_wp2_with fail;refine (zgc T A5 A6 c5 n5 1 c6 X2 [(d.s.length:Int)] e2 0 w6 HW6.o HR2.o rfl (by omega)).mono ?_;rintro r w7 ⟨rfl,⟨A7,c7,hw3⟩,hb3,-⟩;have bn7:=zgt n5 e2 1;obtain ⟨n7,hn3⟩:∃n,adN n5 e2 1=n:=⟨_,rfl⟩;obtain ⟨X3,hX1⟩:∃X,adX X2 e2 [(d.s.length:Int)]=X:=⟨_,rfl⟩;obtain ⟨e3,he1⟩:∃e,adE e2 0=e:=⟨_,rfl⟩;rw [hn3,hX1,he1] at hw3;rw [hn3] at bn7;have HX3:=zhy (And.intro hX1 he1);have HW7:=zhy hw3;have HB7:=zhy (HB6.o.trans hb3);have HF2:=zhy (fun X5 X6 e5 e6=>HF.o X1 X2 X3 X5 X6 e1 e2 e3 e5 e6 HX1.o HX2.o HX3.o);clear hn3 hX1 he1 hw3 hb3 HW6 HR2 HB6 HX1 HX2 HX3 HF;obtain ⟨-,⟨z0,z1,z2,z3,z4⟩,-⟩:=S00.o _ HB7.o;dsimp only at z1 z2 z3;go_wp2_with fail;have hn7:n7≤579:=by omega
 obtain ⟨FX,fe,hfin⟩:∃FX fe,wmL d.s X3 e3=(FX,fe):=⟨_,_,rfl⟩;have HFIN:=zhy hfin;have HFIN0:=zhy hfin;clear hfin bn bl bn5 bl2 bn7 z0 z1 z2 z3 z4;go_loopw [50] (fun i wr=>∃(j:Nat) (A':Option Addr) (c' N:Nat) (X:List Int) (e:Int),j≤d.s.length∧N≤579+j*628∧i=.int .i64 j∧Hid (Wx8 wr T A' c' N X e)∧Hid (wmL (d.s.drop j) X e=(FX,fe))∧Hid (Below T w0 wr)) (fun i _=>d.s.length-(intOf i).toNat)
 case atStart=>exact ⟨0,A7,c7,n7,X3,e3,by omega,by omega,rfl,HW7,HFIN,HB7⟩
 case round =>
  obtain ⟨j,A5,c5,N,X,e,hj,hN,rfl,HW,HX,HB⟩:=hrel;clear HW7 HFIN HB7;obtain ⟨-,⟨z0,z1,z2,z3,z4⟩,-⟩:=S00.o _ HB.o;dsimp only at z1 z2 z3;by_cases h1:j<d.s.length
  ·have h1z:j<Z.length:=by rw [HZL.o];exact h1
   have hR:Rm wr A c Z:=(S00.o _ HB.o).2.2.1.2.2.1;obtain ⟨ad,rfl,-,-⟩:=hR.at_ h1z;have HE:=zhy (Rm.each (w:=wr) (ad:=ad) (c:=c) h1z)
   have HX2:Hid (wmL (d.s.drop (j+1)) (adX (adX X e (mL (d.s[j]).1)) (adE e (mE (d.s[j]).1)) (byL (d.s[j]).2)) (adE (adE e (mE (d.s[j]).1)) (cdE (d.s[j]).2))=(FX,fe)):=by
    have:=HX.o;rw [List.drop_eq_getElem_cons h1,wmL] at this;exact this
   have HKL:=zhy (HZB.o _ (List.getElem_mem h1)).2;rw [HZA.o j h1z h1] at HX2 HKL;obtain ⟨⟨a1,a2,a3,a4,a5,a6,a7,a8⟩,hok⟩:=HE.o wr hR;clear hR HX;generalize Z[j]=z at *;obtain ⟨x,m,k⟩:=z;dsimp only at a1 a2 a3 a4 a5 a6 a7 a8 hok HX2 HKL;have hkx:k.length=x.k:=hok.2.2;have hkl:x.k≤300:=by rw [←hkx];exact HKL.o
   have HKX:=zhy hkx;have HOK:=zhy hok;have HWb:=zhy (HW.o.keep (qh (a:=zbk x m)));have HBb:=zhy (HB.o.trans ((qh (w:=wr) (a:=zbk x m)).mono (Nat.le_of_lt HW.o.1)));have HOKb:=zhy (Me.ok.keep (z:=⟨x,m,k⟩) HOK.o (qh (a:=zbk x m)));have HMb:=zhy (heap_alloc_new wr (zbk x m));have hTb:T<wr.heap.size:=HW.o.1;clear hok HOK HKL hkx HW;go_upto_region 10 with (fail);obtain ⟨wb,hwb⟩:∃wb,wr.alloc (zbk x m)=wb:=⟨_,rfl⟩;rw [hwb] at HWb HBb HOKb HMb;rw [zbk] at hwb;rw [hwb];clear hwb;generalize wr.heap.size=Tb at *;clear a1 a2 a3 a4 a5 a6 a7 a8 z0 z1 z2 z3 z4;obtain ⟨b0,b1,b2,b3,b4,b5,b6,b7,b8⟩:=qbp HMb.o;go_wp2_with fail;refine (zuu x m wb HOKb.o.1 (S00.o _ HBb.o).2.2.2.1.2).mono ?_;rintro r w4 ⟨A4,c4,rfl,ho2,hb2⟩;have HR2:=zhy (qt ho2 (zw0 _));have HW4:=zhy (HWb.o.keep hb2);have HB4:=zhy (HBb.o.trans (hb2.mono (Nat.le_of_lt HWb.o.1)));have HOK4:=zhy (HOKb.o.keep hb2);have HM4:=zhy ((hb2.block Tb b0).trans HMb.o);clear ho2 hb2 HWb HBb HOKb HMb b0 b1 b2 b3 b4 b5 b6 b7 b8;have bl:=qcc m;go_wp2_with fail;refine (zgc T A5 A4 c5 N _ c4 X (mL m) e (mE m) w4 HW4.o HR2.o rfl (by omega)).mono ?_;rintro r w5 ⟨rfl,⟨A6,c6,hw3⟩,hb3,hk3⟩;have bn:=zgt N e (mL m).length;obtain ⟨n6,hn6⟩:∃n,adN N e (mL m).length=n:=⟨_,rfl⟩;obtain ⟨X6,hX6⟩:∃X',adX X e (mL m)=X':=⟨_,rfl⟩;obtain ⟨e6,he6⟩:∃e',adE e (mE m)=e':=⟨_,rfl⟩;rw [hn6,hX6,he6] at hw3;rw [hn6] at bn;rw [hX6,he6] at HX2;have HW5:=zhy hw3;have HB5:=zhy (HB4.o.trans hb3);have HM5:=zhy (hk3 _ _ HM4.o (zng x m) (by omega));have HR5:=zhy (HE.o w5 (S00.o _ HB5.o).2.2.1.2.2.1).2.2.1;dsimp only at HR5;clear hn6 hX6 he6 hw3 hb3 hk3 HW4 HR2 HB4 HM4 HOK4;obtain ⟨b0,b1,b2,b3,b4,b5,b6,b7,b8⟩:=qbp HM5.o;go_wp2_with fail;refine (qa7 fNo x.D x.e x.k k w5 trivial HR5.o HKX.o (by omega)).mono ?_;rintro r w6 ⟨A7,c7,rfl,ho2,hb2⟩;have HR2:=zhy (qt ho2 (zxu HR5.o.1));have HW6:=zhy (HW5.o.keep hb2);have HB6:=zhy (HB5.o.trans (hb2.mono (Nat.le_of_lt HW5.o.1)));have bl2:=qbq k;clear ho2 hb2 HW5 HB5 HM5 HR5 b0 b1 b2 b3 b4 b5 b6 b7 b8;go_wp2_with fail;refine (zgc T A6 A7 c6 n6 _ c7 X6 (byL k) e6 (cdE k) w6 HW6.o HR2.o rfl (by omega)).mono ?_;rintro r w7 ⟨rfl,⟨A8,c8,hw3⟩,hb3,-⟩;have bn8:=zgt n6 e6 (byL k).length;obtain ⟨n8,hn6⟩:∃n,adN n6 e6 (byL k).length=n:=⟨_,rfl⟩;obtain ⟨X8,hX6⟩:∃X',adX X6 e6 (byL k)=X':=⟨_,rfl⟩;obtain ⟨e8,he6⟩:∃e',adE e6 (cdE k)=e':=⟨_,rfl⟩;rw [hn6,hX6,he6] at hw3;rw [hn6] at bn8;rw [hX6,he6] at HX2;have HW7:=zhy hw3;have HB7:=zhy (HB6.o.trans hb3);clear hn6 hX6 he6 hw3 hb3 HW6 HR2 HB6;go_wp2_with fail;go_roundw
   case rel=>exact ⟨j+1,A8,c8,n8,X8,e8,by omega,by omega,by go_num,HW7,HX2,HB7⟩
   case measure=>simp [intOf];omega
  ·obtain rfl:j=d.s.length:=by omega
   have HX2:Hid (X=FX∧e=fe):=by
    have:=HX.o;rw [List.drop_of_length_le (Nat.le_refl _),wmL] at this;injection this with h1 h2;exact ⟨h1,h2⟩
   clear HX;go_wp2_with fail;refine (P7 _).o.mono ?_;rintro r w4 ⟨rfl,rfl⟩;obtain ⟨lb,hlb⟩:∃lb:Int,(if d.i<0 then 255 else d.i)=lb:=⟨_,rfl⟩;rw [hlb] at HLB HF2;rw [hlb];have PU:=zhy (zcq 1 lb w4);rw [(zpc HLB.o.1 HLB.o.2).1,(zpc HLB.o.1 HLB.o.2).2] at PU;clear hlb z0 z1 z2 z3 z4 P7;go_wp2_with fail;refine PU.o.mono ?_;rintro r w6 ⟨A6,c6,rfl,ho2,hb2⟩;have HR2:=zhy (qt ho2 (qfe HLB.o.1 HLB.o.2));have HW6:=zhy (HW.o.keep hb2);have HB6:=zhy (HB.o.trans (hb2.mono (Nat.le_of_lt HW.o.1)));clear ho2 hb2 HW HB PU;go_wp2_with fail;refine (zgc T A5 A6 c5 N 1 c6 X [lb] e 0 w6 HW6.o HR2.o rfl (by omega)).mono ?_;rintro r w7 ⟨rfl,⟨A7,c7,hw3⟩,hb3,-⟩;obtain ⟨n7,hn3⟩:∃n,adN N e 1=n:=⟨_,rfl⟩;obtain ⟨X9,hX1⟩:∃X',adX X e [lb]=X':=⟨_,rfl⟩;obtain ⟨e9,he1⟩:∃e',adE e 0=e':=⟨_,rfl⟩;rw [hn3,hX1,he1] at hw3;have HFF:=zhy (HF2.o X X9 e e9 (by rw [HX2.o.1,HX2.o.2];exact HFIN0.o) ⟨hX1,he1⟩);have HW7:=zhy hw3;have HB7:=zhy (HB6.o.trans hb3);have HBw:=zhy (S00.o _ HB7.o).1;have bn7:=zgt N e 1;rw [hn3] at bn7;clear hn3 hX1 he1 hw3 hb3 HW6 HR2 HB6 HF2;obtain ⟨t0,t1,t2,t3,t4,t5⟩:=HW7.o;have HOW:=zhy t5;clear t5;by_cases h9:e9=0
   ·subst h9;obtain ⟨hx9,hq9⟩:=HFF.o.2 rfl
    have hn9:n7=(qX d).length:=by
     have:=HOW.o.1;rw [zo,hx9] at this;omega
    have HQ9:=zhy hq9;rw [hx9] at HOW;clear hq9 hx9 HFF;by_cases hl:2000<n7
    ·have HE:Hid (qE d=3):=by rw [Hid,HQ9.o,if_pos (by omega)]
     have HB0:Hid (qB d=[]):=by rw [Hid,qB,HE.o];rfl
     clear hn9;go_wp2_with fail;go_ret2;exact ⟨none,0,by rw [HE.o,HB0.o];rfl,by rw [HB0.o];exact World.ownsRow_nil _ _ _ _,HBw.o⟩
    ·have HE:Hid (qE d=0):=by rw [Hid,HQ9.o,if_neg (by omega)]
     have HB0:Hid (qB d=qX d):=by rw [Hid,qB,if_pos HE.o]
     have HN9:=zhy hn9;clear hn9;go_wp2_with fail;go_ret2;exact ⟨A7,c7,by rw [HE.o,HB0.o,←HN9.o];rfl,by rw [HB0.o,←HN9.o];exact qg HOW.o hwT,HBw.o⟩
   ·have h9b:(e9 != 0)=true:=by simpa using h9
    obtain ⟨hx9,hq9⟩:=HFF.o.1 h9;have HN:=zhy (And.intro hx9 hq9);clear hx9 hq9 HFF h9;go_wp2_with fail;go_region;go_wp2_with fail;go_ret2;exact ⟨none,0,by rw [HN.o.1,HN.o.2];rfl,by rw [HN.o.2];exact World.ownsRow_nil _ _ _ _,HBw.o.drew⟩
theorem qex:qej fWM:=by
 intro y d w hw hq hg;have S0:=zhy ((((Sx.start w).add fWM hw).add (fQm y d) hq).mkD y d);have HG:=zhy hg;clear hw hq hg;obtain ⟨z0,z1,z2,z3,z4⟩:=(S0.o.call (Below.refl _ _)).2.1;go_enter Tryz.func21,Tryz.ntmps21;go_wp2_with fail;refine (zxl y d _ S0.o.2.2.2.1 S0.o.2.2.1 HG.o).mono ?_;rintro r w1 ⟨A,c,rfl,-,hb⟩;have S1:=zhy (S0.o.call hb);clear hb S0 z0 z1 z2 z3 z4;go_wp2_with fail;go_ret;exact ⟨rfl,S1.o.1⟩
def zws (w:World) (K V:Nat):Prop:=K<w.heap.size ∧
 (w.cell? ⟨K,0,none⟩=some (.func (.func 21) #[] #[])∧w.cell? ⟨K,1,none⟩=some Value.nilFunc) ∧
 (w.cell? ⟨K,2,none⟩=some (.func (.func 132) #[] #[])∧w.cell? ⟨K,3,none⟩=some Value.nilFunc) ∧
 (w.cell? ⟨K,4,none⟩=some Value.nilFunc∧w.cell? ⟨K,5,none⟩=some (.func (.func 24) #[] #[])) ∧
 (w.cell? ⟨K,6,none⟩=some (.func (.func 25) #[] #[])∧w.cell? ⟨K,7,none⟩=some Value.nilFunc) ∧
 (w.cell? ⟨K,8,none⟩=some (.func (.func 133) #[.pointer (some ⟨V,0,none⟩)] #[])∧w.cell? ⟨K,9,none⟩=some Value.nilFunc) ∧
 (w.cell? ⟨K,10,none⟩=some (.func (.func 27) #[] #[])∧w.cell? ⟨K,11,none⟩=some Value.nilFunc)
theorem zws.keep {w w':World} {K V:Nat} (h:zws w K V) (hb:Below w.heap.size w w'):zws w' K V:=by
 obtain ⟨h0,⟨a0,b0⟩,⟨a1,b1⟩,⟨a2,b2⟩,⟨a3,b3⟩,⟨a4,b4⟩,a5,b5⟩:=h;obtain ⟨hc,-⟩:=zbi hb;have k:∀{i:Nat} {v:Value},w.cell? ⟨K,i,none⟩=some v→w'.cell? ⟨K,i,none⟩=some v:=fun hv=>(hc _ _ h0).trans hv;exact ⟨Nat.lt_of_lt_of_le h0 hb.size,⟨k a0,k b0⟩,⟨k a1,k b1⟩,⟨k a2,k b2⟩,⟨k a3,k b3⟩,⟨k a4,k b4⟩,k a5,k b5⟩
theorem zws.other {w w':World} {K V:Nat} (h:zws w K V) (hs:w.heap.size≤w'.heap.size) (hk:w'.heap[K]?=w.heap[K]?):zws w' K V:=by
 obtain ⟨h0,⟨a0,b0⟩,⟨a1,b1⟩,⟨a2,b2⟩,⟨a3,b3⟩,⟨a4,b4⟩,a5,b5⟩:=h;have k:∀{i:Nat} {v:Value},w.cell? ⟨K,i,none⟩=some v→w'.cell? ⟨K,i,none⟩=some v:=fun hv=>(World.cell?_of_block (a:=⟨K,_,none⟩) hk).trans hv;exact ⟨by omega,⟨k a0,k b0⟩,⟨k a1,k b1⟩,⟨k a2,k b2⟩,⟨k a3,k b3⟩,⟨k a4,k b4⟩,k a5,k b5⟩
theorem znr (V:Nat) (w:World):Calls Tryz.prog 82 #[.pointer (some ⟨V,0,none⟩)] w fun r w'=>r=.returned (.slice (some ⟨w.heap.size,0,none⟩) 6 6)∧zws w' w.heap.size V∧Below w.heap.size w w':=by
 go_enter Tryz.func82,Tryz.ntmps82;go_wp2_with fail;go_ret;refine ⟨rfl,?_,qh⟩;refine ⟨by simp,⟨?_,?_⟩,⟨?_,?_⟩,⟨?_,?_⟩,⟨?_,?_⟩,⟨?_,?_⟩,?_,?_⟩<;>simp [go_sem]
def Vx (w:World) (V:Nat) (e b:Int) (v:Value):Prop:=w.heap[V]?=some (.cells #[.int .i64 e,.int .i64 b,v] 71 (0,0))
section
variable {w w' : World} {V : Nat} {e b : Int} {v : Value}
theorem Vx.lt (h:Vx w V e b v):V<w.heap.size:=(zg9.1 h).1
theorem Vx.keep (h:Vx w V e b v) (hb:Below w.heap.size w w'):Vx w' V e b v:=(hb.block V h.lt).trans h
theorem Vx.new (w:World) (e b:Int) (v:Value):Vx (w.alloc (.cells #[.int .i64 e,.int .i64 b,v] 71)) w.heap.size e b v:=heap_alloc_last w _
theorem Vx.cells (h:Vx w V e b v):w.cell? ⟨V,0,none⟩=some (.int .i64 e)∧w.cell? ⟨V,1,none⟩=some (.int .i64 b)∧w.cell? ⟨V,2,none⟩=some v ∧
  w.frozen? ⟨V,0,none⟩=false∧w.frozen? ⟨V,1,none⟩=false∧w.frozen? ⟨V,2,none⟩=false:=by
 refine ⟨?_,?_,?_,frozen_of_row w V 0 _ _ h,frozen_of_row w V 1 _ _ h,frozen_of_row w V 2 _ _ h⟩<;>rw [cell_of_row w V _ _ _ (0,0) h]<;>rfl
theorem Vx.set0 (h:Vx w V e b v) (n:Int):Vx (w.setCell ⟨V,0,none⟩ (.int .i64 n)) V n b v:=by
 unfold Vx;rw [heap_setCell_same w V 0 _ _ _ h];rfl
theorem Vx.set1 (h:Vx w V e b v) (n:Int):Vx (w.setCell ⟨V,1,none⟩ (.int .i64 n)) V e n v:=by
 unfold Vx;rw [heap_setCell_same w V 1 _ _ _ h];rfl
theorem Vx.set2 (h:Vx w V e b v) (u:Value):Vx (w.setCell ⟨V,2,none⟩ u) V e b u:=by
 unfold Vx;rw [heap_setCell_same w V 2 _ _ _ h];rfl
end
abbrev fVx (V:Nat) (e b:Int) (v:Value):Fct:=⟨fun w=>Vx w V e b v,fun _ _ h hb=>h.keep hb⟩
def zrt (d:Md):Int:=match zby d with | true=>70 | false=>0
theorem zhj (y:Ma) (d:Md) (w:World) (hq:Hq w y d) (h0:-1≤d.i) (h1:d.i<d.s.length):Calls Tryz.prog 132 #[dv y d] w fun r w'=>r=.returned (.int .i64 (zrt d))∧Below w.heap.size w w':=by
 have S0:=zhy ((((Sx.start w).add (fQm y d) hq).mkD y d));by_cases hi:d.i=-1
 ·have HM:Hid (zby d=false):=by rw [Hid,zby,hi];rfl
  obtain ⟨B,hB⟩:∃B,w.heap.size=B:=⟨_,rfl⟩;rw [hB] at S0;have E:(d.i != (-1:Int))=false:=by simp [hi]
  clear hq h0 h1 hi;go_enter Tryz.func132,Tryz.ntmps132;go_upto_region 1 with (fail);change Code.wp _ _ _ _ (w.alloc (zn y d));clear hB;generalize w.alloc (zn y d)=w1 at S0 ⊢;obtain ⟨-,⟨d0,d1,d2,d3,d4⟩,-⟩:=S0.o;go_wp2_with fail;go_ret;exact ⟨by rw [zrt,HM.o];rfl,S0.o.1⟩
 ·obtain ⟨i,hii⟩:∃i:Nat,d.i=i:=⟨d.i.toNat,by omega⟩;have hil:i<d.s.length:=by omega
  have hzl:=hq.zlen;have hiz:i<y.Z.length:=by omega
  obtain ⟨ad,hA,hat,hok⟩:=hq.2.2.1.at_ hiz;have hza:=hq.zat hiz hil
  have HM:Hid (zby d=(y.Z[i]).m.a.contains 3):=by
   have e1:ji d i=(y.Z[i]).m:=by rw [ji,zg7 hil,Option.getD_some,hza]
   have e2:(d.i==-1)=false:=by simp;omega
   rw [Hid,zby,e2,hii,Int.toNat_natCast,e1];rfl
  have HR:Hid (Rd (w.alloc (zn y d)) (y.Z[i]).x.A (y.Z[i]).x.c (y.Z[i]).m.a):=zhy (hok.1.1.keep qh);have HAT:Hid (At8 (w.alloc (zn y d)) (ad.add (i*8)) (y.Z[i])):=zhy (hat.keep qh);generalize y.Z[i]=z at HM HR HAT;obtain ⟨⟨XA,xc,XB,xd,XD,xk,xe⟩,m,K⟩:=z;obtain ⟨B,hB⟩:∃B,w.heap.size=B:=⟨_,rfl⟩;rw [hB] at S0;have E:((i:Int) != (-1:Int))=true:=by simp
  have hsl:=hq.2.2.1.len;have hslen:(i:Int)<(d.s.length:Int):=by omega
  have HII:=zhy hii;clear hq h0 h1 hi hat hok hza hzl hiz hii;obtain ⟨G,gc,P,pc,A,c,Z⟩:=y;dsimp only at hA hsl;subst hA;go_enter Tryz.func132,Tryz.ntmps132;go_upto_region 1 with (fail);change Code.wp _ _ _ _ (w.alloc (zn ⟨G,gc,P,pc,some ad,c,Z⟩ d));clear hB;generalize w.alloc (zn ⟨G,gc,P,pc,some ad,c,Z⟩ d)=w1 at S0 HR HAT ⊢;obtain ⟨-,⟨d0,d1,d2,d3,d4⟩,-⟩:=S0.o;rw [HII.o] at d4;dsimp only at d3;obtain ⟨a0,-⟩:=HAT.o;dsimp only at a0;have HC:=zhy (zz5 XA xc _ m.a 3 (m.a.contains 3) w1 HR.o rfl rfl);go_wp2_with fail;refine HC.o.mono ?_;rintro e w2 ⟨rfl,hb2⟩;have HB:=zhy (S0.o.call hb2).1;clear hb2 HC S0 HR HAT d0 d1 d2 d3 d4 a0;generalize m.a.contains 3=v at HM ⊢;cases v with
  | true =>
   go_wp2_with fail;go_ret;exact ⟨by rw [zrt,HM.o];rfl,HB.o⟩
  | false =>
   go_wp2_with fail;go_ret;exact ⟨by rw [zrt,HM.o];rfl,HB.o⟩
theorem zow (V:Nat) (e b:Int) (v:Value) (y:Ma) (d:Md) (w:World) (hx:Vx w V e b v) (hq:Hq w y d) (hg:qG d=false) :
  Calls Tryz.prog 133 #[.pointer (some ⟨V,0,none⟩),dv y d] w fun r w'=>∃A c,r=.returned (.int .i64 (zap d).2)∧Vx w' V e b (.slice A (zap d).1.length c) ∧
   w'.ownsRow w.heap.size 39 3 (.slice A (zap d).1.length c) (zap d).1.length (clr ce3 (zap d).1)∧Fx V w w':=by
 have S0:=zhy (((Sx.start w).add (fQm y d) hq).add (fVx V e b v) hx |>.mkD y d);obtain ⟨X,hX⟩:∃X,zap d=X:=⟨_,rfl⟩;obtain ⟨L,E⟩:=X;have HX:=zhy hX;rw [hX];clear hX;dsimp only;have HG:=zhy hg;have HF:Hid (Fx V w (w.alloc (zn y d))):=zhy ((zv.refl _ _).alloc _);have HSZ:Hid ((w.alloc (zn y d)).heap.size=w.heap.size+1):=zhy (qn _ _);have hlt:=hx.lt;obtain ⟨B,hB⟩:∃B,w.heap.size=B:=⟨_,rfl⟩;rw [hB] at S0 HSZ hlt;have HBB:=zhy hB;clear hq hg hx;go_enter Tryz.func133,Tryz.ntmps133;go_upto_region 1 with (fail);change Code.wp _ _ _ _ (w.alloc (zn y d));clear hB;generalize w.alloc (zn y d)=w1 at S0 HF HSZ ⊢;obtain ⟨-,⟨d0,d1,d2,d3,d4⟩,-⟩:=S0.o
 have HC:Hid (Calls Tryz.prog 28 #[dv y d] w1 fun r w'=>∃A c,r=.returned (.tuple #[.slice A L.length c,.int .i64 E])∧w'.ownsRow w1.heap.size 39 3 (.slice A L.length c) L.length (clr ce3 L)∧Below w1.heap.size w1 w'):=by
  have h:=zp2 y d w1 S0.o.2.2.2.1 HG.o;unfold zom at h;rw [HX.o] at h;exact h
 go_wp2_with fail;refine HC.o.mono ?_;rintro r w2 ⟨A,c,rfl,ho,hb⟩;have HO:=zhy ho;have HV:=zhy (S0.o.2.2.1.keep hb);have HF2:Hid (Fx V w w2):=zhy (HF.o.trans (zv.of_below (X:=(·=V)) hb fun j h1 h2=>by omega) fun _ _ h=>h);clear HC ho hb S0 HF d0 d1 d2 d3 d4;obtain ⟨x0,x1,x2,x3,x4,x5⟩:=HV.o.cells;go_wp2_with fail;go_ret;have hVB:V<w1.heap.size:=by rw [HSZ.o];omega
 exact ⟨A,c,rfl,HV.o.set2 _,qg (ownsRow_setCell_below HO.o hVB _) (by rw [HSZ.o,HBB.o];omega),HF2.o.set (.inr rfl) _⟩
def zck (w1 w:World) (K V:Nat) (e b:Int) (A:Option Addr) (c:Nat) (L:List Ce):Prop:=
 Below w1.heap.size w1 w∧Vx w V e b (.slice A L.length c)∧zws w K V∧w.ownsRow (V+1) 39 3 (.slice A L.length c) L.length (clr ce3 L)∧w1.heap.size≤V∧V<K
section
variable {w1 w w' : World} {K V c : Nat} {e b : Int} {A : Option Addr} {L : List Ce}
theorem zck.call (h:zck w1 w K V e b A c L) (hb:Below w.heap.size w w'):zck w1 w' K V e b A c L:=by
 obtain ⟨h1,h2,h3,h4,h5,h6⟩:=h;exact ⟨qc h1 hb,h2.keep hb,h3.keep hb,qb h4 hb (Nat.le_refl _),h5,h6⟩
theorem zck.set0 (h:zck w1 w K V e b A c L) (n:Int):zck w1 (w.setCell ⟨V,0,none⟩ (.int .i64 n)) K V n b A c L:=by
 obtain ⟨h1,h2,h3,h4,h5,h6⟩:=h;exact ⟨h1.setCell h5 _,h2.set0 n,h3.other (by simp) (Below.heap_setCell w ⟨V,0,none⟩ _ K (by show K≠V;omega)),ownsRow_setCell_below h4 (show V<V+1 by omega) _,h5,h6⟩
theorem zck.set1 (h:zck w1 w K V e b A c L) (n:Int):zck w1 (w.setCell ⟨V,1,none⟩ (.int .i64 n)) K V e n A c L:=by
 obtain ⟨h1,h2,h3,h4,h5,h6⟩:=h;exact ⟨h1.setCell h5 _,h2.set1 n,h3.other (by simp) (Below.heap_setCell w ⟨V,1,none⟩ _ K (by show K≠V;omega)),ownsRow_setCell_below h4 (show V<V+1 by omega) _,h5,h6⟩
theorem zck.certs (h:zck w1 w K V e b A c L) {A':Option Addr} {c':Nat} {L':List Ce} (hx:Vx w' V e b (.slice A' L'.length c')) (ho:w'.ownsRow w.heap.size 39 3 (.slice A' L'.length c') L'.length (clr ce3 L')) (hf:Fx V w w'):zck w1 w' K V e b A' c' L':=by
 obtain ⟨h1,h2,h3,h4,h5,h6⟩:=h;have hl:=h2.lt;refine ⟨h1.trans (zv.below hf fun j hj=>⟨by have:=h1.size;omega,fun e=>by omega⟩),hx,h3.other hf.size (hf.block K h3.1 (by omega)),qg ho (by omega),h5,h6⟩
end
def zzy (d:Md):Nat→Prop
 | 0=>True
 | 1=>qE d=0
 | 2=>qE d=0∧zby d=false
 | 3=>qE d=0∧zby d=false∧jj d d.s.length=0
 | 4=>qE d=0∧zby d=false∧jj d d.s.length=0∧(jg d).2=0
 | 5=>qE d=0∧zby d=false∧jj d d.s.length=0∧(jg d).2=0∧(zap d).2=0
 | _=>(ja d).1=0
def qeb (w w':World) (d:Md) (r:Ending):Prop:=∃A c L,r=.returned (.agg #[.int .i64 (ja d).1,.int .i64 (ja d).2.1,.slice A L.length c])∧((ja d).1=0→L=(ja d).2.2) ∧
 w'.ownsRow w.heap.size 39 3 (.slice A L.length c) L.length (clr ce3 L)∧Below w.heap.size w w'
theorem jo (tm:Array Value) (w':World) (R:Nat) (e b:Int) (v:Value) (hT:tm[2]?.getD undef=.pointer (some ⟨R,0,none⟩)) (hR:Vx w' R e b v) (Q:Ending→World→Prop) (hQ:Q (.returned (.agg #[.int .i64 e,.int .i64 b,v])) w') :
  bodyPost Tryz.prog Tryz.f40 Q .ret { tmps:=tm,defers:=[]} w':=by
 obtain ⟨c0,c1,c2,-⟩:=hR.cells;exact bodyPost_ret (v:=.agg #[.int .i64 e,.int .i64 b,v]) (by simp [results,Tryz.results40,go_sem,hT,c0,c1,c2]) rfl hQ
theorem zck.end_ {w0 w1 w:World} {K V R c:Nat} {e b:Int} {A:Option Addr} {L:List Ce} {d:Md} (h:zck w1 w K V e b A c L) (hR:∃u1 u2 u3,Vx w1 R u1 u2 u3) (h0:Below w0.heap.size w0 w1) (hRV:w0.heap.size≤R∧R<V) (he:(ja d).1=e) (hb:(ja d).2.1=b) (hL:e=0→L=(ja d).2.2) :
  Vx (((w.setCell ⟨R,0,none⟩ (.int .i64 e)).setCell ⟨R,1,none⟩ (.int .i64 b)).setCell ⟨R,2,none⟩ (.slice A L.length c)) R e b (.slice A L.length c) ∧
  qeb w0 (((w.setCell ⟨R,0,none⟩ (.int .i64 e)).setCell ⟨R,1,none⟩ (.int .i64 b)).setCell ⟨R,2,none⟩ (.slice A L.length c)) d (.returned (.agg #[.int .i64 e,.int .i64 b,.slice A L.length c])):=by
 obtain ⟨h1,h2,h3,h4,h5,h6⟩:=h;obtain ⟨u1,u2,u3,hR⟩:=hR;have hr:Vx w R u1 u2 u3:=hR.keep h1;refine ⟨((hr.set0 e).set1 b).set2 _,A,c,L,by rw [he,hb],fun h=>hL (by rw [←he];exact h),?_,?_⟩
 ·have k:=ownsRow_setCell_below (ownsRow_setCell_below (ownsRow_setCell_below h4 (show (⟨R,0,none⟩:Addr).block<V+1 by show R<V+1;omega) (.int .i64 e)) (show (⟨R,1,none⟩:Addr).block<V+1 by show R<V+1;omega) (.int .i64 b)) (show (⟨R,2,none⟩:Addr).block<V+1 by show R<V+1;omega) (.slice A L.length c);exact qg k (by omega)
 ·have hw:=h0.size;exact (((qc h0 h1).setCell hRV.1 _).setCell hRV.1 _).setCell hRV.1 _
theorem qap {d:Md} (h:qE d≠0):ja d=(qE d,-1,[]):=by rw [ja,if_neg h]
theorem qcu {d:Md} (h:qE d=0) (h2:zby d=true):ja d=(70,-1,[]):=by rw [ja,if_pos h,if_pos h2]
theorem qcf {d:Md} (h:qE d=0∧zby d=false) {k:Nat} (hk:k<d.s.length) (ha:∀j,j<k→(ql d j).2=0) (he:(ql d k).2≠0):ja d=((ql d k).2,(k:Int),[]):=by
 have h0:=zha (d:=d) ha;have h1:=zav h0 he d.s.length hk;have h2:jj d d.s.length≠0:=by rw [h1];exact he
 obtain ⟨k2,a1,a2,a3,a4⟩:=zkz h2
 have:k2=k:=by
  rcases Nat.lt_trichotomy k2 k with hl | hl | hl
  ·have:=ha k2 hl;rw [a3,h1] at this;exact absurd this he
  ·exact hl
  ·exact absurd (a4 k hl) he
 rw [ja,if_pos h.1,if_neg (by rw [h.2];decide),if_neg h2,h1,a1,this]
theorem qcn {d:Md} (h:qE d=0∧zby d=false∧jj d d.s.length=0) (he:(jg d).2≠0):ja d=((jg d).2,-1,[]):=by
 rw [ja,if_pos h.1,if_neg (by rw [h.2.1];decide),if_pos h.2.2,if_neg he]
theorem qbj {d:Md} (h:qE d=0∧zby d=false∧jj d d.s.length=0∧(jg d).2=0) (he:(zap d).2≠0):ja d=((zap d).2,-1,[]):=by
 rw [ja,if_pos h.1,if_neg (by rw [h.2.1];decide),if_pos h.2.2.1,if_pos h.2.2.2,if_neg he]
theorem qa9 {d:Md} (h:qE d=0∧zby d=false∧jj d d.s.length=0∧(jg d).2=0∧(zap d).2=0) (he:zct d≠0):ja d=(zct d,-1,[]):=by
 rw [ja,if_pos h.1,if_neg (by rw [h.2.1];decide),if_pos h.2.2.1,if_pos h.2.2.2.1,if_pos h.2.2.2.2,if_neg he]
theorem qb5 {d:Md} (h:zrt d=0):zby d=false:=by
 unfold zrt at h;cases hm:zby d with
 | true=>rw [hm] at h;cases h
 | false=>rfl
theorem zql {d:Md} (h:zrt d≠0):zby d=true∧zrt d=70:=by
 unfold zrt at h ⊢;cases hm:zby d with
 | true=>exact ⟨rfl,rfl⟩
 | false=>rw [hm] at h;exact absurd rfl h
def zrg (w:World) (C:Nat) (f g:Value):Prop:=C<w.heap.size∧w.cell? ⟨C,0,none⟩=some f∧w.cell? ⟨C,1,none⟩=some g
theorem zrg.keep {w w':World} {C:Nat} {f g:Value} (h:zrg w C f g) (hb:Below w.heap.size w w'):zrg w' C f g:=by
 obtain ⟨hc,-⟩:=zbi hb;exact ⟨Nat.lt_of_lt_of_le h.1 hb.size,(hc _ _ h.1).trans h.2.1,(hc _ _ h.1).trans h.2.2⟩
theorem zrg.other {w:World} {C:Nat} {f g:Value} (h:zrg w C f g) {p:Addr} (hp:p.block≠C) (v:Value):zrg (w.setCell p v) C f g:=by
 obtain ⟨h0,h1,h2⟩:=h;have ne:∀i,p≠(⟨C,i,none⟩:Addr):=fun i e=>hp (by rw [e]);refine ⟨by simpa using h0,?_,?_⟩<;>(rw [World.cell?_setCell_other _ _ _ _ (ne _)];assumption)
theorem zrg.new (w:World) (f g:Value) (t:Nat):zrg (w.alloc (.cells #[f,g] t)) w.heap.size f g:=by
 refine ⟨by simp,?_,?_⟩<;>simp [go_sem]
theorem qa8 (d:Nat) (f:Fn) (a b:Array Value) (w:World):(Op.equalIn (d+1) 52 (.func f a b) .nilFunc).run Tryz.prog w=.ok false w:=by
 simp [Op.equalIn,run_underlying Tryz.underlying52]
theorem qbi (d:Nat) (w:World):(Op.equalIn (d+1) 52 .nilFunc .nilFunc).run Tryz.prog w=.ok true w:=by
 simp [Op.equalIn,run_underlying Tryz.underlying52]
theorem zqc (f:Fn) (a b:Array Value) (w:World):(binOp .eql 52 (.func f a b) Value.nilFunc).run Tryz.prog w=.ok (.bool false) w:=by
 simp only [binOp];simp [show (Op.equal 52 (.func f a b) .nilFunc).run Tryz.prog w=.ok false w from qa8 9999 f a b w]
theorem zv2 (w:World):(binOp .eql 52 Value.nilFunc Value.nilFunc).run Tryz.prog w=.ok (.bool true) w:=by
 simp only [binOp];simp [show (Op.equal 52 .nilFunc .nilFunc).run Tryz.prog w=.ok true w from qbi 9999 w]
theorem ze9 (y:Ma) (d:Md) (w:World) (hw:fWM.p w) (hq:Hq w y d) (hg:qG d=false):Calls Tryz.prog 40 #[dv y d] w fun r w'=>qeb w w' d r:=by
 have EF1:=zqc;have EF2:=zv2;have HG:=zhy hg;have HBD:=zhy (zci hg);obtain ⟨M,hM⟩:∃M,w.heap.size=M:=⟨_,rfl⟩;have hms:(w.alloc (zn y d)).heap.size=M+1:=by rw [qn,hM]
 have S1:=zhy (((((Sx.start w).add fWM hw).add (fQm y d) hq).mkD y d).mk1 (.cells #[.int .i64 0,.int .i64 0,.slice none 0 0] 71))
 have HR1:Hid (Vx ((w.alloc (zn y d)).alloc (.cells #[.int .i64 0,.int .i64 0,.slice none 0 0] 71)) (M+1) 0 0 (.slice none 0 0)):=by
  have:=Vx.new (w.alloc (zn y d)) 0 0 (.slice none 0 0);rw [hms] at this;exact this
 have hms2:((w.alloc (zn y d)).alloc (.cells #[.int .i64 0,.int .i64 0,.slice none 0 0] 71)).heap.size=M+2:=by rw [qn,hms]
 have HSZ:=zhy hms2;have HMM:=zhy hM;rw [hM] at S1;clear hw hq hg hms hms2;go_enter Tryz.func40,Tryz.ntmps40;go_upto_region 1 with (fail);change Code.wp _ _ _ _ ((w.alloc (zn y d)).alloc (.cells #[.int .i64 0,.int .i64 0,.slice none 0 0] 71));clear hM;generalize (w.alloc (zn y d)).alloc (.cells #[.int .i64 0,.int .i64 0,.slice none 0 0] 71)=w1 at S1 HR1 HSZ ⊢;obtain ⟨V,hV⟩:∃V,w1.heap.size=V:=⟨_,rfl⟩;have HV1:=zhy hV;have HVM:Hid (V=M+2):=zhy (by rw [←hV];exact HSZ.o);obtain ⟨R,hRR⟩:∃R,M+1=R:=⟨_,rfl⟩;rw [hRR] at HR1 ⊢;have HR:Hid ((∃u1 u2 u3,Vx w1 R u1 u2 u3)∧Below w.heap.size w w1∧(w.heap.size≤R∧R<V)):=zhy ⟨⟨_,_,_,HR1.o⟩,S1.o.1,by have:=HVM.o;have:=HMM.o;omega⟩
 have H0:Hid (Vx (w1.alloc (.cells #[.int .i64 0,.int .i64 (-1),.slice none 0 0] 71)) V 0 (-1) (.slice none 0 0)∧(w1.alloc (.cells #[.int .i64 0,.int .i64 (-1),.slice none 0 0] 71)).heap.size=V+1):=by
  have h1:=Vx.new w1 0 (-1) (.slice none 0 0);have h2:=qn w1 (.cells #[.int .i64 0,.int .i64 (-1),.slice none 0 0] 71);rw [hV] at h1 h2;exact ⟨h1,h2⟩
 clear HSZ;go_step3;go_upto_region 2 with (fail);generalize hwa:w1.alloc (.cells #[.int .i64 0,.int .i64 (-1),.slice none 0 0] 71)=w3 at H0 ⊢;have HB3:Hid (Below w1.heap.size w1 w3):=zhy (by rw [←hwa];exact qh);clear hwa hV hRR;go_wp2;go_step3;go_wp2_with fail;refine (znr V w3).mono ?_;rintro r w4 ⟨rfl,hk,hb4⟩;obtain ⟨K,hK⟩:∃K,w3.heap.size=K:=⟨_,rfl⟩
 have HJ0:Hid (zck w1 w4 K V 0 (-1) none 0 []):=by
  rw [hK] at hk;exact ⟨qc HB3.o hb4,H0.o.1.keep hb4,hk,World.ownsRow_nil _ _ _ _,by rw [HV1.o];exact Nat.le_refl _,by rw [←hK,H0.o.2];omega⟩
 rw [hK];clear hk hb4 hK HB3 H0;go_wp2_with fail;go_loopw [10] (fun i wr=>∃(j:Nat) (A:Option Addr) (c:Nat) (L:List Ce),j≤6∧i=.int .i64 j∧Hid (zck w1 wr K V 0 (-1) A c L)∧Hid (zzy d j)∧Hid (5≤j→L=zig d)) (fun i _=>6-(intOf i).toNat)
 case atStart=>exact ⟨0,none,0,[],by omega,rfl,HJ0,trivial,zhy fun h=>absurd h (by omega)⟩
 case round =>
  obtain ⟨j,A,c,L,hj,rfl,HJ,HK,HL⟩:=hrel;clear HJ0;have hj8:j=0∨j=1∨j=2∨j=3∨j=4∨j=5∨j=6:=by omega
  rcases hj8 with hj0 | hj0 | hj0 | hj0 | hj0 | hj0 | hj0
  ·subst hj0
   have HC:Hid (∀wq,zck w1 wq K V 0 (-1) A c L→Calls Tryz.prog 21 #[dv y d] wq fun r w'=>r=.returned (.int .i64 (qE d))∧Below wq.heap.size wq w'):=by
    intro wq hjs;have hs:=S1.o.call hjs.1;exact qex y d wq hs.2.2.2.1 hs.2.2.1 HG.o
   obtain ⟨kl,⟨k0,k1⟩,⟨k2,k3⟩,⟨k4,k5⟩,⟨k6,k7⟩,⟨k8,k9⟩,k10,k11⟩:=HJ.o.2.2.1;obtain ⟨-,⟨d0,d1,d2,d3,d4⟩,-⟩:=S1.o.call HJ.o.1;have vl:=HJ.o.2.1.lt;go_wp2_with fail;refine (HC.o _ (HJ.o.call qh)).mono ?_;rintro r w2 ⟨rfl,hb2⟩;have J2:=zhy ((HJ.o.call qh).call hb2);clear hb2 HC HJ kl k0 k1 k2 k3 k4 k5 k6 k7 k8 k9 k10 k11 d0 d1 d2 d3 d4 vl;obtain ⟨x0,x1,x2,x3,x4,x5⟩:=J2.o.2.1.cells;have vl:=J2.o.2.1.lt;by_cases he:qE d=0
   ·rw [he];have HK2:Hid (zzy d 1):=zhy he;have J3:=zhy (J2.o.set0 0);clear he HK;go_wp2_with fail;go_roundw
    case rel=>exact ⟨1,A,c,L,by omega,rfl,J3,HK2,zhy fun h=>absurd h (by omega)⟩
    case measure=>simp [intOf]
   ·have HV:Hid (ja d=(qE d,-1,[])):=zhy (qap he);obtain ⟨E,hE⟩:∃E,qE d=E:=⟨_,rfl⟩;rw [hE] at HV he ⊢;have hne:(E != 0)=true:=by simpa using he
    have HE:=zhy (zck.end_ (d:=d) (J2.o.set0 E) HR.o.1 HR.o.2.1 HR.o.2.2 (by rw [HV.o]) (by rw [HV.o]) (fun h=>absurd h he));obtain ⟨r0,r1,r2,r3,r4,r5⟩:=(HR1.o.keep J2.o.1).cells;have rl:=(HR1.o.keep J2.o.1).lt;have hrv:R<V:=HR.o.2.2.2;clear hE he HK J2;go_wp2_with fail;try rw [Exit.noGoto_ret]
    refine jo _ _ R E (-1) _ rfl HE.o.1 _ ?_;exact HE.o.2
  ·subst hj0
   have HC:Hid (∀wq,zck w1 wq K V 0 (-1) A c L→Calls Tryz.prog 132 #[dv y d] wq fun r w'=>r=.returned (.int .i64 (zrt d))∧Below wq.heap.size wq w'):=by
    intro wq hjs;have hs:=S1.o.call hjs.1;exact zhj y d wq hs.2.2.1 (zch HK.o).2.2.1 (zch HK.o).2.2.2.1
   obtain ⟨kl,⟨k0,k1⟩,⟨k2,k3⟩,⟨k4,k5⟩,⟨k6,k7⟩,⟨k8,k9⟩,k10,k11⟩:=HJ.o.2.2.1;obtain ⟨-,⟨d0,d1,d2,d3,d4⟩,-⟩:=S1.o.call HJ.o.1;have vl:=HJ.o.2.1.lt;go_wp2_with fail;refine (HC.o _ (HJ.o.call qh)).mono ?_;rintro r w2 ⟨rfl,hb2⟩;have J2:=zhy ((HJ.o.call qh).call hb2);clear hb2 HC HJ kl k0 k1 k2 k3 k4 k5 k6 k7 k8 k9 k10 k11 d0 d1 d2 d3 d4 vl;obtain ⟨x0,x1,x2,x3,x4,x5⟩:=J2.o.2.1.cells;have vl:=J2.o.2.1.lt;by_cases he:zrt d=0
   ·rw [he];have HK2:Hid (zzy d 2):=zhy ⟨HK.o,qb5 he⟩;have J3:=zhy (J2.o.set0 0);clear he HK;go_wp2_with fail;go_roundw
    case rel=>exact ⟨2,A,c,L,by omega,rfl,J3,HK2,zhy fun h=>absurd h (by omega)⟩
    case measure=>simp [intOf]
   ·have HV:Hid (ja d=(70,-1,[])):=zhy (qcu HK.o (zql he).1);obtain ⟨E,hE⟩:∃E:Int,70=E:=⟨_,rfl⟩;rw [(zql he).2];rw [hE] at HV ⊢;have he:E≠0:=by omega
    skip;have hne:(E != 0)=true:=by simpa using he
    have HE:=zhy (zck.end_ (d:=d) (J2.o.set0 E) HR.o.1 HR.o.2.1 HR.o.2.2 (by rw [HV.o]) (by rw [HV.o]) (fun h=>absurd h he));obtain ⟨r0,r1,r2,r3,r4,r5⟩:=(HR1.o.keep J2.o.1).cells;have rl:=(HR1.o.keep J2.o.1).lt;have hrv:R<V:=HR.o.2.2.2;clear hE he HK J2;go_wp2_with fail;try rw [Exit.noGoto_ret]
    refine jo _ _ R E (-1) _ rfl HE.o.1 _ ?_;exact HE.o.2
  ·subst hj0;rw [show ((2:Nat):Int)=2 from rfl]
   have HC:Hid (∀wq (k:Nat),zck w1 wq K V 0 (-1) A c L→Calls Tryz.prog 24 #[dv y d,.int .i64 k] wq fun r w'=>r=.returned (.int .i64 (ql d k).2)∧Below wq.heap.size wq w'):=by
    intro wq k hjs;have hs:=S1.o.call hjs.1;exact zxs fWM y d k wq hs.2.2.2.1 hs.2.2.1 HG.o
   obtain ⟨kl,⟨k0,k1⟩,⟨k2,k3⟩,⟨k4,k5⟩,⟨k6,k7⟩,⟨k8,k9⟩,k10,k11⟩:=HJ.o.2.2.1;obtain ⟨-,⟨d0,d1,d2,d3,d4⟩,-⟩:=S1.o.call HJ.o.1;have vl:=HJ.o.2.1.lt;obtain ⟨C,hC⟩:∃C,wr.heap.size=C:=⟨_,rfl⟩
   have HCC:Hid (zrg (wr.alloc (.cells #[Value.nilFunc,.func (.func 24) #[] #[]] 137)) C Value.nilFunc (.func (.func 24) #[] #[])):=by
    rw [←hC];exact zrg.new wr _ _ _
   have HJC:=zhy (HJ.o.call (w':=wr.alloc (.cells #[Value.nilFunc,.func (.func 24) #[] #[]] 137)) qh);have hVC:V<C:=by omega
   have HSL:=zhy (S1.o.2.2.1.2.2.1.len);have HZL:=zhy (S1.o.2.2.1.zlen);go_upto_region 8 with (fail);try rw [hC]
   generalize wr.alloc (.cells #[Value.nilFunc,.func (.func 24) #[] #[]] 137)=wc at HCC HJC ⊢;clear HJ kl k0 k1 k2 k3 k4 k5 k6 k7 k8 k9 k10 k11 d0 d1 d2 d3 d4 vl hC;obtain ⟨-,⟨d0,d1,d2,d3,d4⟩,-⟩:=S1.o.call HJC.o.1;have hnl:d.s.length≤40:=HBD.o.1;go_wp2_with fail;go_loopw [6,28] (fun u i wq=>∃k:Nat,k≤d.s.length∧i=.int .i64 k∧Hid (zck w1 wq K V 0 (-1) A c L)∧Hid (zrg wq C Value.nilFunc (.func (.func 24) #[] #[]))∧Hid (∀i:Nat,i<k→(ql d i).2=0)) (fun _ i _=>d.s.length-(intOf i).toNat)
   case atStart=>exact ⟨0,by omega,rfl,HJC,HCC,zhy fun i hi=>absurd hi (by omega)⟩
   case round =>
    clear HJC HCC d0 d1 d2 d3 d4;obtain ⟨k,hk,rfl,HJ,HCC,HA⟩:=hrel;obtain ⟨cl,c0,c1⟩:=HCC.o;obtain ⟨-,⟨d0,d1,d2,d3,d4⟩,-⟩:=S1.o.call HJ.o.1;by_cases hkn:k<d.s.length
    ·go_wp2_with fail;refine (HC.o _ k HJ.o).mono ?_;rintro r w2 ⟨rfl,hb2⟩;have J2:=zhy (HJ.o.call hb2);have C2:=zhy (HCC.o.keep hb2);clear hb2 HJ HCC cl c0 c1 d0 d1 d2 d3 d4;obtain ⟨x0,x1,x2,x3,x4,x5⟩:=J2.o.2.1.cells;have vl:=J2.o.2.1.lt;obtain ⟨E,hE⟩:∃E,(ql d k).2=E:=⟨_,rfl⟩;rw [hE];by_cases he:E=0
     ·subst he
      have HA2:Hid (∀i:Nat,i<k+1→(ql d i).2=0):=zhy fun i hi=>by
       by_cases h:i=k
       ·rw [h];exact hE
       ·exact HA.o i (by omega)
      have J3:=zhy (J2.o.set0 0);have C3:=zhy (C2.o.other (p:=⟨V,0,none⟩) (by show V≠C;omega) (.int .i64 0));clear hE HA;go_wp2_with fail;go_roundw
      case rel=>exact ⟨k+1,by omega,by go_num,J3,C3,HA2⟩
      case measure=>simp [intOf];omega
     ·have HV:Hid (ja d=(E,(k:Int),[])):=by
       have:=qcf HK.o hkn HA.o (by rw [hE];exact he);rw [hE] at this;exact this
      have hne:(E != 0)=true:=by simpa using he
      have HE:=zhy (zck.end_ (d:=d) ((J2.o.set0 E).set1 k) HR.o.1 HR.o.2.1 HR.o.2.2 (by rw [HV.o]) (by rw [HV.o]) (fun h=>absurd h he));obtain ⟨r0,r1,r2,r3,r4,r5⟩:=(HR1.o.keep J2.o.1).cells;have rl:=(HR1.o.keep J2.o.1).lt;have hrv:R<V:=HR.o.2.2.2;clear hE he HK J2 HA;go_wp2_with fail;try rw [Exit.noGoto_ret]
      refine jo _ _ R E k _ rfl HE.o.1 _ ?_;exact HE.o.2
    ·have hkn2:d.s.length=k:=by omega
     have HNN:=zhy hkn2;have hkn3:¬(k:Int)<(d.s.length:Int):=by omega
     clear hkn2;have HK2:Hid (zzy d 3):=zhy ⟨HK.o.1,HK.o.2,by rw [HNN.o];exact zha HA.o⟩;clear HK HA;go_wp2_with fail;go_roundw
     case rel=>exact ⟨3,A,c,L,by omega,rfl,HJ,HK2,zhy fun h=>absurd h (by omega)⟩
     case measure=>simp [intOf]
  ·subst hj0
   have HC:Hid (∀wq,zck w1 wq K V 0 (-1) A c L→Calls Tryz.prog 25 #[dv y d] wq fun r w'=>r=.returned (.int .i64 ((jg d).2))∧Below wq.heap.size wq w'):=by
    intro wq hjs;have hs:=S1.o.call hjs.1;exact zse y d wq hs.2.2.1 (by have:=HBD.o.1;omega) (fun z hz=>by have:=HBD.o.2 z hz;omega)
   obtain ⟨kl,⟨k0,k1⟩,⟨k2,k3⟩,⟨k4,k5⟩,⟨k6,k7⟩,⟨k8,k9⟩,k10,k11⟩:=HJ.o.2.2.1;obtain ⟨-,⟨d0,d1,d2,d3,d4⟩,-⟩:=S1.o.call HJ.o.1;have vl:=HJ.o.2.1.lt;go_wp2_with fail;refine (HC.o _ (HJ.o.call qh)).mono ?_;rintro r w2 ⟨rfl,hb2⟩;have J2:=zhy ((HJ.o.call qh).call hb2);clear hb2 HC HJ kl k0 k1 k2 k3 k4 k5 k6 k7 k8 k9 k10 k11 d0 d1 d2 d3 d4 vl;obtain ⟨x0,x1,x2,x3,x4,x5⟩:=J2.o.2.1.cells;have vl:=J2.o.2.1.lt;by_cases he:(jg d).2=0
   ·rw [he];have HK2:Hid (zzy d 4):=zhy ⟨HK.o.1,HK.o.2.1,HK.o.2.2,he⟩;have J3:=zhy (J2.o.set0 0);clear he HK;go_wp2_with fail;go_roundw
    case rel=>exact ⟨4,A,c,L,by omega,rfl,J3,HK2,zhy fun h=>absurd h (by omega)⟩
    case measure=>simp [intOf]
   ·have HV:Hid (ja d=((jg d).2,-1,[])):=zhy (qcn HK.o he);obtain ⟨E,hE⟩:∃E,(jg d).2=E:=⟨_,rfl⟩;rw [hE] at HV he ⊢;have hne:(E != 0)=true:=by simpa using he
    have HE:=zhy (zck.end_ (d:=d) (J2.o.set0 E) HR.o.1 HR.o.2.1 HR.o.2.2 (by rw [HV.o]) (by rw [HV.o]) (fun h=>absurd h he));obtain ⟨r0,r1,r2,r3,r4,r5⟩:=(HR1.o.keep J2.o.1).cells;have rl:=(HR1.o.keep J2.o.1).lt;have hrv:R<V:=HR.o.2.2.2;clear hE he HK J2;go_wp2_with fail;try rw [Exit.noGoto_ret]
    refine jo _ _ R E (-1) _ rfl HE.o.1 _ ?_;exact HE.o.2
  ·subst hj0
   have HC:Hid (∀wq,zck w1 wq K V 0 (-1) A c L→Calls Tryz.prog 133 #[.pointer (some ⟨V,0,none⟩),dv y d] wq fun r w'=>∃A' c',r=.returned (.int .i64 (zap d).2)∧zck w1 w' K V 0 (-1) A' c' (zap d).1):=by
    intro wq hjs;refine (zow V 0 (-1) _ y d wq hjs.2.1 (S1.o.call hjs.1).2.2.1 HG.o).mono ?_;rintro r w' ⟨A',c',rfl,h1,h2,h3⟩;exact ⟨A',c',rfl,hjs.certs h1 h2 h3⟩
   obtain ⟨kl,⟨k0,k1⟩,⟨k2,k3⟩,⟨k4,k5⟩,⟨k6,k7⟩,⟨k8,k9⟩,k10,k11⟩:=HJ.o.2.2.1;obtain ⟨-,⟨d0,d1,d2,d3,d4⟩,-⟩:=S1.o.call HJ.o.1;have vl:=HJ.o.2.1.lt;go_wp2_with fail;refine (HC.o _ (HJ.o.call qh)).mono ?_;rintro r w2 ⟨A',c',rfl,hj2⟩;have J2:=zhy hj2;clear hj2 HC HJ kl k0 k1 k2 k3 k4 k5 k6 k7 k8 k9 k10 k11 d0 d1 d2 d3 d4 vl;obtain ⟨x0,x1,x2,x3,x4,x5⟩:=J2.o.2.1.cells;have vl:=J2.o.2.1.lt;by_cases he:(zap d).2=0
   ·rw [he];have HK2:Hid (zzy d 5):=zhy ⟨HK.o.1,HK.o.2.1,HK.o.2.2.1,HK.o.2.2.2,he⟩;have J3:=zhy (J2.o.set0 0);have HL2:Hid (5≤5→(zap d).1=zig d):=zhy fun _=>(zzj he).2.2.2;clear he HK;go_wp2_with fail;go_roundw
    case rel=>exact ⟨5,A',c',(zap d).1,by omega,rfl,J3,HK2,HL2⟩
    case measure=>simp [intOf]
   ·have HV:Hid (ja d=((zap d).2,-1,[])):=zhy (qbj HK.o he);obtain ⟨E,hE⟩:∃E,(zap d).2=E:=⟨_,rfl⟩;rw [hE] at HV he ⊢;have hne:(E != 0)=true:=by simpa using he
    have HE:=zhy (zck.end_ (d:=d) (J2.o.set0 E) HR.o.1 HR.o.2.1 HR.o.2.2 (by rw [HV.o]) (by rw [HV.o]) (fun h=>absurd h he));obtain ⟨r0,r1,r2,r3,r4,r5⟩:=(HR1.o.keep J2.o.1).cells;have rl:=(HR1.o.keep J2.o.1).lt;have hrv:R<V:=HR.o.2.2.2;clear hE he HK J2;go_wp2_with fail;try rw [Exit.noGoto_ret]
    refine jo _ _ R E (-1) _ rfl HE.o.1 _ ?_;exact HE.o.2
  ·subst hj0
   have HC:Hid (∀wq,zck w1 wq K V 0 (-1) A c L→Calls Tryz.prog 27 #[dv y d] wq fun r w'=>r=.returned (.int .i64 (zct d))∧Below wq.heap.size wq w'):=by
    intro wq hjs;have hs:=S1.o.call hjs.1;exact zo2 y d wq hs.2.2.1 (by have:=HBD.o.1;omega) (fun z hz=>by have:=HBD.o.2 z hz;omega)
   obtain ⟨kl,⟨k0,k1⟩,⟨k2,k3⟩,⟨k4,k5⟩,⟨k6,k7⟩,⟨k8,k9⟩,k10,k11⟩:=HJ.o.2.2.1;obtain ⟨-,⟨d0,d1,d2,d3,d4⟩,-⟩:=S1.o.call HJ.o.1;have vl:=HJ.o.2.1.lt;go_wp2_with fail;refine (HC.o _ (HJ.o.call qh)).mono ?_;rintro r w2 ⟨rfl,hb2⟩;have J2:=zhy ((HJ.o.call qh).call hb2);clear hb2 HC HJ kl k0 k1 k2 k3 k4 k5 k6 k7 k8 k9 k10 k11 d0 d1 d2 d3 d4 vl;obtain ⟨x0,x1,x2,x3,x4,x5⟩:=J2.o.2.1.cells;have vl:=J2.o.2.1.lt;by_cases he:zct d=0
   ·rw [he];have HK2:Hid (zzy d 6):=zhy (zfi.2 ⟨HK.o.1,HK.o.2.1,HK.o.2.2.1,HK.o.2.2.2.1,HK.o.2.2.2.2,he⟩);have J3:=zhy (J2.o.set0 0);clear he HK;go_wp2_with fail;go_roundw
    case rel=>exact ⟨6,A,c,L,by omega,rfl,J3,HK2,zhy fun _=>HL.o (by omega)⟩
    case measure=>simp [intOf]
   ·have HV:Hid (ja d=(zct d,-1,[])):=zhy (qa9 HK.o he);obtain ⟨E,hE⟩:∃E,zct d=E:=⟨_,rfl⟩;rw [hE] at HV he ⊢;have hne:(E != 0)=true:=by simpa using he
    have HE:=zhy (zck.end_ (d:=d) (J2.o.set0 E) HR.o.1 HR.o.2.1 HR.o.2.2 (by rw [HV.o]) (by rw [HV.o]) (fun h=>absurd h he));obtain ⟨r0,r1,r2,r3,r4,r5⟩:=(HR1.o.keep J2.o.1).cells;have rl:=(HR1.o.keep J2.o.1).lt;have hrv:R<V:=HR.o.2.2.2;clear hE he HK J2;go_wp2_with fail;try rw [Exit.noGoto_ret]
    refine jo _ _ R E (-1) _ rfl HE.o.1 _ ?_;exact HE.o.2
  ·subst hj0;have HV:=zhy (zln HK.o);have HE:=zhy (zck.end_ (d:=d) HJ.o HR.o.1 HR.o.2.1 HR.o.2.2 (by rw [HV.o]) (by rw [HV.o]) (fun _=>by rw [HV.o];exact HL.o (by omega)));obtain ⟨x0,x1,x2,x3,x4,x5⟩:=HJ.o.2.1.cells;have vl:=HJ.o.2.1.lt;obtain ⟨r0,r1,r2,r3,r4,r5⟩:=(HR1.o.keep HJ.o.1).cells;have rl:=(HR1.o.keep HJ.o.1).lt;have hrv:R<V:=HR.o.2.2.2;clear HK HJ HL;go_wp2_with fail;try rw [Exit.noGoto_ret]
   refine jo _ _ R 0 (-1) _ rfl HE.o.1 _ ?_;exact HE.o.2
theorem zka (a b c:Value) (w:World):(Instr.field 71 (.agg #[a,b,c]) 0).run Tryz.prog w=.ok a w:=by kernel_rfl
theorem zi4 (a b c:Value) (w:World):(Instr.field 71 (.agg #[a,b,c]) 1).run Tryz.prog w=.ok b w:=by kernel_rfl
theorem ztb (y:Ma) (d:Md) (w:World) (hw:fWM.p w) (hq:Hq w y d) (hg:qG d=false):Calls Tryz.prog 13 #[dv y d] w fun r w'=>r=.returned (.int .i64 (ja d).1)∧Below w.heap.size w w':=by
 have S0:=zhy ((((Sx.start w).add fWM hw).add (fQm y d) hq).mkD y d);have FL0:=zka;have FL1:=zi4;have HG:=zhy hg;obtain ⟨B,hB⟩:∃B,w.heap.size=B:=⟨_,rfl⟩;rw [hB] at S0;clear hw hq hg;go_enter Tryz.func13,Tryz.ntmps13;go_upto_region 1 with (fail);change Code.wp _ _ _ _ (w.alloc (zn y d));clear hB;generalize w.alloc (zn y d)=w1 at S0 ⊢;obtain ⟨-,⟨d0,d1,d2,d3,d4⟩,-⟩:=S0.o;go_wp2_with fail;refine (ze9 y d w1 S0.o.2.2.2.1 S0.o.2.2.1 HG.o).mono ?_;rintro r w2 ⟨A,c,L,rfl,-,-,hb⟩;have HB:=zhy (S0.o.call hb).1;clear hb S0 d0 d1 d2 d3 d4;go_wp2_with fail;go_ret;exact ⟨rfl,HB.o⟩
theorem zsb (y:Ma) (d:Md) (w:World) (hw:fWM.p w) (hq:Hq w y d) (hg:qG d=false):Calls Tryz.prog 15 #[dv y d] w fun r w'=>r=.returned (.int .i64 (ja d).2.1)∧Below w.heap.size w w':=by
 have S0:=zhy ((((Sx.start w).add fWM hw).add (fQm y d) hq).mkD y d);have FL0:=zka;have FL1:=zi4;have HG:=zhy hg;obtain ⟨B,hB⟩:∃B,w.heap.size=B:=⟨_,rfl⟩;rw [hB] at S0;clear hw hq hg;go_enter Tryz.func15,Tryz.ntmps15;go_upto_region 1 with (fail);change Code.wp _ _ _ _ (w.alloc (zn y d));clear hB;generalize w.alloc (zn y d)=w1 at S0 ⊢;obtain ⟨-,⟨d0,d1,d2,d3,d4⟩,-⟩:=S0.o;go_wp2_with fail;refine (ze9 y d w1 S0.o.2.2.2.1 S0.o.2.2.1 HG.o).mono ?_;rintro r w2 ⟨A,c,L,rfl,-,-,hb⟩;have HB:=zhy (S0.o.call hb).1;clear hb S0 d0 d1 d2 d3 d4;go_wp2_with fail;go_ret;exact ⟨rfl,HB.o⟩
def zm0 (w w':World) (L:List Ce) (e:Int) (r:Ending):Prop:=∃A c,r=.returned (.tuple #[.slice A L.length c,.int .i64 e])∧w'.ownsRow w.heap.size 39 3 (.slice A L.length c) L.length (clr ce3 L)∧Below w.heap.size w w'
theorem znx (y:Ma) (d:Md) (w:World) (hw:fWM.p w) (hq:Hq w y d) (hg:qG d=false):Calls Tryz.prog 12 #[dv y d] w fun r w'=>zm0 w w' (ja d).2.2 (ja d).1 r:=by
 have S0:=zhy ((((Sx.start w).add fWM hw).add (fQm y d) hq).mkD y d);have HG:=zhy hg;obtain ⟨X,hX⟩:∃X,ja d=X:=⟨_,rfl⟩;obtain ⟨e,b,L0⟩:=X;have HX0:=zhy hX;have HVN:Hid (e≠0→L0=[]):=zhy (by have:=zq7 (d:=d);rw [hX] at this;exact this);rw [hX];dsimp only;clear hX;have HSZ:Hid (w.heap.size≤(w.alloc (zn y d)).heap.size):=zhy (by rw [qn];omega);obtain ⟨B,hB⟩:∃B,w.heap.size=B:=⟨_,rfl⟩;rw [hB] at S0;clear hw hq hg;go_enter Tryz.func12,Tryz.ntmps12;go_upto_region 1 with (fail);change Code.wp _ _ _ _ (w.alloc (zn y d));clear hB;generalize w.alloc (zn y d)=w1 at S0 HSZ ⊢;obtain ⟨-,⟨d0,d1,d2,d3,d4⟩,-⟩:=S0.o;go_wp2_with fail;have HJ:=ze9 y d w1 S0.o.2.2.2.1 S0.o.2.2.1 HG.o;unfold qeb at HJ;rw [HX0.o] at HJ;dsimp only at HJ;refine HJ.mono ?_;clear HJ;rintro r w2 ⟨A,c,L,rfl,hL,ho,hb⟩;have HL:=zhy hL;have HO:Hid ((w2.alloc (.cells #[.int .i64 e,.int .i64 b,.slice A L.length c] 71)).ownsRow w.heap.size 39 3 (.slice A L.length c) L.length (clr ce3 L)):=zhy (qg (qb ho qh (Nat.le_refl _)) HSZ.o);have HB:Hid (Below w.heap.size w (w2.alloc (.cells #[.int .i64 e,.int .i64 b,.slice A L.length c] 71))):=zhy ((S0.o.call hb).call qh).1;have HX:Hid (Vx (w2.alloc (.cells #[.int .i64 e,.int .i64 b,.slice A L.length c] 71)) w2.heap.size e b (.slice A L.length c)):=zhy (Vx.new _ _ _ _);clear hb ho hL S0 d0 d1 d2 d3 d4;go_upto_region 2 with (fail);generalize w2.alloc (.cells #[.int .i64 e,.int .i64 b,.slice A L.length c] 71)=w3 at HO HB HX ⊢;obtain ⟨x0,x1,x2,-⟩:=HX.o.cells;by_cases he:e=0
 ·subst he;obtain rfl:=HL.o rfl;go_wp2_with fail;go_ret2;exact ⟨A,c,rfl,HO.o,HB.o⟩
 ·have hne:(e != 0)=true:=by simpa using he
  obtain rfl:=HVN.o he;clear he;go_wp2_with fail;go_quiet (fail);go_wp2;go_ret2;exact ⟨none,0,rfl,World.ownsRow_nil _ _ _ _,qf HB.o _⟩
end Go.Proofs.YtnjgkkoiamiaaaaGreatDoor
