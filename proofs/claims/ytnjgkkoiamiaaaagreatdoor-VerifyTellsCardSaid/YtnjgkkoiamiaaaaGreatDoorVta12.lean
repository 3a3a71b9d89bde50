import Derived.Test.YtnjgkkoiamiaaaaGreatDoorVta1
import Derived.Test.YtnjgkkoiamiaaaaGreatDoorVta6
import Derived.Test.YtnjgkkoiamiaaaaGreatDoorVta3
import Derived.Test.YtnjgkkoiamiaaaaGreatDoorVta7
import Derived.RangeFuncBox
import Derived.RangeFuncLeaves
import Derived.RangeFuncCalls
import Derived.RangeFuncRecord
import Derived.Shelf.Abstract
import Derived.Shelf.RegionOpen
import Derived.OwnWalkIn
import Derived.TacticsInMore
import Derived.LoopNIn
import Derived.LoopIn
import Derived.Test.YtnjgkkoiamiaaaaGreatDoorVta8
import Derived.Test.YtnjgkkoiamiaaaaGreatDoorVta11
import Derived.OwnWalk
import Derived.Laws.OwnMore
import Derived.Lib.AppendZeros
set_option maxRecDepth 100000
set_option maxHeartbeats 16000000
set_option linter.unusedSimpArgs false
set_option linter.unusedVariables false
namespace Go.Proofs.YtnjgkkoiamiaaaaGreatDoor
open Go.RowKit
attribute [local go_sem] Oper.semAt_some
def Rt (w:World) (T:Nat) (A:Option Addr) (c:Nat) (l:List Int):Prop:=Rd w A c l∧∀ad:Addr,A=some ad→0<l.length→ad.block≠T
def Sk (w:World) (T:Nat) (A:Option Addr) (c:Nat) (s:List Int×Int):Prop:=
 T<w.heap.size∧w.cell? ⟨T,0,none⟩=some (.slice A s.1.length c)∧w.cell? ⟨T,1,none⟩=some (.int .i64 s.2)∧w.frozen? ⟨T,0,none⟩=false∧w.frozen? ⟨T,1,none⟩=false∧Rt w T A c s.1
section
variable {w w' : World} {T c : Nat} {A : Option Addr} {l : List Int} {s : List Int × Int}
theorem Rt.set (h:Rt w T A c l) (j:Nat) (v:Value):Rt (w.setCell ⟨T,j,none⟩ v) T A c l:=⟨h.1.setc h.2 v,h.2⟩
theorem Rt.keep (h:Rt w T A c l) (hb:Below w.heap.size w w'):Rt w' T A c l:=⟨h.1.keep hb,h.2⟩
theorem Rt.pre (h:Rt w T A c l) (j:Nat):Rt w T A c (l.take j):=⟨h.1.pre j,fun ad e h0=>h.2 ad e (by rw [List.length_take] at h0;omega)⟩
theorem Rt.sp (h:Rt w T A c l) (hp:Sp T (T+1) w w'):Rt w' T A c l:=by
 refine ⟨⟨h.1.1,h.1.2.1,h.1.2.2.1,?_⟩,h.2⟩;rcases h.1.2.2.2 with hn | ⟨ad,ha,hc⟩
 ·exact .inl hn
 ·refine .inr ⟨ad,ha,fun i x hx=>?_⟩;have h0:0<l.length:=by have:=(zg8.1 hx).1;omega
  have hne:=h.2 ad ha h0;have hc:=hc i x hx;refine (hp.at_ ?_ ?_).trans hc
  ·exact qi hc
  ·rw [zbh];omega
theorem Sk.keep (h:Sk w T A c s) (hb:Below w.heap.size w w'):Sk w' T A c s:=by
 obtain ⟨h0,h1,h2,h3,h4,h5⟩:=h;obtain ⟨hc,hf⟩:=zbi hb;exact ⟨Nat.lt_of_lt_of_le h0 hb.size,(hc _ _ h0).trans h1,(hc _ _ h0).trans h2,(hf _ _ h0).trans h3,(hf _ _ h0).trans h4,h5.keep hb⟩
theorem Sk.setE (h:Sk w T A c s) (e:Int):Sk (w.setCell ⟨T,1,none⟩ (.int .i64 e)) T A c (s.1,e):=by
 obtain ⟨h0,h1,h2,h3,h4,h5⟩:=h;refine ⟨by simpa using h0,?_,?_,?_,?_,h5.set _ _⟩<;>simp [go_sem,h1,h2,h3,h4]
theorem Sk.setL (h:Sk w T A c s) (j:Nat) (hj:j≤s.1.length):Sk (w.setCell ⟨T,0,none⟩ (.slice A j c)) T A c (s.1.take j,s.2):=by
 obtain ⟨h0,h1,h2,h3,h4,h5⟩:=h;have e:(s.1.take j).length=j:=by rw [List.length_take];omega
 refine ⟨by simpa using h0,?_,?_,?_,?_,(h5.pre j).set _ _⟩<;>simp [go_sem,h1,h2,h3,h4,e,hj]
theorem Sk.new (w:World) (t:Nat) (h:Rd w A c l):Sk (w.alloc (.cells #[.slice A l.length c,.int .i64 0] t)) w.heap.size A c (l,0):=by
 refine ⟨by simp,?_,?_,?_,?_,h.alloc _,fun ad e h0=>?_⟩
 ·simp [go_sem]
 ·simp [go_sem]
 ·simp [go_sem]
 ·simp [go_sem]
 ·obtain ⟨ad',e',hc⟩:=h.at_ h0;rw [e] at e';injection e' with e';subst e';have:=qi hc;rw [zbh] at this;omega
end
theorem zm6 (e:Int):st1 true 0 ([],e)=([],101):=rfl
theorem zr4 {R:List Int} (e:Int) (h:R.length≠0):st1 true 0 (R,e)=(R.take (R.length-1),e):=by
 unfold st1;rw [if_neg h,if_neg (by rintro ⟨h1 | h1,-⟩<;>simp at h1),List.dropLast_eq_take]
theorem zo3 (T:Nat) (A:Option Addr) (c:Nat) (s:List Int×Int) (w:World) (h:Sk w T A c s):Calls Tryz.prog 227 #[.pointer (some ⟨T,0,none⟩)] w fun r w'=>r=.returned (.int .u8 (if s.1.length=0 then 0 else s.1.getLastD 0))∧Sk w' T A c (st1 true 0 s)∧Sp T (T+1) w w':=by
 obtain ⟨R,e⟩:=s;by_cases hz:R=[]
 ·subst hz;have HF:Hid (Sk (w.setCell ⟨T,1,none⟩ (.int .i64 101)) T A c (st1 true 0 ([],e))∧Sp T (T+1) w (w.setCell ⟨T,1,none⟩ (.int .i64 101))):=zhy ⟨by rw [zm6];exact h.setE 101,(Sp.refl _ _ _).set (Nat.le_refl _) (by omega) _ _⟩;obtain ⟨h0,h1,h2,h3,h4,h5⟩:=h;dsimp only [List.length_nil] at h1;clear h5;go_enter Tryz.func227,Tryz.ntmps227;go_wp2_with fail;go_ret;exact ⟨rfl,HF.o⟩
 ·have hl:R.length≠0:=fun e=>hz (List.length_eq_zero_iff.1 e);obtain ⟨n,hn⟩:∃n,R.length=n:=⟨_,rfl⟩;obtain ⟨j,hj⟩:∃j:Nat,(n:Int)-1=j:=⟨n-1,by omega⟩;have hjn:j<n:=by omega
  have HF:Hid (Sk (w.setCell ⟨T,0,none⟩ (.slice A j c)) T A c (st1 true 0 (R,e))∧Sp T (T+1) w (w.setCell ⟨T,0,none⟩ (.slice A j c))):=zhy ⟨by rw [zr4 e hl,show R.length-1=j by omega];exact h.setL j (by show j≤R.length;omega),(Sp.refl _ _ _).set (Nat.le_refl _) (by omega) _ _⟩;obtain ⟨h0,h1,h2,h3,h4,h5,h6⟩:=h
  have hlast:R.getLastD 0=R[j]?.getD 0:=by
   rw [List.getLastD_eq_getLast?,List.getLast?_eq_getElem?];congr 2;omega
  have hle:=h5.len;have hcap:=h5.cap;have hlc:=h5.le;obtain ⟨ad,hA,y0⟩:=h5.at_ (i:=j) (by show j<R.length;omega);subst hA;dsimp only at h1 h2;rw [hn] at h1 hle hlc;have hjc:j≤c:=by omega
  have hn9:n≤9223372036854775807:=by omega
  have HE:Hid (Ending.returned (.int .u8 (R[j]?.getD 0))=Ending.returned (.int .u8 (if R.length=0 then 0 else R.getLastD 0))):=by rw [Hid,if_neg hl,hlast]
  dsimp only;rw [←HE.o];clear HE;generalize R[j]?.getD 0=x at y0;clear h5 h6 hlast hl hz hn;go_enter Tryz.func227,Tryz.ntmps227;go_wp2_with fail;go_ret;exact ⟨rfl,HF.o⟩
theorem zw5 (A:Option Addr) (n c:Nat) (w:World):Calls Tryz.prog 246 #[.slice A n c] w fun e w'=>e=.returned (.func (.func 256) #[] #[.pointer (some ⟨w.heap.size,0,none⟩)])∧w'=w.alloc (.cells #[.slice A n c] 40):=by
 have hmf:∀(fn:Fn) (first cap:Array Value) (w:World),(Instr.makeFunc fn first cap).run Tryz.prog w=.ok (.func fn first cap) w:=fun _ _ _ _=>rfl;go_enter Tryz.func246,Tryz.ntmps246;go_wp2_with fail;go_ret;exact ⟨rfl,rfl⟩
theorem zrq (I:Nat→World→Prop) (K:List Int) (B:Nat) (A:Option Addr) (c m r n:Nat) (hm:K.length=m) (hm9:m≤1000000)
  (hI:∀i W,I i W→Boxed W B 40 (.slice A m c)∧Rd W A c K)
  (hY:∀(i:Nat) (x:Int) (W:World),K[i]?=some x→I (i+1) W→YieldAt Fence.wide n Tryz.prog r #[.int .i64 i,.int .u8 x] W fun e W'=>e=.returned (.bool true)∧I i W')
  (W0:World) (h0:I m W0) :
  CallsIn Fence.wide (n+1) Tryz.prog 256 #[.func (.yield r) #[] #[],.pointer (some ⟨B,0,none⟩)] W0 fun e W'=>(∃v,e=.returned v)∧I 0 W':=by
 have hb:=(hI _ _ h0).1;have hcell:=hb.cell;have hfr:=hb.frozen;have hlt:=hb.lt;have HY:=zhy hY;have HI:=zhy hI;have H0:=zhy h0;have HM:=zhy hm;clear hY hI h0 hb hm;refine callsIn_of_wp Tryz.func256 rfl trivial ?_ rfl;simp only [Tryz.ntmps256,List.size_toArray,List.length_cons,List.length_nil,Nat.reduceAdd,Nat.reduceSub,Array.replicate_succ,Array.replicate_zero,List.push_toArray,List.append_toArray,List.nil_append,List.cons_append];have hw:wrap64 ((m:Int)-1)=m-1:=by unfold wrap64;omega
 gi_wp2;gi_loopw [3] (fun v wr=>∃(i:Nat) (z:Int),i≤m∧z=(i:Int)-1∧v=.int .i64 z∧Hid (I i wr)) (fun v _=>(intOf v+1).toNat)
 case atStart=>exact ⟨m,_,Nat.le_refl _,rfl,by simp [hw],H0⟩
 case round =>
  obtain ⟨i,z,hi,hz,rfl,HI2⟩:=hrel;clear hcell hfr hlt H0 hw;by_cases h0:i=0
  ·subst h0;have hneg:z<0:=by omega
   clear hz;gi_wp2;go_end0;exact ⟨⟨_,rfl⟩,HI2.o⟩
  ·obtain ⟨j,rfl⟩:∃j,i=j+1:=⟨i-1,by omega⟩;obtain rfl:z=(j:Int):=by omega
   obtain ⟨hb,hrd⟩:=HI.o _ _ HI2.o;have hcell:=hb.cell;have hfr:=hb.frozen;have hjm:j<m:=by omega
   have hjk:j<K.length:=by rw [HM.o];exact hjm
   obtain ⟨ad,hA,y0⟩:=hrd.at_ hjk;subst hA;have hx:K[j]?=some K[j]:=zg7 hjk;rw [hx,Option.getD_some] at y0;generalize K[j]=x at hx y0;obtain ⟨fn,tmps,assign,body,hy,hR3⟩:=HY.o j x wr hx HI2.o;have HR3:=zhy hR3;have hlc:=hrd.le;have hw:wrap64 ((j:Int)-1)=j-1:=by unfold wrap64;omega
   clear hR3 hb hrd hx hz h0 hlc hjk;gi_wp2;refine HR3.o.mono ?_;rintro e W3 ⟨rfl,hI3⟩;have HI3:=zhy hI3;clear hI3 hcell hfr y0;gi_wp2;go_roundw
   case rel=>exact ⟨j,_,by omega,rfl,by simp [hw],HI3⟩
   case measure=>simp [intOf,hw]
theorem zp1 {n:Nat} {P:Program} {g:Operand} {ps:Array Tmp} {assign body:Code} {Q:Exit→Act→World→Prop} {a:Act} {w:World} (gf:Nat) (lb:Array Value)
  (hg:a.eval g=.func (.func gf) #[] lb) (eg:∀args w,(callFunc gf args).run P w=.ok (.enter gf args) w)
  (h:∀lp:Loop,lp.state=.ready→lp.pending=none→lp.tmps=a.tmps→lp.params=ps→lp.assign=assign→lp.body=body →
   CallsIn Fence.wide n P gf (#[.func (.yield (w.heap.size+1)) #[] #[]]++lb) ((w.alloc (.deferred (some []))).alloc (.loop lp)) (rangePost Fence.wide (n+1) P (w.heap.size+1) Q { a with defers:={ target:=.collected w.heap.size,args:=#[]}::a.defers })) :
  (Code.rangeFunc g ps assign body).wpIn Fence.wide (n+1) P Q a w:=by
 refine wpIn_rangeFunc fun fn hfn=>?_;obtain ⟨lp,hlp⟩:∃lp:Loop,lp={ state:=.ready,pending:=none,fn,tmps:=a.tmps,params:=ps,assign,body,defers:=w.heap.size }:=⟨_,rfl⟩
 refine ⟨w.heap.size+1,[{ target:=.collected w.heap.size,args:=#[]}],(w.alloc (.deferred (some []))).alloc (.loop lp),{ target:=.fn (.func gf) lb,args:=#[.func (.yield (w.heap.size+1)) #[] #[]]},(w.alloc (.deferred (some []))).alloc (.loop lp),gf,
  #[.func (.yield (w.heap.size+1)) #[] #[]]++lb,(w.alloc (.deferred (some []))).alloc (.loop lp),?_,?_,?_,?_,fun _=>(by omega),?_⟩
 ·rw [hlp];exact run_enterLoop_outer fn _ _ _ _
 ·simp only [resolve,hg];simp [go_sem]
 ·intro f' hf';exact trivial
 ·simp [invoke,go_sem,eg]
 ·exact h lp (by rw [hlp]) (by rw [hlp]) (by rw [hlp]) (by rw [hlp]) (by rw [hlp]) (by rw [hlp])
theorem qcm {lp:Loop} (h1:lp.state=.ready) (h2:lp.pending=none):({ lp with state:=if (none:Option Code).isNone=true then .ready else .done,pending:=none }:Loop)=lp:=by
 cases lp;simp at h1 h2 ⊢;exact ⟨h1.symm,h2.symm⟩
structure Bq where
 b:Nat
 s:Nat
 d:Nat
 r:Nat
def Bq.ok (k:Bq) (T:Nat):Prop:=T<k.b∧k.b<k.s∧k.s<k.d∧k.d<k.r
def Fq (k:Bq) (T:Nat) (W:World) (v:Value) (lp:Loop):Prop:=
 Boxed W k.b 284 (.pointer (some ⟨T,0,none⟩))∧Boxed W k.s 40 v∧W.heap[k.d]?=some (.deferred (some []))∧W.heap[k.r]?=some (.loop lp)
section
variable {k : Bq} {T c : Nat} {W W' w : World} {v : Value} {lp : Loop} {A : Option Addr} {l : List Int} {s : List Int × Int}
theorem Fq.sp (h:Fq k T W v lp) (hk:k.ok T) (hp:Sp T (T+1) W W'):Fq k T W' v lp:=by
 obtain ⟨k1,k2,k3,k4⟩:=hk;obtain ⟨h1,h2,h3,h4⟩:=h;have o:∀{j:Nat} {o:Obj},W.heap[j]?=some o→T+1≤j→W'.heap[j]?=some o:=fun {j o} hj hT=>(hp.block j (zg9.1 hj).1 (.inr hT)).trans hj;exact ⟨o h1 (by omega),o h2 (by omega),o h3 (by omega),o h4 (by omega)⟩
theorem Fq.putR (h:Fq k T W v lp) (hk:k.ok T) (q:Loop):Fq k T (W.putObj k.r (.loop q)) v q:=by
 obtain ⟨k1,k2,k3,k4⟩:=hk;obtain ⟨h1,h2,h3,h4⟩:=h;have o:=fun j (hj:j≠k.r)=>World.putObj_heap_other (w:=W) (o:=.loop q) hj;exact ⟨(o _ (by omega)).trans h1,(o _ (by omega)).trans h2,(o _ (by omega)).trans h3,World.putObj_heap_same (zg9.1 h4).1⟩
theorem Rt.put (h:Rt W T A c l) {r:Nat} {o':Obj} (hr:W.heap[r]?=some o') (hn:∀p:Addr,p.block=r→W.cell? p=none) (o:Obj):Rt (W.putObj r o) T A c l:=by
 refine ⟨⟨h.1.1,h.1.2.1,h.1.2.2.1,?_⟩,h.2⟩;rcases h.1.2.2.2 with hn' | ⟨ad,ha,hc⟩
 ·exact .inl hn'
 ·refine .inr ⟨ad,ha,fun i x hx=>?_⟩;have hc:=hc i x hx;have hne:(ad.add i).block≠r:=fun e=>by rw [hn _ e] at hc;cases hc
  exact (World.cell?_of_block (w:=W) (World.putObj_heap_other hne)).trans hc
theorem zao {r:Nat} {lp:Loop} (hr:W.heap[r]?=some (.loop lp)) (p:Addr) (hp:p.block=r):W.cell? p=none:=by
 subst hp;simp [World.cell?,hr]
theorem zl0 {r:Nat} {x:Option (List Deferred)} (hr:W.heap[r]?=some (.deferred x)) (p:Addr) (hp:p.block=r):W.cell? p=none:=by
 subst hp;simp [World.cell?,hr]
theorem Sk.put (h:Sk W T A c s) {r:Nat} {o':Obj} (hr:W.heap[r]?=some o') (hn:∀p:Addr,p.block=r→W.cell? p=none) (hT:T≠r) (o:Obj):Sk (W.putObj r o) T A c s:=by
 obtain ⟨h0,h1,h2,h3,h4,h5⟩:=h;have e:=World.putObj_heap_other (w:=W) (o:=o) hT;have f:∀i,(W.putObj r o).frozen? ⟨T,i,none⟩=W.frozen? ⟨T,i,none⟩:=fun i=>by simp [World.frozen?,e]
 exact ⟨by rw [World.putObj_size];exact h0,(World.cell?_of_block (w:=W) e).trans h1,(World.cell?_of_block (w:=W) e).trans h2,(f 0).trans h3,(f 1).trans h4,h5.put hr hn o⟩
theorem Sp.putN (h:Sp T (T+1) w W) {r:Nat} (hr:w.heap.size≤r) (o:Obj):Sp T (T+1) w (W.putObj r o):=
 ⟨h.os,h.tape,h.output,by rw [World.putObj_size];exact h.size,fun i hi hh=>(World.putObj_heap_other (by omega)).trans (h.block i hi hh)⟩
end
attribute [local go_sem] Oper.semAt_some
def Jq (z:Bool) (k:Bq) (T:Nat) (A2:Option Addr) (m c2:Nat) (K:List Int) (A:Option Addr) (c:Nat) (s:List Int×Int) (lp:Loop) (w:World) (i:Nat) (W:World):Prop:=
 Fq k T W (.slice A2 m c2) lp∧Rt W T A2 c2 K∧Sk W T A c ((K.drop i).foldr (st1 z) s)∧Sp T (T+1) w W
theorem zgk {z:Bool} {K:List Int} {i:Nat} {x:Int} {s:List Int×Int} (hx:K[i]?=some x):(K.drop i).foldr (st1 z) s=st1 z x ((K.drop (i+1)).foldr (st1 z) s):=by
 obtain ⟨hi,rfl⟩:=zg8.1 hx;rw [List.drop_eq_getElem_cons hi,List.foldr_cons]
theorem jp {z:Bool} {k:Bq} {T c c2 m i:Nat} {A A2:Option Addr} {K:List Int} {s:List Int×Int} {lp:Loop} {w W:World} {a:Act} {t:List Int×Int} (hk:k.ok T) (hT:w.heap.size=k.b) (h1:lp.state=.ready) (h2:lp.pending=none)
  (HP:Fq k T W (.slice A2 m c2) { lp with state:=.busy }) (HR:Rt W T A2 c2 K) (HS:Sk W T A c t) (ht:t=(K.drop i).foldr (st1 z) s) (HSp:Sp T (T+1) w W) :
  roundPost Tryz.prog k.r (fun e W'=>e=.returned (.bool true)∧Jq z k T A2 m c2 K A c s lp w i W') .normal a W:=by
 subst ht;obtain ⟨k1,k2,k3,k4⟩:=id hk;refine ⟨_,_,run_endRound none HP.2.2.2,rfl,?_,HR.put HP.2.2.2 (zao HP.2.2.2) _,HS.put HP.2.2.2 (zao HP.2.2.2) (by omega) _,HSp.putN (by omega) _⟩
 have h':Fq k T (W.putObj k.r (.loop { lp with state:=if (none:Option Code).isNone=true then .ready else .done,pending:=none })) (.slice A2 m c2) lp:=by
  rw [qcm h1 h2];exact HP.putR hk lp
 exact h'
theorem zqh (T:Nat) (A:Option Addr) (c:Nat) (s:List Int×Int) (A2:Option Addr) (c2 m:Nat) (K:List Int) (w:World) (h:Sk w T A c s) (hR:Rt w T A2 c2 K) (hm:K.length=m) (hm9:m≤1000000) :
  Calls Tryz.prog 228 #[.pointer (some ⟨T,0,none⟩),.slice A2 m c2] w fun r w'=>r=.returned (.tuple #[])∧Sk w' T A c (K.foldr (st1 false) s)∧Sp T (T+1) w w':=by
 have HS:=zhy h;have HR:=zhy hR;have hT:=h.1;clear h hR;refine (callsIn_wide (n:=3)).1 ?_;refine callsIn_of_wp_marks Tryz.func228 rfl trivial ?_ rfl;simp only [Tryz.ntmps228,List.size_toArray,List.length_cons,List.length_nil,Nat.reduceAdd,Nat.reduceSub,Array.replicate_succ,Array.replicate_zero,List.push_toArray,List.append_toArray,List.nil_append,List.cons_append];gi_wp2_with (refine ⟨trivial,?_⟩;gi_at_call 246;refine (callsIn_wide.2 (zw5 A2 m c2 _)).mono ?_;rintro e w1 ⟨rfl,rfl⟩);have hz:((w.alloc (.cells #[.pointer (some ⟨T,0,none⟩)] 284)).alloc (.cells #[.slice A2 m c2] 40)).heap.size=w.heap.size+1+1:=by simp
 have b0:=(Boxed.new w 284 (.pointer (some ⟨T,0,none⟩))).alloc (.cells #[.slice A2 m c2] 40);have b1:=Boxed.new (w.alloc (.cells #[.pointer (some ⟨T,0,none⟩)] 284)) 40 (.slice A2 m c2);have hB:=qae (w:=w) (a:=.cells #[.pointer (some ⟨T,0,none⟩)] 284) (b:=.cells #[.slice A2 m c2] 40);rw [qn] at b1;generalize (w.alloc (.cells #[.pointer (some ⟨T,0,none⟩)] 284)).alloc (.cells #[.slice A2 m c2] 40)=w1 at b0 b1 hB hz ⊢;generalize hsB:w.heap.size+1=sB at b0 b1 hz ⊢;refine zp1 256 #[.pointer (some ⟨sB,0,none⟩)] rfl (enters_of Tryz.func256 (by kernel_rfl) rfl) (fun lp q1 q2 q3 q4 q5 q6=>?_);obtain ⟨k,kb,ks,kd,kr⟩:∃k:Bq,w.heap.size=k.b∧sB=k.s∧w1.heap.size=k.d∧w1.heap.size+1=k.r:=⟨⟨_,_,_,_⟩,rfl,rfl,rfl,rfl⟩;subst ks;have hk:k.ok T:=by unfold Bq.ok;omega
 have hJ0:Jq false k T A2 m c2 K A c s lp w m ((w1.alloc (.deferred (some []))).alloc (.loop lp)):=by
  have hd:=World.alloc_heap_new w1 (.deferred (some []));have hr:=World.alloc_heap_new (w1.alloc (.deferred (some []))) (.loop lp);rw [qn,kr] at hr;rw [kd] at hd;have hbb:Below w.heap.size w ((w1.alloc (.deferred (some []))).alloc (.loop lp)):=(hB.alloc hB.size _).alloc (by rw [qn];have:=hB.size;omega) _;refine ⟨⟨?_,(b1.alloc _).alloc _,?_,hr⟩,HR.o.keep hbb,?_,Sp.of_below hbb⟩
  ·rw [←kb];exact (b0.alloc _).alloc _
  ·rw [Below.heap_alloc _ _ _ (by rw [qn];omega)];exact hd
  ·rw [List.drop_of_length_le (by omega)];exact HS.o.keep hbb
 have HJ0:=zhy hJ0;clear hJ0 b0 b1;rw [kb] at q3;rw [kb,kr,kd]
 have hY:Hid (∀(i:Nat) (x:Int) (W:World),K[i]?=some x→Jq false k T A2 m c2 K A c s lp w (i+1) W→YieldAt Fence.wide 1 Tryz.prog k.r #[.int .i64 i,.int .u8 x] W fun e W'=>e=.returned (.bool true)∧Jq false k T A2 m c2 K A c s lp w i W'):=by
  intro i x W hx hI;obtain ⟨hP,hRt,hS,hSp⟩:=hI;have hdf:=zgk (z:=false) (s:=s) hx;obtain ⟨⟨R,e⟩,ht⟩:∃t,(K.drop (i+1)).foldr (st1 false) s=t:=⟨_,rfl⟩;rw [ht] at hS hdf;have hy:=run_yield (P:=Tryz.prog) (args:=#[.int .i64 i,.int .u8 x]) hP.2.2.2 (by rw [q4];rfl);rw [q3,q4,q5,q6] at hy;refine ⟨_,_,_,_,hy,roundIn_of_wpIn trivial ?_⟩;have hrun:=run_beginRound (P:=Tryz.prog) hP.2.2.2 q1;have HP:=zhy (hP.putR hk { lp with state:=.busy });have HR1:=zhy (hRt.put hP.2.2.2 (zao hP.2.2.2) (.loop { lp with state:=.busy }));have HS1:=zhy (hS.put hP.2.2.2 (zao hP.2.2.2) (by have:=hk;unfold Bq.ok at this;omega) (.loop { lp with state:=.busy }));have HSp:=zhy (hSp.putN (by have:=hk;unfold Bq.ok at this;omega) (r:=k.r) (.loop { lp with state:=.busy }));have hc1:=HP.o.1.cell;have HDF:=zhy hdf;have Q1:=zhy q1;have Q2:=zhy q2;clear hP hRt hS hSp hy hx hdf ht q1 q2 q3 q4 q5 q6 HR HS HJ0;gi_wp2;refine ⟨_,hrun,?_⟩;clear hrun;generalize W.putObj k.r (.loop { lp with state:=.busy })=Wb at HP HR1 HS1 HSp hc1 ⊢;gi_wp2;refine ⟨trivial,?_⟩;refine (CallsIn.inRound _ (callsIn_wide.2 (zo3 T A c (R,e) Wb HS1.o))).mono ?_;rintro r w3 ⟨rfl,hs3,hp3⟩;have HP3:=zhy (HP.o.sp hk hp3);have HR3:=zhy (HR1.o.sp hp3);have HSp3:=zhy (HSp.o.trans hp3);have hcb:=HP3.o.1.cell;clear HP HR1 HS1 HSp hc1 hp3;by_cases hR0:R=[]
  ·subst hR0;rw [zm6] at hs3;have HS3:=zhy hs3;have HT:Hid ((([]:List Int),(101:Int))=(K.drop i).foldr (st1 false) s):=by rw [Hid,HDF.o];rfl
   obtain ⟨g0,g1,g2,g3,g4,g5⟩:=hs3;dsimp only [List.length_nil,if_true] at g1 g2 ⊢;clear g5;by_cases hx0:x=0
   ·subst hx0;gi_wp2;exact jp hk kb Q1.o Q2.o HP3.o HR3.o HS3.o HT.o HSp3.o
   ·have hne:((0:Int) != x)=true:=by simpa using fun e=>hx0 e.symm
    gi_wp2;exact jp hk kb Q1.o Q2.o HP3.o HR3.o HS3.o HT.o HSp3.o
  ·have hl:R.length≠0:=fun e=>hR0 (List.length_eq_zero_iff.1 e);rw [zr4 _ hl] at hs3;have HS3:=zhy hs3
   have hnx:(K.drop i).foldr (st1 false) s=(R.take (R.length-1),if R.getLastD 0≠x∧e=0 then 100 else e):=by
    rw [HDF.o,st1,if_neg hl,List.dropLast_eq_take];simp
   have HNX:=zhy hnx;have HV:Hid ((if R.length=0 then 0 else R.getLastD 0)=R.getLastD 0):=by rw [Hid,if_neg hl]
   dsimp only;rw [HV.o];obtain ⟨g0,g1,g2,g3,g4,g5⟩:=hs3;dsimp only at g1 g2;clear g5 hnx hR0 HV hl;generalize R.getLastD 0=y at HNX ⊢;by_cases hxy:y=x
   ·subst hxy;have HT:Hid ((R.take (R.length-1),e)=(K.drop i).foldr (st1 false) s):=by rw [Hid,HNX.o,if_neg (fun h=>h.1 rfl)]
    gi_wp2;exact jp hk kb Q1.o Q2.o HP3.o HR3.o HS3.o HT.o HSp3.o
   ·have hne:(y != x)=true:=by simpa using hxy
    by_cases he:e=0
    ·subst he;have HT:Hid ((R.take (R.length-1),(100:Int))=(K.drop i).foldr (st1 false) s):=by rw [Hid,HNX.o,if_pos ⟨hxy,rfl⟩]
     gi_wp2;have hq:Sp T (T+1) w3 (w3.setCell ⟨T,1,none⟩ (.int .i64 100)):=(Sp.refl _ _ _).set (Nat.le_refl _) (by omega) _ _;exact jp hk kb Q1.o Q2.o (HP3.o.sp hk hq) (HR3.o.sp hq) (HS3.o.setE 100) HT.o (HSp3.o.trans hq)
    ·have he2:(e==0)=false:=by simpa using he
     have HT:Hid ((R.take (R.length-1),e)=(K.drop i).foldr (st1 false) s):=by rw [Hid,HNX.o,if_neg (fun h=>he h.2)]
     gi_wp2;exact jp hk kb Q1.o Q2.o HP3.o HR3.o HS3.o HT.o HSp3.o
 clear q3 q4 q5 q6;refine (zrq (Jq false k T A2 m c2 K A c s lp w) K k.s A2 c2 m k.r 1 hm hm9 (fun i W hi=>⟨hi.1.2.1,hi.2.1.1⟩) hY.o _ HJ0.o).mono ?_;clear hY HJ0;rintro e2 W2 ⟨⟨v2,rfl⟩,hP,hRt,hS,hSp⟩;have hend:=run_endLoop (P:=Tryz.prog) hP.2.2.2 (by rw [q1];simp);rw [q2] at hend;refine ⟨none,_,hend,?_⟩;have hrec:({ lp with state:=.exhausted,pending:=none }:Loop)={ lp with state:=.exhausted }:=by rw [←q2]
 rw [hrec];obtain ⟨k1,k2,k3,k4⟩:=id hk;have HP:=zhy (hP.putR hk { lp with state:=.exhausted });have HS2:=zhy (hS.put hP.2.2.2 (zao hP.2.2.2) (by omega) (.loop { lp with state:=.exhausted }));have HSp:=zhy (hSp.putN (r:=k.r) (by omega) (.loop { lp with state:=.exhausted }));clear hP hRt hS hSp hend hrec HR HS;generalize ({ lp with state:=.exhausted }:Loop)=lq at HP HS2 HSp ⊢;generalize W2.putObj k.r (.loop lq)=W3 at HP HS2 HSp ⊢;dsimp only;gi_wp2;refine ⟨by simp,.inl ⟨_,_,rfl,run_takeDeferred HP.o.2.2.1,?_⟩⟩;have h1:=HS2.o.put HP.o.2.2.1 (zl0 HP.o.2.2.1) (by omega) (.deferred none);have h2:=HSp.o.putN (r:=k.d) (by omega) (.deferred none);rw [List.drop_zero] at h1;simp [LeavesInM,LeavesIn,results,Tryz.results228,go_sem];exact ⟨h1,h2⟩
theorem zkn (T:Nat) (A:Option Addr) (c:Nat) (s:List Int×Int) (A2:Option Addr) (c2 m:Nat) (K:List Int) (w:World) (h:Sk w T A c s) (hR:Rt w T A2 c2 K) (hm:K.length=m) (hm9:m≤1000000) :
  Calls Tryz.prog 231 #[.pointer (some ⟨T,0,none⟩),.slice A2 m c2] w fun r w'=>r=.returned (.tuple #[])∧Sk w' T A c (K.foldr (st1 true) s)∧Sp T (T+1) w w':=by
 have HS:=zhy h;have HR:=zhy hR;have hT:=h.1;clear h hR;refine (callsIn_wide (n:=3)).1 ?_;refine callsIn_of_wp_marks Tryz.func231 rfl trivial ?_ rfl;simp only [Tryz.ntmps231,List.size_toArray,List.length_cons,List.length_nil,Nat.reduceAdd,Nat.reduceSub,Array.replicate_succ,Array.replicate_zero,List.push_toArray,List.append_toArray,List.nil_append,List.cons_append];gi_wp2_with (refine ⟨trivial,?_⟩;gi_at_call 246;refine (callsIn_wide.2 (zw5 A2 m c2 _)).mono ?_;rintro e w1 ⟨rfl,rfl⟩);have hz:((w.alloc (.cells #[.pointer (some ⟨T,0,none⟩)] 284)).alloc (.cells #[.slice A2 m c2] 40)).heap.size=w.heap.size+1+1:=by simp
 have b0:=(Boxed.new w 284 (.pointer (some ⟨T,0,none⟩))).alloc (.cells #[.slice A2 m c2] 40);have b1:=Boxed.new (w.alloc (.cells #[.pointer (some ⟨T,0,none⟩)] 284)) 40 (.slice A2 m c2);have hB:=qae (w:=w) (a:=.cells #[.pointer (some ⟨T,0,none⟩)] 284) (b:=.cells #[.slice A2 m c2] 40);rw [qn] at b1;generalize (w.alloc (.cells #[.pointer (some ⟨T,0,none⟩)] 284)).alloc (.cells #[.slice A2 m c2] 40)=w1 at b0 b1 hB hz ⊢;generalize hsB:w.heap.size+1=sB at b0 b1 hz ⊢;refine zp1 256 #[.pointer (some ⟨sB,0,none⟩)] rfl (enters_of Tryz.func256 (by kernel_rfl) rfl) (fun lp q1 q2 q3 q4 q5 q6=>?_);obtain ⟨k,kb,ks,kd,kr⟩:∃k:Bq,w.heap.size=k.b∧sB=k.s∧w1.heap.size=k.d∧w1.heap.size+1=k.r:=⟨⟨_,_,_,_⟩,rfl,rfl,rfl,rfl⟩;subst ks;have hk:k.ok T:=by unfold Bq.ok;omega
 have hJ0:Jq true k T A2 m c2 K A c s lp w m ((w1.alloc (.deferred (some []))).alloc (.loop lp)):=by
  have hd:=World.alloc_heap_new w1 (.deferred (some []));have hr:=World.alloc_heap_new (w1.alloc (.deferred (some []))) (.loop lp);rw [qn,kr] at hr;rw [kd] at hd;have hbb:Below w.heap.size w ((w1.alloc (.deferred (some []))).alloc (.loop lp)):=(hB.alloc hB.size _).alloc (by rw [qn];have:=hB.size;omega) _;refine ⟨⟨?_,(b1.alloc _).alloc _,?_,hr⟩,HR.o.keep hbb,?_,Sp.of_below hbb⟩
  ·rw [←kb];exact (b0.alloc _).alloc _
  ·rw [Below.heap_alloc _ _ _ (by rw [qn];omega)];exact hd
  ·rw [List.drop_of_length_le (by omega)];exact HS.o.keep hbb
 have HJ0:=zhy hJ0;clear hJ0 b0 b1;rw [kb] at q3;rw [kb,kr,kd]
 have hY:Hid (∀(i:Nat) (x:Int) (W:World),K[i]?=some x→Jq true k T A2 m c2 K A c s lp w (i+1) W→YieldAt Fence.wide 1 Tryz.prog k.r #[.int .i64 i,.int .u8 x] W fun e W'=>e=.returned (.bool true)∧Jq true k T A2 m c2 K A c s lp w i W'):=by
  intro i x W hx hI;obtain ⟨hP,hRt,hS,hSp⟩:=hI;have hdf:=zgk (z:=true) (s:=s) hx;obtain ⟨⟨R,e⟩,ht⟩:∃t,(K.drop (i+1)).foldr (st1 true) s=t:=⟨_,rfl⟩;rw [ht] at hS hdf;have hy:=run_yield (P:=Tryz.prog) (args:=#[.int .i64 i,.int .u8 x]) hP.2.2.2 (by rw [q4];rfl);rw [q3,q4,q5,q6] at hy;refine ⟨_,_,_,_,hy,roundIn_of_wpIn trivial ?_⟩;have hrun:=run_beginRound (P:=Tryz.prog) hP.2.2.2 q1;have HP:=zhy (hP.putR hk { lp with state:=.busy });have HR1:=zhy (hRt.put hP.2.2.2 (zao hP.2.2.2) (.loop { lp with state:=.busy }));have HS1:=zhy (hS.put hP.2.2.2 (zao hP.2.2.2) (by have:=hk;unfold Bq.ok at this;omega) (.loop { lp with state:=.busy }));have HSp:=zhy (hSp.putN (by have:=hk;unfold Bq.ok at this;omega) (r:=k.r) (.loop { lp with state:=.busy }));have hc1:=HP.o.1.cell;have HX:=zhy (hRt.1.1 x (List.mem_of_getElem? hx));have HDF:=zhy hdf;have Q1:=zhy q1;have Q2:=zhy q2;clear hP hRt hS hSp hy hx hdf ht q1 q2 q3 q4 q5 q6 HR HS HJ0;gi_wp2;refine ⟨_,hrun,?_⟩;clear hrun;generalize W.putObj k.r (.loop { lp with state:=.busy })=Wb at HP HR1 HS1 HSp hc1 ⊢;by_cases hx0:x=0
  ·subst hx0;gi_wp2;refine ⟨trivial,?_⟩;refine (CallsIn.inRound _ (callsIn_wide.2 (zo3 T A c (R,e) Wb HS1.o))).mono ?_;rintro r w3 ⟨rfl,hs3,hp3⟩;generalize (if ((R,e):List Int×Int).1.length=0 then (0:Int) else ((R,e):List Int×Int).1.getLastD 0)=y;gi_wp2;exact jp hk kb Q1.o Q2.o (HP.o.sp hk hp3) (HR1.o.sp hp3) hs3 HDF.o.symm (HSp.o.trans hp3)
  ·have hne:(x==0)=false:=by simpa using hx0
   have hT1:=HS1.o.1;have hr1:Rt (Wb.alloc (.cells #[.int .u8 x] 5)) T (some ⟨Wb.heap.size,0,none⟩) 1 [x]:=⟨qo Wb x HX.o,fun ad e' _=>by injection e' with e';subst e';show Wb.heap.size≠T;omega⟩;have HQ:=zhy hr1
   have HST:Hid (st1 false x (R,e)=st1 true x (R,e)):=by
    rw [Hid];unfold st1;simp [hx0]
   clear hr1;gi_wp2;refine ⟨trivial,?_⟩;refine (CallsIn.inRound _ (callsIn_wide.2 (zqh T A c (R,e) _ 1 1 [x] _ (HS1.o.keep qh) HQ.o rfl (by omega)))).mono ?_;rintro r w3 ⟨rfl,hs3,hp3⟩;have hp4:=(Sp.of_below (lo:=T) (hi:=T+1) (qh (w:=Wb) (a:=.cells #[.int .u8 x] 5))).trans hp3;gi_wp2;exact jp hk kb Q1.o Q2.o (HP.o.sp hk hp4) (HR1.o.sp hp4) hs3 (by rw [HDF.o,List.foldr_cons,List.foldr_nil,HST.o]) (HSp.o.trans hp4)
 clear q3 q4 q5 q6;refine (zrq (Jq true k T A2 m c2 K A c s lp w) K k.s A2 c2 m k.r 1 hm hm9 (fun i W hi=>⟨hi.1.2.1,hi.2.1.1⟩) hY.o _ HJ0.o).mono ?_;clear hY HJ0;rintro e2 W2 ⟨⟨v2,rfl⟩,hP,hRt,hS,hSp⟩;have hend:=run_endLoop (P:=Tryz.prog) hP.2.2.2 (by rw [q1];simp);rw [q2] at hend;refine ⟨none,_,hend,?_⟩;have hrec:({ lp with state:=.exhausted,pending:=none }:Loop)={ lp with state:=.exhausted }:=by rw [←q2]
 rw [hrec];obtain ⟨k1,k2,k3,k4⟩:=id hk;have HP:=zhy (hP.putR hk { lp with state:=.exhausted });have HS2:=zhy (hS.put hP.2.2.2 (zao hP.2.2.2) (by omega) (.loop { lp with state:=.exhausted }));have HSp:=zhy (hSp.putN (r:=k.r) (by omega) (.loop { lp with state:=.exhausted }));clear hP hRt hS hSp hend hrec HR HS;generalize ({ lp with state:=.exhausted }:Loop)=lq at HP HS2 HSp ⊢;generalize W2.putObj k.r (.loop lq)=W3 at HP HS2 HSp ⊢;dsimp only;gi_wp2;refine ⟨by simp,.inl ⟨_,_,rfl,run_takeDeferred HP.o.2.2.1,?_⟩⟩;have h1:=HS2.o.put HP.o.2.2.1 (zl0 HP.o.2.2.1) (by omega) (.deferred none);have h2:=HSp.o.putN (r:=k.d) (by omega) (.deferred none);rw [List.drop_zero] at h1;simp [LeavesInM,LeavesIn,results,Tryz.results231,go_sem];exact ⟨h1,h2⟩
abbrev zyr (y:Ma) (d:Md) (x:Mc) (m:Mh):Value:=.agg #[.slice y.G d.g.length y.gc,.slice y.P d.p.length y.pc,.slice y.A d.s.length y.c,.int .i64 d.i,.slice x.A m.a.length x.c,.slice x.B m.l.length x.d,.int .u8 m.r,.bool m.q,.int .i64 m.f,.int .i64 m.s,.int .i64 m.h,.slice x.D x.k x.e]
abbrev zw (y:Ma) (d:Md) (x:Mc) (m:Mh):Obj:=.cells #[.slice y.G d.g.length y.gc,.slice y.P d.p.length y.pc,.slice y.A d.s.length y.c,.int .i64 d.i,.slice x.A m.a.length x.c,.slice x.B m.l.length x.d,.int .u8 m.r,.bool m.q,.int .i64 m.f,.int .i64 m.s,.int .i64 m.h,.slice x.D x.k x.e] 166
def zd6 (d:Md) (m:Mh) (x:Ins):Int:=
 if x.1=1 then zej d.p x.2.1.toNat else
 if x.1=2∨x.1=3 then (zaz m)[x.2.1.toNat]?.getD 0 else
 if x.1=4∨x.1=5 then zej d.g x.2.1.toNat else
 if x.1=30 then (ji d x.2.1.toNat).r else m.r
theorem zt3 (y:Ma) (d:Md) (x:Mc) (m:Mh) (o a z:Int) (w:World) (b1:m.a.length≤1000) (b2:m.l.length≤1000) :
  Calls Tryz.prog 157 #[zyr y d x m,.agg #[.int .u8 o,.int .i64 a,.int .i64 z]] w fun e w'=>e=.returned (.bool (zab d m (o,a,z)))∧Below w.heap.size w w':=by
 have HB:Hid (Below w.heap.size w ((w.alloc (zw y d x m)).alloc (.cells #[.int .u8 o,.int .i64 a,.int .i64 z] 57))):=zhy qae
 have hab:IntKind.i64.wrap ((m.a.length:Int)+m.l.length)=((m.a.length+m.l.length:Nat):Int):=by
  simp [IntKind.wrap,IntKind.signed,IntKind.bits,go_sem];omega
 by_cases h1:o=1
 ·subst h1;go_enter Tryz.func157,Tryz.ntmps157;go_wp2_with fail;go_ret;exact ⟨by simp [zab],HB.o⟩
 have e1:(o==1)=false:=by simpa using h1
 by_cases h2:o=2
 ·subst h2;go_enter Tryz.func157,Tryz.ntmps157;go_wp2_with fail;go_ret;exact ⟨by simp [zab],HB.o⟩
 have e2:(o==2)=false:=by simpa using h2
 by_cases h3:o=3
 ·subst h3;go_enter Tryz.func157,Tryz.ntmps157;go_wp2_with fail;go_ret;exact ⟨by simp [zab],HB.o⟩
 have e3:(o==3)=false:=by simpa using h3
 by_cases h4:o=4
 ·subst h4;go_enter Tryz.func157,Tryz.ntmps157;go_wp2_with fail;go_ret;exact ⟨by simp [zab],HB.o⟩
 have e4:(o==4)=false:=by simpa using h4
 by_cases h5:o=5
 ·subst h5;go_enter Tryz.func157,Tryz.ntmps157;go_wp2_with fail;go_ret;exact ⟨by simp [zab],HB.o⟩
 have e5:(o==5)=false:=by simpa using h5
 by_cases h30:o=30
 ·subst h30;go_enter Tryz.func157,Tryz.ntmps157;go_wp2_with fail;go_ret;exact ⟨by simp [zab],HB.o⟩
 have e30:(o==30)=false:=by simpa using h30
 go_enter Tryz.func157,Tryz.ntmps157;go_wp2_with fail;go_ret;exact ⟨by simp [zab,h1,h2,h3,h4,h5,h30],HB.o⟩
theorem zqs (y:Ma) (d:Md) (x:Mc) (m:Mh) (n:Nat) (w:World) (hx:Hd w x m) (b1:m.a.length≤1000) (b2:m.l.length≤1000) (hn:n<m.a.length+m.l.length) :
  Calls Tryz.prog 247 #[zyr y d x m,.int .i64 n] w fun e w'=>e=.returned (.int .u8 ((zaz m)[n]?.getD 0))∧Below w.heap.size w w':=by
 have HB:Hid (Below w.heap.size w (w.alloc (zw y d x m))):=zhy qh;have hx1:=hx.keep (qh (w:=w) (a:=zw y d x m));by_cases hc:n<m.a.length
 ·obtain ⟨ad,hA,y0⟩:=hx1.1.at_ hc;have e0:(zaz m)[n]?=m.a[n]?:=by rw [zaz,List.getElem?_append_left hc]
  rw [e0];generalize m.a[n]?.getD 0=k at y0;obtain ⟨XA,xc,XB,xd,XD,xk,xe⟩:=x;dsimp only at hA;subst hA;clear hx hx1 e0;go_enter Tryz.func247,Tryz.ntmps247;go_wp2_with fail;go_ret;exact ⟨rfl,HB.o⟩
 ·obtain ⟨j,hj⟩:∃j:Nat,(n:Int)-m.a.length=j:=⟨n-m.a.length,by omega⟩;have hjl:j<m.l.length:=by omega
  obtain ⟨ad,hA,y0⟩:=hx1.2.1.at_ hjl;have e0:(zaz m)[n]?=m.l[j]?:=by rw [zaz,List.getElem?_append_right (by omega)];congr 1;omega
  rw [e0];generalize m.l[j]?.getD 0=k at y0;obtain ⟨XA,xc,XB,xd,XD,xk,xe⟩:=x;dsimp only at hA;subst hA
  have hw:IntKind.i64.wrap ((n:Int)-m.a.length)=(j:Int):=by
   rw [hj];simp [IntKind.wrap,IntKind.signed,IntKind.bits,go_sem];omega
  clear hx hx1 e0;go_enter Tryz.func247,Tryz.ntmps247;go_wp2_with fail;go_ret;exact ⟨rfl,HB.o⟩
theorem zml {w:World} {A:Option Addr} {c:Nat} {L:List Vlu} (h:Rv w A c L) (b:Nat):0≤zej L b∧zej L b<256:=by
 unfold zej;cases hb:L[b]? with
 | none=>simp
 | some v=>exact (h.1 v (List.mem_of_getElem? hb)).1
theorem zrj {w:World} {y:Ma} {d:Md} (h:Hq w y d) {b:Nat} (hb:b<d.s.length):∃(ad:Addr) (z:Me),y.A=some ad∧At8 w (ad.add (b*8)) z∧z.ok w∧z.m=ji d b∧y.Z[b]?=some z∧d.s[b]?=some (z.m,z.k):=by
 have hzl:=h.zlen;have hbz:b<y.Z.length:=by omega
 obtain ⟨ad,hA,hat,hok⟩:=h.2.2.1.at_ hbz;have e:=h.zat hbz hb;refine ⟨ad,_,hA,hat,hok,?_,zg7 hbz,?_⟩
 ·rw [ji,zg7 hb,e];rfl
 ·rw [zg7 hb,e]
theorem zhn {w:World} {y:Ma} {d:Md} {x:Mc} {m:Mh} (hq:Hq w y d) (hx:Hd w x m) (i:Ins) (hth:i.1=30→i.2.1.toNat<d.s.length):0≤zd6 d m i∧zd6 d m i<256:=by
 unfold zd6;split
 ·exact zml hq.2.1 _
 split
 ·cases hk:(zaz m)[i.2.1.toNat]? with
  | none=>simp
  | some v =>
   have:=List.mem_of_getElem? hk;rw [zaz] at this;rcases List.mem_append.1 this with h | h
   ·exact hx.1.1 v h
   ·exact hx.2.1.1 v h
 split
 ·exact zml hq.1 _
 split
 ·rename_i h30;obtain ⟨ad,z,-,-,hok,e,-⟩:=zrj hq (hth h30);rw [←e];exact hok.1.2.2.1
 ·exact hx.2.2.1
theorem zf6 (y:Ma) (d:Md) (x:Mc) (m:Mh) (o z:Int) (b:Nat) (w:World) (hq:Hq w y d) (hx:Hd w x m) (b1:m.a.length≤1000) (b2:m.l.length≤1000) (hth:zab d m (o,(b:Int),z)=true) :
  Calls Tryz.prog 229 #[zyr y d x m,.agg #[.int .u8 o,.int .i64 b,.int .i64 z]] w fun e w'=>e=.returned (.int .u8 (zd6 d m (o,(b:Int),z)))∧Below w.heap.size w w':=by
 have hB:Below w.heap.size w ((w.alloc (zw y d x m)).alloc (.cells #[.int .u8 o,.int .i64 b,.int .i64 z] 57)):=qae;have hq1:=hq.keep hB;have hx1:=hx.keep hB;have HB:=zhy hB;have HX:=zhy hx1;clear hB hq hx hx1;by_cases h1:o=1
 ·subst h1;have hb:b<d.p.length:=by simpa [zab] using hth
  obtain ⟨ad,hA,q0,-,-⟩:=hq1.2.1.at_ hb;have hpk:zd6 d m (1,(b:Int),z)=(d.p[b]'hb).1:=by simp [zd6,zej,hb]
  rw [hpk];generalize (d.p[b]'hb).1=k at q0;obtain ⟨G,gc,P,pc,AA,cc,Z⟩:=y;dsimp only at hA;subst hA;clear hpk hq1 hth;go_enter Tryz.func229,Tryz.ntmps229;go_wp2_with fail;go_ret;exact ⟨rfl,HB.o⟩
 have e1:(o==1)=false:=by simpa using h1
 by_cases h2:o=2
 ·subst h2;have hb:b<m.a.length+m.l.length:=by have:=hth;simp [zab] at this;omega
  have HL:=zhy (zqs y d x m b _ HX.o b1 b2 hb);have hpk:zd6 d m (2,(b:Int),z)=(zaz m)[b]?.getD 0:=by simp [zd6]
  rw [hpk];clear hpk hq1 hth;go_enter Tryz.func229,Tryz.ntmps229;go_wp2_with fail;refine HL.o.mono ?_;rintro e w2 ⟨rfl,hb2⟩;have HB2:=zhy (qc HB.o hb2);clear hb2;go_wp2_with fail;go_ret;exact ⟨rfl,HB2.o⟩
 have e2:(o==2)=false:=by simpa using h2
 by_cases h3:o=3
 ·subst h3;have hb:b<m.a.length+m.l.length:=by have:=hth;simp [zab] at this;omega
  have HL:=zhy (zqs y d x m b _ HX.o b1 b2 hb);have hpk:zd6 d m (3,(b:Int),z)=(zaz m)[b]?.getD 0:=by simp [zd6]
  rw [hpk];clear hpk hq1 hth;go_enter Tryz.func229,Tryz.ntmps229;go_wp2_with fail;refine HL.o.mono ?_;rintro e w2 ⟨rfl,hb2⟩;have HB2:=zhy (qc HB.o hb2);clear hb2;go_wp2_with fail;go_ret;exact ⟨rfl,HB2.o⟩
 have e3:(o==3)=false:=by simpa using h3
 by_cases h4:o=4
 ·subst h4;have hb:b<d.g.length:=by simpa [zab] using hth
  obtain ⟨ad,hA,q0,-,-⟩:=hq1.1.at_ hb;have hpk:zd6 d m (4,(b:Int),z)=(d.g[b]'hb).1:=by simp [zd6,zej,hb]
  rw [hpk];generalize (d.g[b]'hb).1=k at q0;obtain ⟨G,gc,P,pc,AA,cc,Z⟩:=y;dsimp only at hA;subst hA;clear hpk hq1 hth;go_enter Tryz.func229,Tryz.ntmps229;go_wp2_with fail;go_ret;exact ⟨rfl,HB.o⟩
 have e4:(o==4)=false:=by simpa using h4
 by_cases h5:o=5
 ·subst h5;have hb:b<d.g.length:=by simpa [zab] using hth
  obtain ⟨ad,hA,q0,-,-⟩:=hq1.1.at_ hb;have hpk:zd6 d m (5,(b:Int),z)=(d.g[b]'hb).1:=by simp [zd6,zej,hb]
  rw [hpk];generalize (d.g[b]'hb).1=k at q0;obtain ⟨G,gc,P,pc,AA,cc,Z⟩:=y;dsimp only at hA;subst hA;clear hpk hq1 hth;go_enter Tryz.func229,Tryz.ntmps229;go_wp2_with fail;go_ret;exact ⟨rfl,HB.o⟩
 have e5:(o==5)=false:=by simpa using h5
 by_cases h30:o=30
 ·subst h30;have hb:b<d.s.length:=by simpa [zab] using hth
  obtain ⟨ad,u,hA,hat,hok,hme,-⟩:=zrj hq1 hb;have q2:=hat.2.2.1;have hpk:zd6 d m (30,(b:Int),z)=u.m.r:=by simp [zd6,←hme]
  rw [hpk];generalize u.m.r=k at q2;obtain ⟨G,gc,P,pc,AA,cc,Z⟩:=y;dsimp only at hA;subst hA;clear hpk hq1 hth hat hok hme;go_enter Tryz.func229,Tryz.ntmps229;go_wp2_with fail;go_ret;exact ⟨rfl,HB.o⟩
 have e30:(o==30)=false:=by simpa using h30
 have hpk:zd6 d m (o,(b:Int),z)=m.r:=by simp [zd6,h1,h2,h3,h4,h5,h30]
 rw [hpk];clear hpk hq1 hth;go_enter Tryz.func229,Tryz.ntmps229;go_wp2_with fail;go_ret;exact ⟨rfl,HB.o⟩
abbrev zik (o:Int) (b:Nat) (z:Int):Obj:=.cells #[.int .u8 o,.int .i64 b,.int .i64 z] 57
theorem qbx {w1:World} {T B e n c:Nat} {A:Option Addr} {l:List Int} (h:w1.ownsRow B e 1 (.slice A n c) n (cel l)) (hb:Byt l) (hT:T<B):Rt w1 T A c l:=by
 refine ⟨qt h hb,fun ad ha h0=>?_⟩;have hn:=(Rd.of_own h hb).2;obtain ⟨g,hg,hgb⟩:=zah h (by omega);rw [ha] at hg;injection hg with hg;subst hg;show g≠T;omega
theorem zz0 (o:Int):Byt (tkL o):=by
 intro x hx;have:∀l∈[[3,1,1],[3,1],[3],[1,1],[1],[2,2],[2],[0],([]:List Int)],∀y∈l,0≤y∧y<256:=by decide
 unfold tkL at hx;repeat' split at hx
 all_goals (simp at hx;try omega)
theorem zvg (o:Int):(tkL o).length≤3:=by
 unfold tkL;repeat' split
 all_goals simp
theorem zq9 (o:Int):Byt (gvL o):=by
 intro x hx;unfold gvL at hx;repeat' split at hx
 all_goals (simp at hx;try omega)
theorem zzt (y:Ma) (d:Md) (x:Mc) (m:Mh) (o z:Int) (b:Nat) (T:Nat) (A:Option Addr) (c:Nat) (s:List Int×Int) (w:World) (hq:Hq w y d) (hx:Hd w x m) (b1:m.a.length≤1000) (b2:m.l.length≤1000) (hth:zab d m (o,(b:Int),z)=true)
  (hS:Sk w T A c s) (hAp:∀(u:Me) (ad:Addr),u∈y.Z→u.x.A=some ad→0<u.m.a.length→ad.block≠T) (hal:∀u∈y.Z,u.m.a.length≤1000) :
  Calls Tryz.prog 193 #[zyr y d x m,.agg #[.int .u8 o,.int .i64 b,.int .i64 z],.pointer (some ⟨T,0,none⟩)] w fun e w' =>
   e=.returned (.tuple #[])∧Sk w' T A c ((K10 d m (o,(b:Int),z)).2.foldr (st1 (K10 d m (o,(b:Int),z)).1) s)∧Sp T (T+1) w w':=by
 have hB:Below w.heap.size w ((w.alloc (zw y d x m)).alloc (zik o b z)):=qae;have HQ:=zhy (hq.keep hB);have HX:=zhy (hx.keep hB);have HS:=zhy (hS.keep hB);have HSp:=zhy (Sp.of_below (lo:=T) (hi:=T+1) hB);have hT:=hS.1;have HAp:=zhy hAp;have HAl:=zhy hal;clear hB hq hx hS hAp hal;by_cases h8:o=8
 ·subst h8;have e1:K10 d m (8,(b:Int),z)=(true,[0,0]):=by simp [K10]
  rw [e1];clear e1 hth;go_enter Tryz.func193,Tryz.ntmps193;go_wp2_with fail;refine (zo3 T A c s _ HS.o).mono ?_;rintro e w2 ⟨rfl,hs2,hp2⟩;have HS2:=zhy hs2;have HP2:=zhy (HSp.o.trans hp2);clear hs2 hp2;generalize (if s.1.length=0 then (0:Int) else s.1.getLastD 0)=q;go_wp2_with fail;refine (zo3 T A c _ _ HS2.o).mono ?_;rintro e w3 ⟨rfl,hs3,hp3⟩;have HS3:=zhy hs3;have HP3:=zhy (HP2.o.trans hp3);clear hs3 hp3;generalize (if (st1 true 0 s).1.length=0 then (0:Int) else (st1 true 0 s).1.getLastD 0)=q2;go_wp2_with fail;go_end0;exact ⟨rfl,HS3.o,HP3.o⟩
 have e8:(o==8)=false:=by simpa using h8
 by_cases h7:o=7
 ·subst h7;have e1:K10 d m (7,(b:Int),z)=(true,[0]):=by simp [K10]
  rw [e1];clear e1 hth;go_enter Tryz.func193,Tryz.ntmps193;go_wp2_with fail;refine (zo3 T A c s _ HS.o).mono ?_;rintro e w2 ⟨rfl,hs2,hp2⟩;have HS2:=zhy hs2;have HP2:=zhy (HSp.o.trans hp2);clear hs2 hp2;generalize (if s.1.length=0 then (0:Int) else s.1.getLastD 0)=q;go_wp2_with fail;go_end0;exact ⟨rfl,HS2.o,HP2.o⟩
 have e7:(o==7)=false:=by simpa using h7
 have one:∀k:Int,K10 d m (o,(b:Int),z)=(false,[k])→zd6 d m (o,(b:Int),z)=k→∀w2,Below ((w.alloc (zw y d x m)).alloc (zik o b z)).heap.size ((w.alloc (zw y d x m)).alloc (zik o b z)) w2→0≤k∧k<256 →
   Hid (Calls Tryz.prog 228 #[.pointer (some ⟨T,0,none⟩),.slice (some ⟨w2.heap.size,0,none⟩) 1 1] (w2.alloc (.cells #[.int .u8 k] 5)) fun r w'=>r=.returned (.tuple #[])∧Sk w' T A c ((K10 d m (o,(b:Int),z)).2.foldr (st1 (K10 d m (o,(b:Int),z)).1) s)∧Sp T (T+1) w w'):=by
  intro k hk hdk w2 hb2 hkb
  rw [hk]
  have hT2:T<w2.heap.size:=Nat.lt_of_lt_of_le (HS.o.keep hb2).1 (Nat.le_refl _)
  refine zhy ((zqh T A c s _ 1 1 [k] _ ((HS.o.keep hb2).keep qh) ⟨qo w2 k hkb,fun ad e' _=>by injection e' with e';subst e';show w2.heap.size≠T;omega⟩ rfl (by omega)).mono ?_)
  rintro r w3 ⟨rfl,h3,p3⟩
  exact ⟨rfl,h3,((HSp.o.call hb2).call qh).trans p3⟩
 have ONE:=zhy one;clear one;by_cases hO:o=3∨o=5∨o=31
 ·have HD:=zhy (zf6 y d x m o z b _ HQ.o HX.o b1 b2 hth)
  have hk:K10 d m (o,(b:Int),z)=(false,[zd6 d m (o,(b:Int),z)]):=by
   rcases hO with rfl | rfl | rfl<;>simp [K10,zd6]
  have hby:=zhn HQ.o HX.o (o,(b:Int),z) (fun h=>by dsimp only at h;omega);have ON:=zhy (fun w2 hb2=>ONE.o _ hk rfl w2 hb2 hby);generalize zd6 d m (o,(b:Int),z)=k at HD ON;clear hk hby ONE hth;rcases hO with rfl | rfl | rfl
  all_goals
   go_enter Tryz.func193,Tryz.ntmps193
   go_wp2_with fail
   refine HD.o.mono ?_
   rintro e w2 ⟨rfl,hb2⟩
   have HC:=ON.o w2 hb2
   clear hb2
   go_wp2_with fail
   refine HC.o.mono ?_
   rintro e w3 ⟨rfl,hs3,hp3⟩
   have HS3:=zhy hs3
   have HP3:=zhy hp3
   clear hs3 hp3
   go_wp2_with fail
   go_end0
   exact ⟨rfl,HS3.o,HP3.o⟩
 have e3:(o==3)=false:=by simp;omega
 have e5:(o==5)=false:=by simp;omega
 have e31:(o==31)=false:=by simp;omega
 by_cases h30:o=30
 ·subst h30;have hb:b<d.s.length:=by simpa [zab] using hth
  obtain ⟨ad,u,hA,hat,hok,hme,hz,-⟩:=zrj HQ.o hb;have hu:=List.mem_of_getElem? hz;have q0:=hat.1;have e1:K10 d m (30,(b:Int),z)=(false,u.m.a):=by simp [K10,←hme]
  rw [e1];have HTK:=zhy (zqh T A c s u.x.A u.x.c _ u.m.a _ HS.o ⟨hok.1.1,fun a' e' h0=>HAp.o u a' hu e' h0⟩ rfl (by have:=HAl.o u hu;omega));obtain ⟨G,gc,P,pc,AA,cc,Z⟩:=y;dsimp only at hA;subst hA;clear e1 hth hat hok hme hz hu HQ HX;go_enter Tryz.func193,Tryz.ntmps193;go_wp2_with fail;refine HTK.o.mono ?_;rintro e w3 ⟨rfl,hs3,hp3⟩;have HS3:=zhy hs3;have HP3:=zhy (HSp.o.trans hp3);clear hs3 hp3 q0;go_wp2_with fail;go_end0;exact ⟨rfl,HS3.o,HP3.o⟩
 have e30:(o==30)=false:=by simpa using h30
 have e1:K10 d m (o,(b:Int),z)=(true,tkL o):=by
  simp only [K10];rw [if_neg (by omega),if_neg (by omega),if_neg h7,if_neg h8,if_neg h30,if_neg (by omega)]
 rw [e1];clear e1 hth ONE HQ HX HAp HAl hO;go_enter Tryz.func193,Tryz.ntmps193;go_wp2_with fail;refine (zwh o _).mono ?_;rintro e w2 ⟨A1,c1,A2,c2,m2,rfl,ho1,-,-,-,hb2⟩;have HS2:=zhy (HS.o.keep hb2);have HP2:=zhy (HSp.o.call hb2);have HR2:=zhy (qbx ho1 (zz0 o) (T:=T) (by simp;omega));clear ho1 hb2;go_wp2_with fail;refine (zkn T A c s A1 c1 _ (tkL o) _ (HS2.o.keep qh) (HR2.o.keep qh) rfl (by have:=zvg o;omega)).mono ?_;rintro e w3 ⟨rfl,hs3,hp3⟩;have HS3:=zhy hs3;have HP3:=zhy ((HP2.o.call qh).trans hp3);clear hs3 hp3;go_wp2_with fail;go_end0;exact ⟨rfl,HS3.o,HP3.o⟩
theorem zwb (w:World) (x y:Int) (hx:0≤x∧x<256) (hy:0≤y∧y<256):Rd (w.alloc (.cells #[.int .u8 x,.int .u8 y] 5)) (some ⟨w.heap.size,0,none⟩) 2 [x,y]:=
 zr9 w [x,y] (fun v hv=>by
  simp at hv;rcases hv with rfl | rfl
  ·exact hx
  ·exact hy) (by unfold maxLen;simp)
theorem zv0 (y:Ma) (d:Md) (x:Mc) (m:Mh) (o z:Int) (b:Nat) (A:Option Addr) (c n:Nat) (l:List Int) (w:World) (hq:Hq w y d) (hx:Hd w x m) (b1:m.a.length≤1000) (b2:m.l.length≤1000) (hth:zab d m (o,(b:Int),z)=true)
  (hr:Rd w A c l) (hn:l.length=n) (p7:o=7→1≤n) (p8:o=8→2≤n) :
  Calls Tryz.prog 195 #[zyr y d x m,.agg #[.int .u8 o,.int .i64 b,.int .i64 z],.slice A n c] w fun e w' =>
   ∃A' c',e=.returned (.slice A' (za8 d m (o,(b:Int),z) l).length c')∧Rd w' A' c' (za8 d m (o,(b:Int),z) l)∧Below w.heap.size w w':=by
 have hB:Below w.heap.size w ((w.alloc (zw y d x m)).alloc (zik o b z)):=qae;have HQ:=zhy (hq.keep hB);have HX:=zhy (hx.keep hB);have hr1:=hr.keep hB;have hlc:=hr.le;have hcap:=hr.cap;have hbyt:=hr.byte;have HB:=zhy hB;clear hB hq hx hr;by_cases hO:o=1∨o=2∨o=4∨o=30
 ·have HD:=zhy (zf6 y d x m o z b _ HQ.o HX.o b1 b2 hth)
  have hk:za8 d m (o,(b:Int),z) l=[zd6 d m (o,(b:Int),z)]:=by
   rcases hO with rfl | rfl | rfl | rfl<;>simp [za8,zd6]
  have hby:=zhn HQ.o HX.o (o,(b:Int),z) (fun h=>by dsimp only at h;subst h;simpa [zab] using hth);rw [hk];generalize zd6 d m (o,(b:Int),z)=k at HD hby
  have HBY:=zhy hby
  clear hk hby hth hr1 hlc hcap hbyt p7 p8 hn;rcases hO with rfl | rfl | rfl | rfl
  all_goals
   go_enter Tryz.func195,Tryz.ntmps195
   go_wp2_with fail
   refine HD.o.mono ?_
   rintro e w2 ⟨rfl,hb2⟩
   have HR2:=zhy (qo w2 k HBY.o)
   have HB2:Hid (Below w.heap.size w (w2.alloc (.cells #[.int .u8 k] 5))):=zhy ((qc HB.o hb2).trans (qh.mono (qc HB.o hb2).size))
   clear hb2
   go_wp2_with fail
   go_ret
   exact ⟨_,_,rfl,HR2.o,HB2.o⟩
 have e1:(o==1)=false:=by simp;omega
 have e2:(o==2)=false:=by simp;omega
 have e4:(o==4)=false:=by simp;omega
 have e30:(o==30)=false:=by simp;omega
 by_cases h7:o=7
 ·subst h7;have h1:=p7 rfl;obtain ⟨ad,hA,y0⟩:=hr1.at_ (i:=0) (by omega);subst hA;have e:za8 d m (7,(b:Int),z) l=[l[0]?.getD 0,l[0]?.getD 0]:=by simp [za8]
  rw [e];have hby:=hbyt 0;generalize l[0]?.getD 0=k at y0 hby
  rw [show ad.add 0=ad from by simp [Addr.add]] at y0;have HBY:=zhy hby
  have h0n:0<n:=by omega
  clear hby hbyt e hr1 hn HQ HX hth
  have HR2:Hid (Rd (((w.alloc (zw y d x m)).alloc (zik 7 b z)).alloc (.cells #[.int .u8 k,.int .u8 k] 5)) (some ⟨w.heap.size+1+1,0,none⟩) 2 [k,k]):=by
   have h:=zwb ((w.alloc (zw y d x m)).alloc (zik 7 b z)) k k HBY.o HBY.o;rw [qn,qn] at h;exact h
  have HB2:Hid (Below w.heap.size w (((w.alloc (zw y d x m)).alloc (zik 7 b z)).alloc (.cells #[.int .u8 k,.int .u8 k] 5))):=zhy (HB.o.alloc (by rw [qn,qn];omega) _);go_enter Tryz.func195,Tryz.ntmps195;go_upto_region 8 with (fail);go_region
  all_goals
   go_wp2_with fail
   go_ret
   exact ⟨_,_,rfl,HR2.o.drew,qf HB2.o 1⟩
 have e7:(o==7)=false:=by simpa using h7
 by_cases h8:o=8
 ·subst h8;have h1:=p8 rfl;obtain ⟨ad,hA,y0⟩:=hr1.at_ (i:=0) (by omega);obtain ⟨ad',hA',y1⟩:=hr1.at_ (i:=1) (by omega);rw [hA] at hA';injection hA' with hA';subst hA' hA;have e:za8 d m (8,(b:Int),z) l=[l[1]?.getD 0,l[0]?.getD 0]:=by simp [za8]
  rw [e];have hby:=hbyt 0;have hby1:=hbyt 1;generalize l[0]?.getD 0=k at y0 hby
  generalize l[1]?.getD 0=k1 at y1 hby1;rw [show ad.add 0=ad from by simp [Addr.add]] at y0;rw [show ad.add 1=⟨ad.block,ad.off+1,none⟩ from zuq ad 0] at y1;have HBY:=zhy hby
  have HBY1:=zhy hby1;have h0n:0<n:=by omega
  have h1n:1<n:=by omega
  clear hby hby1 hbyt e hr1 hn HQ HX hth
  have HR2:Hid (Rd (((w.alloc (zw y d x m)).alloc (zik 8 b z)).alloc (.cells #[.int .u8 k1,.int .u8 k] 5)) (some ⟨w.heap.size+1+1,0,none⟩) 2 [k1,k]):=by
   have h:=zwb ((w.alloc (zw y d x m)).alloc (zik 8 b z)) k1 k HBY1.o HBY.o;rw [qn,qn] at h;exact h
  have HB2:Hid (Below w.heap.size w (((w.alloc (zw y d x m)).alloc (zik 8 b z)).alloc (.cells #[.int .u8 k1,.int .u8 k] 5))):=zhy (HB.o.alloc (by rw [qn,qn];omega) _);go_enter Tryz.func195,Tryz.ntmps195;go_upto_region 10 with (fail);go_region
  all_goals
   go_wp2_with fail
   go_ret
   exact ⟨_,_,rfl,HR2.o.drew,qf HB2.o 1⟩
 have e8:(o==8)=false:=by simpa using h8
 have ee:za8 d m (o,(b:Int),z) l=gvL o:=by
  simp only [za8];rw [if_neg (by omega),if_neg (by omega),if_neg (by omega),if_neg h7,if_neg h8,if_neg (by omega)]
 rw [ee];clear ee hth hr1 hbyt HQ HX hO p7 p8;go_enter Tryz.func195,Tryz.ntmps195;go_wp2_with fail;refine (zwh o _).mono ?_;rintro e w2 ⟨A1,c1,A2,c2,m2,rfl,-,-,-,ho2,hb2⟩;have HR2:=zhy ((qt ho2 (zq9 o)).keep (qh (a:=.cells #[.slice A1 (tkL o).length c1,.slice A2 (gvL o).length c2] 328)));have HB2:=zhy (qc HB.o hb2);have HB3:=zhy ((HB2.o).trans (qh.mono HB2.o.size:Below w.heap.size w2 (w2.alloc (.cells #[.slice A1 (tkL o).length c1,.slice A2 (gvL o).length c2] 328))));clear ho2 hb2;go_wp2_with fail;go_ret;exact ⟨A2,c2,rfl,HR2.o,HB3.o⟩
theorem znp (n:Nat) (hn:n≤1000000) (w:World):Calls Tryz.prog 232 #[.slice none 0 0,.int .i64 n] w fun e w'=>∃A c,e=.returned (.slice A 0 c)∧w'.ownsRow w.heap.size 5 1 (.slice A 0 c) 0 (cel [])∧Below w.heap.size w w':=by
 obtain ⟨i0,hi,hz0,hz1,hz2⟩:=info_parts Tryz.info5;by_cases h0:n=0
 ·subst h0;go_enter Tryz.func232,Tryz.ntmps232;go_wp2_with fail;go_ret;exact ⟨none,0,rfl,World.ownsRow_nil _ _ _ _,Below.refl _ _⟩
 ·have hr:=Lib.run_append_nil_zeros (P:=Tryz.prog) w 40 3 40 5 i0 _ .i64 .i64 Tryz.underlying40 Tryz.underlying3 hi hz0 n (by omega) (by omega) (by omega) (by rw [hz2];omega);have HR:=zhy hr;have hge:=grownCap_ge w n 0 5;have hle:grownCap w n 0 5≤maxLen:=grownCap_le_maxLen w n 0 5 (by unfold maxLen;omega);obtain ⟨cap,hcap⟩:∃cap,grownCap w n 0 5=cap:=⟨_,rfl⟩;rw [hcap] at HR hge hle;obtain ⟨cs,hcs⟩:∃cs,Builtin.zeroCells (Value.cells (.int .u8 0)) n++Builtin.zeroCells (Value.cells (.int .u8 0)) (cap-n)=cs:=⟨_,rfl⟩;rw [hcs] at HR
  have hsz:cs.size=cap*1:=by
   rw [←hcs];simp only [Array.size_append,size_zeroCells];have:(Value.cells (.int .u8 0)).size=1:=rfl;rw [this];omega
  clear hr hcs hcap;go_enter Tryz.func232,Tryz.ntmps232;go_wp2_with (at_builtin;refine Lib.wpList_append_run _ rfl _ _ _ _ rfl _ _ rfl rfl _ _ HR.o ?_);go_wp2_with fail;go_ret;exact ⟨some ⟨w.heap.size,0,none⟩,cap,rfl,⟨rfl,.inr ⟨w.heap.size,cap,cs,rfl,Nat.le_refl _,heap_alloc_new w.drew _,Nat.zero_le _,hle,hsz,rfl⟩⟩,⟨rfl,rfl,rfl,by simp,fun k hk=>heap_alloc_old w.drew _ hk⟩⟩
def T2l (l k:List Int):Nat→List Int
 | 0=>[]
 | 1=>l
 | _=>l++k
theorem zqz (g:Nat) (A B:Option Addr) (c d n m:Nat) (l k:List Int) (w:World) (h0:w.cell? ⟨g,0,none⟩=some (.slice A n c)) (h1:w.cell? ⟨g,1,none⟩=some (.slice B m d)) (hr:Rd w A c l) (hs:Rd w B d k) (hn:l.length=n) (hm:k.length=m) (b1:n≤400000) (b2:m≤400000) :
  Calls Tryz.prog 194 #[.slice (some ⟨g,0,none⟩) 2 2] w fun e w'=>∃A c,e=.returned (.slice A (n+m) c)∧w'.ownsRow w.heap.size 5 1 (.slice A (n+m) c) (n+m) (cel (l++k))∧Below w.heap.size w w':=by
 subst hn hm;obtain ⟨i0,hi,hz0,hz1,hz2⟩:=info_parts Tryz.info5;have hgl:g<w.heap.size:=qi h0;have HR:=zhy hr;have HS:=zhy hs;have HC:Hid (∀w',Below w.heap.size w w'→w'.cell? ⟨g,0,none⟩=some (.slice A l.length c)∧w'.cell? ⟨g,1,none⟩=some (.slice B k.length d)):=fun w' hb=>⟨(hb.cell hgl).trans h0,(hb.cell hgl).trans h1⟩;clear hr hs;go_enter Tryz.func194,Tryz.ntmps194;go_wp2_with fail;go_loopw [3,11] (fun sz i wr=>∃j:Nat,j≤2∧i=.int .i64 j∧sz=.int .i64 ((T2l l k j).length:Nat)∧wr=w) (fun _ i _=>2-(intOf i).toNat)
 case atStart=>exact ⟨0,by omega,rfl,rfl,rfl⟩
 case round =>
  obtain ⟨j,hj,rfl,rfl,hwr⟩:=hrel;subst wr;match j,hj with
  | 0,_ =>
   rw [show (T2l l k 0).length=0 from rfl];go_wp2_with fail;go_roundw
   case rel=>exact ⟨1,by omega,rfl,by simp [T2l],trivial⟩
   case measure=>decide
  | 1,_ =>
   rw [show (T2l l k 1).length=l.length from rfl];go_wp2_with fail;go_roundw
   case rel=>exact ⟨2,by omega,rfl,by simp [T2l],trivial⟩
   case measure=>decide
  | 2,_ =>
   rw [show (T2l l k 2).length=l.length+k.length by simp [T2l]];go_wp2_with fail;refine (znp (l.length+k.length) (by omega) _).mono ?_;rintro e w1 ⟨A1,c1,rfl,ho1,hb1⟩;have HO1:=zhy ho1;have HB1:=zhy hb1;clear ho1 hb1 h0 h1;go_wp2_with fail;go_loopw [6,27] (fun nsl i w2=>∃(j:Nat) (A':Option Addr) (c':Nat),j≤2∧i=.int .i64 j∧nsl=.slice A' (T2l l k j).length c'∧Hid (w2.ownsRow w.heap.size 5 1 (.slice A' (T2l l k j).length c') (T2l l k j).length (cel (T2l l k j)))∧Hid (Below w.heap.size w w2)) (fun _ i _=>2-(intOf i).toNat)
   case atStart=>exact ⟨0,A1,c1,by omega,rfl,rfl,HO1,HB1⟩
   case round =>
    obtain ⟨j,A2,c2,hj,rfl,rfl,HO2,HB2⟩:=hrel;clear HO1 HB1;have hsz:=HB2.o.size;match j,hj with
    | 0,_ =>
     obtain ⟨h0,h1⟩:=HC.o _ HB2.o;go_wp2_with (at_builtin;(refine qa _ rfl _ _ 40 rfl w.heap.size 5 i0 Tryz.underlying40 hi hz0 hz1 hz2 _ _ (T2l l k 0) rfl HO2.o _ _ _ l rfl (HR.o.keep HB2.o) rfl (by simp [T2l];omega) hsz ?_));intro A7 c7 w7 ho7 hg7 hb7 _;have HO7:=zhy ho7;have HB7:=zhy (HB2.o.trans hb7);clear ho7 hg7 hb7 HO2 HB2 h0 h1;go_wp2_with fail;go_roundw
     case rel=>exact ⟨1,A7,c7,by omega,rfl,by simp [T2l],by simpa [T2l] using HO7,HB7⟩
     case measure=>decide
    | 1,_ =>
     obtain ⟨h0,h1⟩:=HC.o _ HB2.o;go_wp2_with (at_builtin;refine qa _ rfl _ _ 40 rfl w.heap.size 5 i0 Tryz.underlying40 hi hz0 hz1 hz2 _ _ (T2l l k 1) rfl HO2.o _ _ _ k rfl (HS.o.keep HB2.o) rfl (by simp [T2l];omega) hsz ?_);intro A7 c7 w7 ho7 hg7 hb7 _;have HO7:=zhy ho7;have HB7:=zhy (HB2.o.trans hb7);clear ho7 hg7 hb7 HO2 HB2 h0 h1;go_wp2_with fail;go_roundw
     case rel=>exact ⟨2,A7,c7,by omega,rfl,by simp [T2l],by simpa [T2l] using HO7,HB7⟩
     case measure=>decide
    | 2,_ =>
     go_wp2_with fail;go_ret;exact ⟨A2,c2,by simp [T2l],by have:=HO2.o;simpa [T2l] using this,HB2.o⟩
end Go.Proofs.YtnjgkkoiamiaaaaGreatDoor
