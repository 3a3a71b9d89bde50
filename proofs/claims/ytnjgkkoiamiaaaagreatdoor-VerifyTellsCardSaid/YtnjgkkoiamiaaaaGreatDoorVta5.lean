import Derived.Test.YtnjgkkoiamiaaaaGreatDoorVta1
import Derived.Test.YtnjgkkoiamiaaaaGreatDoorVta2
import Derived.ProofKit
import Derived.OpenShut
import Derived.ChangeSame
import Derived.Deep.Slices
import Derived.Deep.Fields
import Derived.Test.YtnjgkkoiamiaaaaGreatDoorVta3
import Derived.Test.YtnjgkkoiamiaaaaGreatDoorVta4
set_option maxRecDepth 100000
set_option maxHeartbeats 16000000
set_option linter.unusedSimpArgs false
set_option linter.unusedVariables false
namespace Go.Proofs.YtnjgkkoiamiaaaaGreatDoor
open Go.RowKit
section
open Go.ChangeShapes Go.WideShapes Go.ChangeAt Go.RowKit Go.Deep
theorem qfv:((Tryz.prog.fieldsOf 139).map fun f=>(f.offset,f.type))=#[(0,5),(1,2),(2,2)]:=by kernel_rfl
theorem zla {j:Nat} {o t:Nat} (h:(#[(0,5),(1,2),(2,2)]:Array (Nat×TypeId))[j]?=some (o,t)):∃f,(Tryz.prog.fieldsOf 139)[j]?=some f∧f.offset=o∧f.type=t:=by
 rw [←qfv,Array.getElem?_map,Option.map_eq_some_iff] at h;obtain ⟨f,h1,h2⟩:=h;simp only [Prod.mk.injEq] at h2;exact ⟨f,h1,h2.1,h2.2⟩
theorem zzw {H:Type} {enc:TypeId×Value→H} {w:World} {base:Nat} {sp:Nat→Bool} {held:Bool} {fuel:Nat} {cs:List Value} {x:DataW H×List MemPlace} (h:DataW.trod enc Tryz.prog w base sp held fuel 139 cs=some x) :
  ∃y:Vlu,qb3 y∧cs=[.int .u8 y.1,.int .i64 y.2.1,.int .i64 y.2.2]:=by
 have hS:Tryz.prog.underlying 139=some (.struct (Tryz.prog.fieldsOf 139)):=by kernel_rfl
 have hC:Tryz.prog.cellsOf 139=3:=by kernel_rfl
 have c1:Tryz.prog.cellsOf 5=1:=by kernel_rfl
 have c2:Tryz.prog.cellsOf 2=1:=by kernel_rfl
 obtain ⟨xs,n,_,_,hlen,hxs,hg⟩:=DataW.trod_struct hS h;rw [hC] at hlen;match cs,hlen with
 | [v0,v1,v2],_ =>
  have hn:xs.length=3:=by rw [hxs];kernel_rfl
  obtain ⟨f0,a0,o0,t0⟩:=zla (j:=0) rfl;obtain ⟨f1,a1,o1,t1⟩:=zla (j:=1) rfl;obtain ⟨f2,a2,o2,t2⟩:=zla (j:=2) rfl;have g0:=hg 0 f0 a0;have g1:=hg 1 f1 a1;have g2:=hg 2 f2 a2;rw [o0,t0,c1,zg7 (by omega)] at g0;rw [o1,t1,c2,zg7 (by omega)] at g1;rw [o2,t2,c2,zg7 (by omega)] at g2;obtain ⟨k,e0,_,w0⟩:=DataW.trod_int Tryz.underlying5 g0;obtain ⟨a,e1,_,w1⟩:=DataW.trod_int Tryz.underlying2 g1;obtain ⟨b,e2,_,w2⟩:=DataW.trod_int Tryz.underlying2 g2;simp at e0 e1 e2;subst e0 e1 e2;have b0:=bounds_u8 w0;have b1:=bounds_i64 w1;have b2:=bounds_i64 w2;exact ⟨(k,a,b),by unfold qb3;simp only;omega,rfl⟩
theorem zu9 {H:Type} {enc:TypeId×Value→H} {w:World} {base:Nat} {sp:Nat→Bool} {held:Bool} {fuel:Nat} {cs:List Value} {x:DataW H×List MemPlace} (h:DataW.trod enc Tryz.prog w base sp held fuel 22 cs=some x) :
  cs=[.slice none 0 0]∨∃(a:Addr) (len cap:Nat) (L:List Vlu),cs=[.slice (some a) len cap]∧L.length=len∧Rv w (some a) cap L:=by
 have hC:Tryz.prog.cellsOf 139=3:=by kernel_rfl
 rcases open_slice Tryz.underlying22 h with ⟨h0,_⟩ | ⟨a,len,cap,m,n,D,Pl,hcs,hb,hl,hm,hmm,hx,hi⟩
 ·exact .inl h0
 ·rw [hC] at hi;have hle:len≤m:=by rw [hmm];split<;>omega
  have hy:∀i,i<len→∃y:Vlu,qb3 y∧w.cell? (a.add (i*3))=some (.int .u8 y.1)∧w.cell? ⟨(a.add (i*3)).block,(a.add (i*3)).off+1,none⟩=some (.int .i64 y.2.1)∧w.cell? ⟨(a.add (i*3)).block,(a.add (i*3)).off+2,none⟩=some (.int .i64 y.2.2):=by
   intro i hil;obtain ⟨cs',hc,ht⟩:=hi i (by omega);obtain ⟨y,hok,rfl⟩:=zzw ht;obtain ⟨_,_,hat⟩:=World.cells?_some hc;have q0:=hat 0 (by omega);have q1:=hat 1 (by omega);have q2:=hat 2 (by omega);rw [zk2] at q0 q1 q2;rw [zqy] at q1;rw [zqp] at q2;exact ⟨y,hok,by simpa using q0,by simpa using q1,by simpa using q2⟩
  refine .inr ⟨a,len,cap,(List.range len).map fun i=>if hil:i<len then (hy i hil).choose else (0,0,0),hcs,by simp,?_,by simp;omega,hm,.inr ⟨a,rfl,?_⟩⟩
  ·intro y hmem;obtain ⟨i,hir,rfl⟩:=List.mem_map.1 hmem;have hil:=List.mem_range.1 hir;rw [dif_pos hil];exact (hy i hil).choose_spec.1
  ·intro i y hiy;have hil:i<len:=by simpa using (zg8.1 hiy).1
   rw [List.getElem?_map,List.getElem?_range hil,Option.map_some,dif_pos hil] at hiy;obtain rfl:=Option.some.inj hiy;exact (hy i hil).choose_spec.2
end
section
open Go.ChangeShapes Go.WideShapes Go.ChangeAt Go.RowKit Go.Deep
theorem qfp:((Tryz.prog.fieldsOf 57).map fun f=>(f.offset,f.type))=#[(0,5),(1,3),(2,3)]:=by kernel_rfl
theorem zk9 {j:Nat} {o t:Nat} (h:(#[(0,5),(1,3),(2,3)]:Array (Nat×TypeId))[j]?=some (o,t)):∃f,(Tryz.prog.fieldsOf 57)[j]?=some f∧f.offset=o∧f.type=t:=by
 rw [←qfp,Array.getElem?_map,Option.map_eq_some_iff] at h;obtain ⟨f,h1,h2⟩:=h;simp only [Prod.mk.injEq] at h2;exact ⟨f,h1,h2.1,h2.2⟩
theorem zza {H:Type} {enc:TypeId×Value→H} {w:World} {base:Nat} {sp:Nat→Bool} {held:Bool} {fuel:Nat} {cs:List Value} {x:DataW H×List MemPlace} (h:DataW.trod enc Tryz.prog w base sp held fuel 57 cs=some x) :
  ∃y:Ins,zt7 y∧cs=[.int .u8 y.1,.int .i64 y.2.1,.int .i64 y.2.2]:=by
 have hS:Tryz.prog.underlying 57=some (.struct (Tryz.prog.fieldsOf 57)):=by kernel_rfl
 have hC:Tryz.prog.cellsOf 57=3:=by kernel_rfl
 have c1:Tryz.prog.cellsOf 5=1:=by kernel_rfl
 have c2:Tryz.prog.cellsOf 3=1:=by kernel_rfl
 obtain ⟨xs,n,_,_,hlen,hxs,hg⟩:=DataW.trod_struct hS h;rw [hC] at hlen;match cs,hlen with
 | [v0,v1,v2],_ =>
  have hn:xs.length=3:=by rw [hxs];kernel_rfl
  obtain ⟨f0,a0,o0,t0⟩:=zk9 (j:=0) rfl;obtain ⟨f1,a1,o1,t1⟩:=zk9 (j:=1) rfl;obtain ⟨f2,a2,o2,t2⟩:=zk9 (j:=2) rfl;have g0:=hg 0 f0 a0;have g1:=hg 1 f1 a1;have g2:=hg 2 f2 a2;rw [o0,t0,c1,zg7 (by omega)] at g0;rw [o1,t1,c2,zg7 (by omega)] at g1;rw [o2,t2,c2,zg7 (by omega)] at g2;obtain ⟨k,e0,_,w0⟩:=DataW.trod_int Tryz.underlying5 g0;obtain ⟨a,e1,_,w1⟩:=DataW.trod_int Tryz.underlying3 g1;obtain ⟨b,e2,_,w2⟩:=DataW.trod_int Tryz.underlying3 g2;simp at e0 e1 e2;subst e0 e1 e2;have b0:=bounds_u8 w0;have b1:=bounds_i64 w1;have b2:=bounds_i64 w2;exact ⟨(k,a,b),by unfold zt7;simp only;omega,rfl⟩
theorem zsv {H:Type} {enc:TypeId×Value→H} {w:World} {base:Nat} {sp:Nat→Bool} {held:Bool} {fuel:Nat} {cs:List Value} {x:DataW H×List MemPlace} (h:DataW.trod enc Tryz.prog w base sp held fuel 48 cs=some x) :
  cs=[.slice none 0 0]∨∃(a:Addr) (len cap:Nat) (L:List Ins),cs=[.slice (some a) len cap]∧L.length=len∧Ri w (some a) cap L:=by
 have hC:Tryz.prog.cellsOf 57=3:=by kernel_rfl
 rcases open_slice Tryz.underlying48 h with ⟨h0,_⟩ | ⟨a,len,cap,m,n,D,Pl,hcs,hb,hl,hm,hmm,hx,hi⟩
 ·exact .inl h0
 ·rw [hC] at hi;have hle:len≤m:=by rw [hmm];split<;>omega
  have hy:∀i,i<len→∃y:Ins,zt7 y∧w.cell? (a.add (i*3))=some (.int .u8 y.1)∧w.cell? ⟨(a.add (i*3)).block,(a.add (i*3)).off+1,none⟩=some (.int .i64 y.2.1)∧w.cell? ⟨(a.add (i*3)).block,(a.add (i*3)).off+2,none⟩=some (.int .i64 y.2.2):=by
   intro i hil;obtain ⟨cs',hc,ht⟩:=hi i (by omega);obtain ⟨y,hok,rfl⟩:=zza ht;obtain ⟨_,_,hat⟩:=World.cells?_some hc;have q0:=hat 0 (by omega);have q1:=hat 1 (by omega);have q2:=hat 2 (by omega);rw [zk2] at q0 q1 q2;rw [zxt] at q1;rw [zxf] at q2;exact ⟨y,hok,by simpa using q0,by simpa using q1,by simpa using q2⟩
  refine .inr ⟨a,len,cap,(List.range len).map fun i=>if hil:i<len then (hy i hil).choose else (0,0,0),hcs,by simp,?_,by simp;omega,hm,.inr ⟨a,rfl,?_⟩⟩
  ·intro y hmem;obtain ⟨i,hir,rfl⟩:=List.mem_map.1 hmem;have hil:=List.mem_range.1 hir;rw [dif_pos hil];exact (hy i hil).choose_spec.1
  ·intro i y hiy;have hil:i<len:=by simpa using (zg8.1 hiy).1
   rw [List.getElem?_map,List.getElem?_range hil,Option.map_some,dif_pos hil] at hiy;obtain rfl:=Option.some.inj hiy;exact (hy i hil).choose_spec.2
end
section
open Go.ChangeShapes Go.WideShapes Go.ChangeAt Go.RowKit Go.Deep
theorem qfs (ad:Addr) (k j:Nat) (h:0<j):ad.add (k+j)=⟨(ad.add k).block,(ad.add k).off+j,none⟩:=by
 unfold Addr.add;rw [if_neg (by omega)];split
 ·subst_vars;simp
 ·simp;omega
section
variable {H : Type} {enc : TypeId × Value → H} {w : World} {base : Nat} {sp : Nat → Bool} {held : Bool} {fuel : Nat}
theorem zv5 {v:Value} {x:DataW H×List MemPlace} (h:DataW.trod enc Tryz.prog w base sp held fuel 48 [v]=some x):∃(D:Option Addr) (e:Nat) (K:List Ins),v=.slice D K.length e∧Ri w D e K:=by
 rcases zsv h with h0 | ⟨a,len,cap,L,h0,hl,hr⟩
 ·simp at h0;exact ⟨none,0,[],h0,Ri.none_ _⟩
 ·simp at h0;subst hl;exact ⟨some a,cap,L,h0,hr⟩
theorem zlx {v:Value} {x:DataW H×List MemPlace} (h:DataW.trod enc Tryz.prog w base sp held fuel 22 [v]=some x):∃(D:Option Addr) (e:Nat) (K:List Vlu),v=.slice D K.length e∧Rv w D e K:=by
 rcases zu9 h with h0 | ⟨a,len,cap,L,h0,hl,hr⟩
 ·simp at h0;exact ⟨none,0,[],h0,Rv.none_ _⟩
 ·simp at h0;subst hl;exact ⟨some a,cap,L,h0,hr⟩
theorem qaz {cs:List Value} {x:DataW H×List MemPlace} (h:DataW.trod enc Tryz.prog w base sp held fuel 50 cs=some x):∃z:Me,cs=ce8 z∧z.ok w:=by
 have hS:Tryz.prog.underlying 50=some (.struct (Tryz.prog.fieldsOf 50)):=by kernel_rfl
 have hC:Tryz.prog.cellsOf 50=8:=by kernel_rfl
 have c1:Tryz.prog.cellsOf 40=1:=by kernel_rfl
 have c2:Tryz.prog.cellsOf 5=1:=by kernel_rfl
 have c3:Tryz.prog.cellsOf 4=1:=by kernel_rfl
 have c4:Tryz.prog.cellsOf 3=1:=by kernel_rfl
 have c5:Tryz.prog.cellsOf 48=1:=by kernel_rfl
 obtain ⟨xs,n,_,_,hlen,hxs,hg⟩:=DataW.trod_struct hS h;rw [hC] at hlen;match cs,hlen with
 | [v0,v1,v2,v3,v4,v5,v6,v7],_ =>
  have hn:xs.length=8:=by rw [hxs];kernel_rfl
  obtain ⟨f0,a0,o0,t0⟩:=zbx (j:=0) rfl;obtain ⟨f1,a1,o1,t1⟩:=zbx (j:=1) rfl;obtain ⟨f2,a2,o2,t2⟩:=zbx (j:=2) rfl;obtain ⟨f3,a3,o3,t3⟩:=zbx (j:=3) rfl;obtain ⟨f4,a4,o4,t4⟩:=zbx (j:=4) rfl;obtain ⟨f5,a5,o5,t5⟩:=zbx (j:=5) rfl;obtain ⟨f6,a6,o6,t6⟩:=zbx (j:=6) rfl;obtain ⟨f7,a7,o7,t7⟩:=zbx (j:=7) rfl;have g0:=hg 0 f0 a0;have g1:=hg 1 f1 a1;have g2:=hg 2 f2 a2;have g3:=hg 3 f3 a3;have g4:=hg 4 f4 a4;have g5:=hg 5 f5 a5;have g6:=hg 6 f6 a6;have g7:=hg 7 f7 a7;rw [o0,t0,c1,zg7 (by omega)] at g0;rw [o1,t1,c1,zg7 (by omega)] at g1;rw [o2,t2,c2,zg7 (by omega)] at g2;rw [o3,t3,c3,zg7 (by omega)] at g3;rw [o4,t4,c4,zg7 (by omega)] at g4;rw [o5,t5,c4,zg7 (by omega)] at g5;rw [o6,t6,c4,zg7 (by omega)] at g6;rw [o7,t7,c5,zg7 (by omega)] at g7;obtain ⟨A,c,a,rfl,hA⟩:=zrc (v:=v0) g0;obtain ⟨B,d,b,rfl,hB⟩:=zrc (v:=v1) g1;obtain ⟨r,e2,_,w2⟩:=DataW.trod_int Tryz.underlying5 g2;obtain ⟨q,e3,_⟩:=DataW.trod_bool Tryz.underlying4 g3;obtain ⟨f,e4,_,w4⟩:=DataW.trod_int Tryz.underlying3 g4;obtain ⟨s,e5,_,w5⟩:=DataW.trod_int Tryz.underlying3 g5;obtain ⟨hh,e6,_,w6⟩:=DataW.trod_int Tryz.underlying3 g6;obtain ⟨D,e,K,rfl,hK⟩:=zv5 (v:=v7) g7;simp at e2 e3 e4 e5 e6;subst e2 e3 e4 e5 e6;have b2:=bounds_u8 w2;have b4:=bounds_i64 w4;have b5:=bounds_i64 w5;have b6:=bounds_i64 w6;exact ⟨⟨⟨A,c,B,d,D,K.length,e⟩,⟨a,b,r,q,f,s,hh⟩,K⟩,rfl,⟨hA,hB,⟨⟨b2.1,by dsimp only;omega⟩,b4,b5,b6⟩⟩,hK,rfl⟩
theorem qck {p:Addr} {z:Me} (h:∀j,j<8→w.cell? (p.add j)=(ce8 z)[j]?):At8 w p z:=by
 have e:∀j,p.add (0+(j+1))=⟨p.block,p.off+(j+1),none⟩:=fun j=>by rw [qfs p 0 (j+1) (by omega)];rfl
 have h0:=h 0 (by omega);have h1:=h (0+(0+1)) (by omega);have h2:=h (0+(1+1)) (by omega);have h3:=h (0+(2+1)) (by omega);have h4:=h (0+(3+1)) (by omega);have h5:=h (0+(4+1)) (by omega);have h6:=h (0+(5+1)) (by omega);have h7:=h (0+(6+1)) (by omega);rw [e] at h1 h2 h3 h4 h5 h6 h7;exact ⟨h0,h1,h2,h3,h4,h5,h6,h7⟩
theorem zpf {cs:List Value} {x:DataW H×List MemPlace} (h:DataW.trod enc Tryz.prog w base sp held fuel 23 cs=some x) :
  cs=[.slice none 0 0]∨∃(a:Addr) (len cap:Nat) (Z:List Me),cs=[.slice (some a) len cap]∧Z.length=len∧Rm w (some a) cap Z:=by
 have hC:Tryz.prog.cellsOf 50=8:=by kernel_rfl
 rcases open_slice Tryz.underlying23 h with ⟨h0,_⟩ | ⟨a,len,cap,m,n,D,Pl,hcs,hb,hl,hm,hmm,hx,hi⟩
 ·exact .inl h0
 ·rw [hC] at hi;have hle:len≤m:=by rw [hmm];split<;>omega
  have hy:∀i,i<len→∃z:Me,z.ok w∧At8 w (a.add (i*8)) z:=by
   intro i hil;obtain ⟨cs',hc,ht⟩:=hi i (by omega);obtain ⟨z,rfl,hok⟩:=qaz ht;obtain ⟨_,_,hat⟩:=World.cells?_some hc;exact ⟨z,hok,qck fun j hj=>hat j hj⟩
  refine .inr ⟨a,len,cap,(List.range len).map fun i=>if hil:i<len then (hy i hil).choose else ⟨Mc.zero,Mh.zero,[]⟩,hcs,by simp,?_,by simp;omega,hm,.inr ⟨a,rfl,?_⟩⟩
  ·intro z hmem;obtain ⟨i,hir,rfl⟩:=List.mem_map.1 hmem;have hil:=List.mem_range.1 hir;rw [dif_pos hil];exact (hy i hil).choose_spec.1
  ·intro i z hiy;have hil:i<len:=by simpa using (zg8.1 hiy).1
   rw [List.getElem?_map,List.getElem?_range hil,Option.map_some,dif_pos hil] at hiy;obtain rfl:=Option.some.inj hiy;exact (hy i hil).choose_spec.2
theorem qfy:((Tryz.prog.fieldsOf 25).map fun f=>(f.offset,f.type))=#[(0,22),(1,22),(2,23),(3,3)]:=by kernel_rfl
theorem zhd {j:Nat} {o t:Nat} (h:(#[(0,22),(1,22),(2,23),(3,3)]:Array (Nat×TypeId))[j]?=some (o,t)):∃f,(Tryz.prog.fieldsOf 25)[j]?=some f∧f.offset=o∧f.type=t:=by
 rw [←qfy,Array.getElem?_map,Option.map_eq_some_iff] at h;obtain ⟨f,h1,h2⟩:=h;simp only [Prod.mk.injEq] at h2;exact ⟨f,h1,h2.1,h2.2⟩
theorem zxk {cs:List Value} {x:DataW H×List MemPlace} (h:DataW.trod enc Tryz.prog w base sp held fuel 25 cs=some x):∃(y:Ma) (d:Md),Value.agg cs.toArray=dv y d∧Hq w y d:=by
 have hS:Tryz.prog.underlying 25=some (.struct (Tryz.prog.fieldsOf 25)):=by kernel_rfl
 have hC:Tryz.prog.cellsOf 25=4:=by kernel_rfl
 have c1:Tryz.prog.cellsOf 22=1:=by kernel_rfl
 have c2:Tryz.prog.cellsOf 23=1:=by kernel_rfl
 have c3:Tryz.prog.cellsOf 3=1:=by kernel_rfl
 obtain ⟨xs,n,_,_,hlen,hxs,hg⟩:=DataW.trod_struct hS h;rw [hC] at hlen;match cs,hlen with
 | [v0,v1,v2,v3],_ =>
  have hn:xs.length=4:=by rw [hxs];kernel_rfl
  obtain ⟨f0,a0,o0,t0⟩:=zhd (j:=0) rfl;obtain ⟨f1,a1,o1,t1⟩:=zhd (j:=1) rfl;obtain ⟨f2,a2,o2,t2⟩:=zhd (j:=2) rfl;obtain ⟨f3,a3,o3,t3⟩:=zhd (j:=3) rfl;have g0:=hg 0 f0 a0;have g1:=hg 1 f1 a1;have g2:=hg 2 f2 a2;have g3:=hg 3 f3 a3;rw [o0,t0,c1,zg7 (by omega)] at g0;rw [o1,t1,c1,zg7 (by omega)] at g1;rw [o2,t2,c2,zg7 (by omega)] at g2;rw [o3,t3,c3,zg7 (by omega)] at g3;obtain ⟨G,gc,g,rfl,hG⟩:=zlx (v:=v0) g0;obtain ⟨P,pc,p,rfl,hP⟩:=zlx (v:=v1) g1;obtain ⟨i,e3,_,w3⟩:=DataW.trod_int Tryz.underlying3 g3;simp at e3;subst e3;have b3:=bounds_i64 w3;rcases zpf (cs:=[v2]) g2 with h0 | ⟨a,len,cap,Z,h0,hl,hr⟩
  ·simp at h0;subst h0;exact ⟨⟨G,gc,P,pc,none,0,[]⟩,⟨g,p,[],i⟩,rfl,hG,hP,Rm.none_ _,rfl,b3⟩
  ·simp at h0;subst h0 hl;exact ⟨⟨G,gc,P,pc,some a,cap,Z⟩,⟨g,p,Z.map ze,i⟩,by simp [dv],hG,hP,hr,rfl,b3⟩
theorem zyv {cs:Array Value} {d:DataW H} {p:List MemPlace} (h:DataW.Trod enc Tryz.prog w base sp held 25 (.agg cs) d p):∃(y:Ma) (d:Md),Value.agg cs=dv y d∧Hq w y d:=by
 obtain ⟨fuel,hf⟩:=h;have:=zxk hf;simpa [Value.cells] using this
end
end
abbrev fWM:Fct:=⟨fun w=>GW w∧GM w,fun w w' h hb=>⟨fG.keep w w' h.1 hb,h.2.keep hb⟩⟩
abbrev Lp:=Nat×Nat×Int
def wi9 (x:Lp) (p:Nat):Bool:=decide (x.1<p)&&decide (p≤x.2.1)
def K9 (x:Lp):Nat:=x.2.2.toNat
def pr9:List Lp→Nat
 | []=>1
 | x::xs=>K9 x*pr9 xs
theorem zd {x:Lp} {p:Nat}:wi9 x p=true↔x.1<p∧p≤x.2.1:=by simp [wi9]
def iO9 (l:List Ins) (p:Nat):Int:=(l[p]?.getD (0,0,0)).1
def iA9 (l:List Ins) (p:Nat):Int:=(l[p]?.getD (0,0,0)).2.1
structure Wl9 (l:List Ins) (out:List Lp):Prop where
 mem:∀x∈out,x.1<x.2.1∧x.2.1<l.length∧iO9 l x.1=28∧iO9 l x.2.1=29∧iA9 l x.2.1=x.1∧x.2.2=iA9 l x.1∧1≤x.2.2∧x.2.2≤100
 ofL:∀p,p<l.length→iO9 l p=28→∃x∈out,x.1=p
 ofA:∀p,p<l.length→iO9 l p=29→∃x∈out,x.2.1=p
 sorted:out.Pairwise (fun x y=>x.1<y.1)
 nest:∀x∈out,∀y∈out,x.1≠y.1→x.1<y.2.1→y.1<x.2.1→(wi9 y x.1=true∧wi9 y x.2.1=true)∨(wi9 x y.1=true∧wi9 x y.2.1=true)
 jump:∀p,p<l.length→iO9 l p=26∨iO9 l p=27→(p:Int)<iA9 l p∧iA9 l p<l.length∧∀x∈out,wi9 x (iA9 l p).toNat=true→wi9 x p=true
 last:iO9 l (l.length-1)=31∨iO9 l (l.length-1)=32
 pos:1≤l.length
def lq9 (out:List Lp) (q:Nat):List Lp:=out.filter fun x=>wi9 x q
theorem zk3 {out:List Lp} {q:Nat} {x:Lp}:x∈lq9 out q↔x∈out∧wi9 x q=true:=by simp [lq9]
section
variable {l : List Ins} {out : List Lp} {p q : Nat}
theorem Wl9.uniq (h:Wl9 l out) {x y:Lp} (hx:x∈out) (hy:y∈out) (e:x.1=y.1):x=y:=by
 obtain ⟨-,-,-,-,h5,-⟩:=h.mem x hx;by_cases hxy:x=y
 ·exact hxy
 ·have:=h.sorted;rw [List.pairwise_iff_getElem] at this;obtain ⟨i,hi,rfl⟩:=List.getElem_of_mem hx;obtain ⟨j,hj,rfl⟩:=List.getElem_of_mem hy;rcases Nat.lt_trichotomy i j with hij | rfl | hij
  ·have:=this i j hi hj hij;omega
  ·rfl
  ·have:=this j i hj hi hij;omega
theorem Wl9.uniqT (h:Wl9 l out) {x y:Lp} (hx:x∈out) (hy:y∈out) (e:x.2.1=y.2.1):x=y:=by
 obtain ⟨-,-,-,-,h5,-⟩:=h.mem x hx;obtain ⟨-,-,-,-,k5,-⟩:=h.mem y hy;rw [e,k5] at h5;exact h.uniq hx hy (by omega)
theorem Wl9.turn (h:Wl9 l out) {x0 x:Lp} (h0:x0∈out) (hx:x∈out):wi9 x x0.2.1=wi9 x (x0.1+1):=by
 obtain ⟨m1,-⟩:=h.mem x0 h0;obtain ⟨m2,-⟩:=h.mem x hx;by_cases e:x.1=x0.1
 ·have:=h.uniq hx h0 e;subst this;rw [Bool.eq_iff_iff,zd,zd];omega
 ·rw [Bool.eq_iff_iff,zd,zd];constructor
  ·rintro ⟨a,b⟩;rcases h.nest x hx x0 h0 e (by omega) (by omega) with ⟨c,d⟩ | ⟨c,d⟩
   ·rw [zd] at d;have:=h.uniqT hx h0 (by omega);subst this;exact absurd rfl e
   ·rw [zd] at c;omega
  ·rintro ⟨a,b⟩;rcases h.nest x hx x0 h0 e (by omega) (by omega) with ⟨c,d⟩ | ⟨c,d⟩
   ·rw [zd] at c;omega
   ·rw [zd] at d;omega
def zvc (f:Nat→Nat) (p v:Nat):Nat→Nat:=fun q=>if q=p then v else f q
end
def zmu (l:List Ins) (f p:Nat):Bool:=iO9 l p==29&&iA9 l p==(f:Int)
def zag (l:List Ins) (f k:Nat):List Nat:=(List.range k).filter (zmu l f)
def zfr (l:List Ins) (f k:Nat):List Lp:=(zag l f k).map fun p=>(f,p,iA9 l f)
def ztv (l:List Ins) (f:Nat):List Lp:=if iO9 l f=28 then zfr l f l.length else []
def qy (l:List Ins) (k:Nat):List Lp:=(List.range k).flatMap (ztv l)
def zkg (l:List Ins) (f:Nat):Bool:=if iO9 l f=28 then (zag l f l.length).length==1&&decide (f≤(zag l f l.length).getLastD 0) else true
def zkk (l:List Ins) (p:Nat):Bool:=if iO9 l p=29 then decide (iA9 l p<l.length)&&iO9 l (iA9 l p).toNat==28 else true
def ze2 (l:List Ins):Bool:=(List.range l.length).all (zkg l)&&(List.range l.length).all (zkk l)
def cm9 (x y:Lp):Bool:=decide (x.1<y.2.1)&&decide (y.1<x.2.1)
def is9 (x y:Lp):Bool:=wi9 y x.1&&wi9 y x.2.1
def np9 (x y:Lp):Bool:=!(cm9 x y&&(!is9 x y&&!is9 y x))
def z9:Lp:=(0,0,0)
def ns9 (out:List Lp) (n:Nat):Bool:=(List.range out.length).all (fun i=>(List.range i).all fun k=>np9 (out.getD i z9) (out.getD k z9))&&(List.range n).all fun p=>decide ((lq9 out p).length≤4)
def jp9 (l:List Ins) (out:List Lp) (p:Nat):Bool:=
 if iO9 l p=26∨iO9 l p=27 then decide ((p:Int)<iA9 l p)&&(decide (iA9 l p<l.length)&&out.all fun x=>!(wi9 x (iA9 l p).toNat&&!wi9 x p)) else true
def la9 (l:List Ins):Int:=iO9 l (l.length-1)
def jc (l:List Ins):Int:=
 if jq l=true then (if ze2 l=true∧ns9 (qy l l.length) l.length=true∧(la9 l=31∨la9 l=32)∧(List.range l.length).all (jp9 l (qy l l.length))=true then 0 else 90) else 40
def zcu (l:List Ins):List Lp:=if jc l=0 then qy l l.length else []
def tm9 (out:List Lp) (p:Nat):Int:=(lq9 out p).foldl (fun a x=>a*x.2.2) 1
def zea (l:List Ins):List Int:=if jc l=0 then (List.range l.length).map (tm9 (qy l l.length)) else []
def wy9 (l:List Ins) (p:Nat):List Int:=
 if iO9 l p=31∨iO9 l p=32 then [] else if iO9 l p=26 then [iA9 l p] else if iO9 l p=27 then (if iA9 l p=p+1 then [iA9 l p] else [(p:Int)+1,iA9 l p]) else if iO9 l p=29 then [iA9 l p+1,(p:Int)+1] else [(p:Int)+1]
def zd2 (l:List Ins) (a:Int):List Int×Int:=if jc l=0 then (if a<0∨(l.length:Int)≤a then ([],2) else (wy9 l a.toNat,0)) else ([],jc l)
section
variable {l : List Ins}
theorem zd0 {p:Nat} (h:p<l.length):l[p]∈l∧iO9 l p=l[p].1∧iA9 l p=l[p].2.1:=⟨List.getElem_mem h,by simp [iO9,h],by simp [iA9,h]⟩
theorem jk {f k p:Nat}:p∈zag l f k↔p<k∧iO9 l p=29∧iA9 l p=f:=by simp [zag,zmu]
theorem zbs {k:Nat} {x:Lp}:x∈qy l k↔∃f,f<k∧iO9 l f=28∧∃p,p∈zag l f l.length∧x=(f,p,iA9 l f):=by
 simp only [qy,ztv,zfr,List.mem_flatMap,List.mem_range];constructor
 ·rintro ⟨f,hf,hx⟩;by_cases h:iO9 l f=28
  ·rw [if_pos h,List.mem_map] at hx;obtain ⟨p,hp,rfl⟩:=hx;exact ⟨f,hf,h,p,hp,rfl⟩
  ·rw [if_neg h] at hx;cases hx
 ·rintro ⟨f,hf,h,p,hp,rfl⟩;exact ⟨f,hf,by rw [if_pos h,List.mem_map];exact ⟨p,hp,rfl⟩⟩
theorem zdm (k:Nat):qy l (k+1)=qy l k++ztv l k:=by simp [qy,List.range_succ]
theorem zr7 {x:Ins} (h:inM x=true) (h0:x.1=28):1≤x.2.1∧x.2.1≤100:=by
 unfold inM opM at h;rw [h0] at h;simp only [Bool.and_eq_true,decide_eq_true_eq] at h;have a:zgq 28=1:=by decide
 have b:zf3 28=100:=by decide
 rw [a,b] at h;omega
theorem zd5 {x:Ins} (h:inM x=true):0≤x.2.1:=(zgl h).1
theorem zeo {f:Nat} (h:zkg l f=true) (hf:iO9 l f=28):∃p,zag l f l.length=[p]∧f<p:=by
 rw [zkg,if_pos hf,Bool.and_eq_true,beq_iff_eq,decide_eq_true_eq] at h;obtain ⟨h1,h2⟩:=h;match hk:zag l f l.length,h1 with
 | [p],_ =>
  rw [hk] at h2;refine ⟨p,rfl,?_⟩;have hp:p∈zag l f l.length:=by rw [hk];exact List.mem_singleton.2 rfl
  rw [jk] at hp;have hne:f≠p:=fun e=>by rw [e,hp.2.1] at hf;cases hf
  simp at h2;omega
theorem zh6 (hok:∀f,f<l.length→zkg l f=true):∀k,k≤l.length→(qy l k).Pairwise (fun x y=>x.1<y.1)
 | 0,_=>by simp [qy]
 | k+1,hk=>by
  rw [zdm,List.pairwise_append];refine ⟨zh6 hok k (by omega),?_,fun x hx y hy=>?_⟩
  ·unfold ztv;split
   ·rename_i h;obtain ⟨p,hp,-⟩:=zeo (hok k (by omega)) h;rw [zfr,hp];simp
   ·exact List.Pairwise.nil
  ·obtain ⟨f,hf,-,p,-,rfl⟩:=zbs.1 hx;unfold ztv at hy;split at hy
   ·rw [zfr,List.mem_map] at hy;obtain ⟨p2,-,rfl⟩:=hy;exact hf
   ·cases hy
theorem za (h:jc l=0):jq l=true∧ze2 l=true∧ns9 (qy l l.length) l.length=true∧(la9 l=31∨la9 l=32)∧(List.range l.length).all (jp9 l (qy l l.length))=true:=by
 unfold jc at h;split at h
 ·rename_i h1;split at h
  ·rename_i h2;exact ⟨h1,h2⟩
  ·cases h
 ·cases h
theorem qw (h:jq l=true):1≤l.length∧l.length≤200∧∀x∈l,inM x=true:=by
 unfold jq at h;simp only [Bool.and_eq_true,decide_eq_true_eq,List.all_eq_true] at h;exact ⟨h.1.1,h.1.2,h.2⟩
theorem wl9 (h:jc l=0):Wl9 l (qy l l.length):=by
 obtain ⟨hc,hok,hns,hla,hj⟩:=za h;obtain ⟨c1,c2,c3⟩:=qw hc;rw [ze2,Bool.and_eq_true,List.all_eq_true,List.all_eq_true] at hok;have okf:∀f,f<l.length→zkg l f=true:=fun f hf=>hok.1 f (List.mem_range.2 hf);have oka:∀p,p<l.length→zkk l p=true:=fun p hp=>hok.2 p (List.mem_range.2 hp);rw [ns9,Bool.and_eq_true,List.all_eq_true] at hns;have hso:=zh6 okf l.length (Nat.le_refl _);refine ⟨fun x hx=>?_,fun p hp h0=>?_,fun p hp h0=>?_,hso,fun x hx y hy hne hc1 hc2=>?_,fun p hp h0=>?_,hla,c1⟩
 ·obtain ⟨f,hf,h0,p,hp,rfl⟩:=zbs.1 hx;obtain ⟨p2,hp2,hlt⟩:=zeo (okf f hf) h0;rw [hp2,List.mem_singleton] at hp;subst hp;have hm:p∈zag l f l.length:=by rw [hp2];exact List.mem_singleton.2 rfl
  rw [jk] at hm;obtain ⟨m1,m2,m3⟩:=zd0 hf;have ht:=zr7 (c3 _ m1) (by rw [←m2];exact h0);rw [←m3] at ht;exact ⟨hlt,hm.1,h0,hm.2.1,hm.2.2,rfl,ht.1,ht.2⟩
 ·obtain ⟨q,hq,-⟩:=zeo (okf p hp) h0;exact ⟨(p,q,iA9 l p),zbs.2 ⟨p,hp,h0,q,by rw [hq];exact List.mem_singleton.2 rfl,rfl⟩,rfl⟩
 ·have:=oka p hp;rw [zkk,if_pos h0,Bool.and_eq_true,decide_eq_true_eq,beq_iff_eq] at this;obtain ⟨m1,m2,m3⟩:=zd0 hp;have hnn:=zd5 (c3 _ m1);rw [←m3] at hnn;exact ⟨((iA9 l p).toNat,p,iA9 l (iA9 l p).toNat),zbs.2 ⟨(iA9 l p).toNat,by omega,this.2,p,jk.2 ⟨hp,h0,by omega⟩,rfl⟩,rfl⟩
 ·obtain ⟨i,hi,rfl⟩:=List.getElem_of_mem hx;obtain ⟨j,hj2,rfl⟩:=List.getElem_of_mem hy
  have key:∀i j,(hi:i<(qy l l.length).length)→(hj:j<(qy l l.length).length)→j<i→np9 ((qy l l.length)[i]) ((qy l l.length)[j])=true:=fun i j hi hj hji=>by
   have a:=hns.1 i (List.mem_range.2 hi);rw [List.all_eq_true] at a;have b:=a j (List.mem_range.2 hji);rw [List.getD_eq_getElem?_getD,List.getD_eq_getElem?_getD,zg7 hi,zg7 hj] at b;exact b
  have un:∀x y:Lp,np9 x y=true→x.1<y.2.1→y.1<x.2.1→(wi9 y x.1=true∧wi9 y x.2.1=true)∨(wi9 x y.1=true∧wi9 x y.2.1=true):=fun x y hn a b=>by
   simp only [np9,cm9,is9,a,b,decide_true,Bool.true_and] at hn;revert hn;cases wi9 y x.1<;>cases wi9 y x.2.1<;>cases wi9 x y.1<;>cases wi9 x y.2.1<;>simp
  rcases Nat.lt_trichotomy i j with hij | rfl | hij
  ·exact (un _ _ (key j i hj2 hi hij) hc2 hc1).symm
  ·exact absurd rfl hne
  ·exact un _ _ (key i j hi hj2 hij) hc1 hc2
 ·rw [List.all_eq_true] at hj;have:=hj p (List.mem_range.2 hp);rw [jp9,if_pos h0,Bool.and_eq_true,Bool.and_eq_true,decide_eq_true_eq,decide_eq_true_eq,List.all_eq_true] at this;obtain ⟨a,b,c⟩:=this;refine ⟨a,b,fun x hx hw=>?_⟩;have:=c x hx;rw [hw] at this;simpa using this
theorem zi8 (xs:List Lp) (h:∀x∈xs,1≤x.2.2):∀a:Int,xs.foldl (fun a x=>a*x.2.2) a=a*(pr9 xs:Int):=by
 induction xs with
 | nil=>intro a;simp [pr9]
 | cons x xs ih =>
  intro a;have hx:=h x List.mem_cons_self;rw [List.foldl_cons,ih (fun y hy=>h y (List.mem_cons_of_mem _ hy)),pr9,K9];rw [Int.natCast_mul,Int.toNat_of_nonneg (by omega),Int.mul_assoc]
theorem qcj {out:List Lp} (h:Wl9 l out) (p:Nat):tm9 out p=(pr9 (lq9 out p):Int):=by
 rw [tm9,zi8 _ (fun x hx=>(h.mem x (zk3.1 hx).1).2.2.2.2.2.2.1)];simp
end
def tkL (n:Int):List Int:=
 if n=24 then [3,1,1] else if n=23 then [3,1] else if n=25 then [3] else if 9≤n∧n≤16 then [1,1] else if n=22∨n=27 then [1] else if n=19∨n=20 then [2,2] else if n=17∨n=18∨n=21 then [2] else if n=6 then [0] else []
def gvL (n:Int):List Int:=
 if (9≤n∧n≤15)∨n=17∨n=18∨n=23∨n=25 then [1] else if n=16∨n=19∨n=20∨n=21 then [2] else if n=22 then [3] else []
def fxB (n:Int):Bool:=decide (n=0∨n=6∨(9≤n∧n≤29)∨n=32)
theorem qz (w:World) (base:Nat):w.ownsRow base 5 1 (.slice none 0 0) 0 (cel []):=World.ownsRow_nil w base 5 1
theorem zk4 (w:World) (x:Int):(w.alloc (.cells #[.int .u8 x] 5)).ownsRow w.heap.size 5 1 (.slice (some ⟨w.heap.size,0,none⟩) 1 1) 1 (cel [x]):=by
 have:=World.ownsRow_lit (base:=w.heap.size) (e:=5) (size:=1) w (cel [x]).toArray 1 (Nat.le_refl _) (by unfold maxLen;omega) (by simp [zo]);simpa [cel] using this
theorem zqb (n : Int) (w : World) : Calls Tryz.prog 249 #[.int .u8 n] w fun e w' => ∃ A c, e = .returned (.slice A (gvL n).length c) ∧ w'.ownsRow w.heap.size 5 1 (.slice A (gvL n).length c) (gvL n).length (cel (gvL n)) ∧ Below w.heap.size w w' := by
  have O1 := Lib.hid (zk4 w 1)
  have O2 := Lib.hid (zk4 w 2)
  have O3 := Lib.hid (zk4 w 3)
  have O0 := Lib.hid (qz w w.heap.size)
  go_enter Tryz.func249, Tryz.ntmps249
  go_wp2_with fail
  all_goals go_ret
  all_goals first
    | (have hg : gvL n = [1] := by simp_all [gvL]
       rw [hg]; exact ⟨_, _, rfl, O1.o, qh⟩)
    | (have hg : gvL n = [2] := by simp_all [gvL]
       rw [hg]; exact ⟨_, _, rfl, O2.o, qh⟩)
    | (have hg : gvL n = [3] := by simp_all [gvL]
       rw [hg]; exact ⟨_, _, rfl, O3.o, qh⟩)
    | (have hg : gvL n = [] := by simp_all [gvL]; omega
       rw [hg]; exact ⟨_, _, rfl, O0.o, Below.refl _ _⟩)
theorem zo9 (A:Option Addr) (c:Nat) (w:World):Calls Tryz.prog 257 #[.slice A 0 c] w fun e w'=>e=.returned (.tuple #[])∧w=w':=by
 go_enter Tryz.func257,Tryz.ntmps257;go_wp2_with fail;go_loop [2,3] (fun i j=>i=.int .i64 0∧j=.int .i64 (-1)) (fun _ _=>0)
 case atStart=>exact ⟨rfl,rfl⟩
 case round =>
  obtain ⟨rfl,rfl⟩:=hrel;go_wp2_with fail;go_end0;exact ⟨rfl,rfl⟩
theorem zku (A:Option Addr) (c:Nat) (w:World):Calls Tryz.prog 257 #[.slice A 1 c] w fun e w'=>e=.returned (.tuple #[])∧w=w':=by
 go_enter Tryz.func257,Tryz.ntmps257;go_wp2_with fail;go_loop [2,3] (fun i j=>i=.int .i64 0∧j=.int .i64 0) (fun _ _=>0)
 case atStart=>exact ⟨rfl,rfl⟩
 case round =>
  obtain ⟨rfl,rfl⟩:=hrel;go_wp2_with fail;go_end0;exact ⟨rfl,rfl⟩
theorem zfl (A:Option Addr) (c:Nat) (x y:Int) (base:Nat) (w:World) (ho:w.ownsRow base 5 1 (.slice A 2 c) 2 (cel [x,y])) :
  Calls Tryz.prog 257 #[.slice A 2 c] w fun e w'=>e=.returned (.tuple #[])∧w'.ownsRow base 5 1 (.slice A 2 c) 2 (cel [y,x])∧Below base w w':=by
 obtain ⟨g,rfl,hg⟩:=zah ho (by omega);have c0:w.cell? ⟨g,0,none⟩=some (.int .u8 x):=ho.cellAt 0 (by omega);have c1:w.cell? ⟨g,1,none⟩=some (.int .u8 y):=ho.cellAt 1 (by omega);have f0:=ho.frozenAt 0;have f1:=ho.frozenAt 1;have hs:((w.setCell ⟨g,0,none⟩ (.int .u8 y)).setCell ⟨g,1,none⟩ (.int .u8 x)).ownsRow base 5 1 (.slice (some ⟨g,0,none⟩) 2 c) 2 (cel [y,x]):=((ho.stored 0 (.int .u8 y)).1.stored 1 (.int .u8 x)).1;have HS:=zhy hs;clear hs ho;go_enter Tryz.func257,Tryz.ntmps257;go_wp2_with fail;go_loopw [2,3] (fun i j wr=>(i=.int .i64 0∧j=.int .i64 1∧wr=w)∨(i=.int .i64 1∧j=.int .i64 0∧Hid (wr.ownsRow base 5 1 (.slice (some ⟨g,0,none⟩) 2 c) 2 (cel [y,x])∧Below base w wr))) (fun i _ _=>(2-intOf i).toNat)
 case atStart=>exact .inl ⟨rfl,rfl,rfl⟩
 case round =>
  rcases hrel with ⟨rfl,rfl,rfl⟩ | ⟨rfl,rfl,HI⟩
  ·go_upto_region 3 with (fail);go_region;all_goals (try go_wp2_with fail)
   all_goals go_roundw
   case rel=>exact .inr ⟨rfl,rfl,zhy ⟨HS.o,qf (((Below.refl _ _).setCell hg _).setCell hg _) 1⟩⟩
   case measure=>decide
  ·go_wp2_with fail;go_end0;exact ⟨rfl,HI.o⟩
theorem qdj (A:Option Addr) (c:Nat) (x y z:Int) (base:Nat) (w:World) (ho:w.ownsRow base 5 1 (.slice A 3 c) 3 (cel [x,y,z])) :
  Calls Tryz.prog 257 #[.slice A 3 c] w fun e w'=>e=.returned (.tuple #[])∧w'.ownsRow base 5 1 (.slice A 3 c) 3 (cel [z,y,x])∧Below base w w':=by
 obtain ⟨g,rfl,hg⟩:=zah ho (by omega);have c0:w.cell? ⟨g,0,none⟩=some (.int .u8 x):=ho.cellAt 0 (by omega);have c1:w.cell? ⟨g,1,none⟩=some (.int .u8 y):=ho.cellAt 1 (by omega);have c2:w.cell? ⟨g,2,none⟩=some (.int .u8 z):=ho.cellAt 2 (by omega);have f0:=ho.frozenAt 0;have f2:=ho.frozenAt 2;have hs:((w.setCell ⟨g,0,none⟩ (.int .u8 z)).setCell ⟨g,2,none⟩ (.int .u8 x)).ownsRow base 5 1 (.slice (some ⟨g,0,none⟩) 3 c) 3 (cel [z,y,x]):=((ho.stored 0 (.int .u8 z)).1.stored 2 (.int .u8 x)).1;have HS:=zhy hs;clear hs ho;go_enter Tryz.func257,Tryz.ntmps257;go_wp2_with fail;go_loopw [2,3] (fun i j wr=>(i=.int .i64 0∧j=.int .i64 2∧wr=w)∨(i=.int .i64 1∧j=.int .i64 1∧Hid (wr.ownsRow base 5 1 (.slice (some ⟨g,0,none⟩) 3 c) 3 (cel [z,y,x])∧Below base w wr))) (fun i _ _=>(2-intOf i).toNat)
 case atStart=>exact .inl ⟨rfl,rfl,rfl⟩
 case round =>
  rcases hrel with ⟨rfl,rfl,rfl⟩ | ⟨rfl,rfl,HI⟩
  ·go_upto_region 3 with (fail);go_region;all_goals (try go_wp2_with fail)
   all_goals go_roundw
   case rel=>exact .inr ⟨rfl,rfl,zhy ⟨HS.o,qf (((Below.refl _ _).setCell hg _).setCell hg _) 1⟩⟩
   case measure=>decide
  ·go_wp2_with fail;go_end0;exact ⟨rfl,HI.o⟩
theorem zg {w w':World} {a:Obj} (h:Below w.heap.size (w.alloc a) w'):Below w.heap.size w w':=qh.trans h
theorem zxy (w:World):Calls Tryz.prog 248 #[.int .u8 0] w fun e w'=>∃A c,e=.returned (.tuple #[.slice A 0 c,.bool true])∧w'.ownsRow w.heap.size 5 1 (.slice A 0 c) 0 (cel [])∧Below w.heap.size w w':=by
 have hinfo:=Tryz.info5;rw [Option.map_eq_some_iff] at hinfo;obtain ⟨i0,hi,hz⟩:=hinfo;simp only [Prod.mk.injEq] at hz;obtain ⟨hz0,hz1,hz2⟩:=hz;go_enter Tryz.func248,Tryz.ntmps248;go_wp2_with fail;refine (zo9 _ _ _).mono ?_;rintro e w1 ⟨rfl,rfl⟩;go_wp2_with fail;go_ret2;exact ⟨_,_,rfl,qz _ _,Below.refl _ _⟩
theorem zyu (w:World):Calls Tryz.prog 248 #[.int .u8 6] w fun e w'=>∃A c,e=.returned (.tuple #[.slice A 1 c,.bool true])∧w'.ownsRow w.heap.size 5 1 (.slice A 1 c) 1 (cel [0])∧Below w.heap.size w w':=by
 have hinfo:=Tryz.info5;rw [Option.map_eq_some_iff] at hinfo;obtain ⟨i0,hi,hz⟩:=hinfo;simp only [Prod.mk.injEq] at hz;obtain ⟨hz0,hz1,hz2⟩:=hz;go_enter Tryz.func248,Tryz.ntmps248;go_wp2_with (at_builtin;refine qa _ rfl _ _ 40 rfl w.heap.size 5 i0 Tryz.underlying40 hi hz0 hz1 hz2 _ 0 [] rfl (qz _ w.heap.size) _ 1 1 [0] rfl (qo w 0 (by decide)) rfl (by omega) (by simp) ?_);intro A1 c1 w1 hown1 hg1 hb1 _;have O1:=zhy hown1;have B1:=zhy (zg hb1);clear hown1 hg1 hb1;go_wp2_with fail;refine (zku _ _ _).mono ?_;rintro e w2 ⟨rfl,rfl⟩;go_wp2_with fail;go_ret2;exact ⟨_,_,rfl,O1.o,B1.o⟩
theorem zz9 (w:World):Calls Tryz.prog 248 #[.int .u8 9] w fun e w'=>∃A c,e=.returned (.tuple #[.slice A 2 c,.bool true])∧w'.ownsRow w.heap.size 5 1 (.slice A 2 c) 2 (cel [1,1])∧Below w.heap.size w w':=by
 have hinfo:=Tryz.info5;rw [Option.map_eq_some_iff] at hinfo;obtain ⟨i0,hi,hz⟩:=hinfo;simp only [Prod.mk.injEq] at hz;obtain ⟨hz0,hz1,hz2⟩:=hz;go_enter Tryz.func248,Tryz.ntmps248;go_wp2_with (at_builtin;refine qa _ rfl _ _ 40 rfl w.heap.size 5 i0 Tryz.underlying40 hi hz0 hz1 hz2 _ 0 [] rfl (qz _ w.heap.size) _ 1 1 [1] rfl (qo w 1 (by decide)) rfl (by omega) (by simp) ?_);intro A1 c1 w1 hown1 hg1 hb1 _;have O1:=zhy hown1;have B1:=zhy (zg hb1);clear hown1 hg1 hb1;go_wp2_with (at_builtin;refine qa _ rfl _ _ 40 rfl w.heap.size 5 i0 Tryz.underlying40 hi hz0 hz1 hz2 _ 1 [1] rfl (qb O1.o qh (Nat.le_refl _)) _ 1 1 [1] rfl (qo w1 1 (by decide)) rfl (by omega) (Nat.le_trans B1.o.size (by simp)) ?_);intro A2 c2 w2 hown2 hg2 hb2 _;have O2:=zhy hown2;have B2:=zhy ((B1.o.trans ((Below.refl _ _).alloc B1.o.size _)).trans hb2);clear hown2 hg2 hb2;go_wp2_with fail;refine (zfl _ _ 1 1 w.heap.size _ O2.o).mono ?_;rintro e w9 ⟨rfl,ho9,hb9⟩;have O9:=zhy ho9;have B9:=zhy (B2.o.trans hb9);clear ho9 hb9;go_wp2_with fail;go_ret2;exact ⟨_,_,rfl,O9.o,B9.o⟩
theorem zsx (w:World):Calls Tryz.prog 248 #[.int .u8 10] w fun e w'=>∃A c,e=.returned (.tuple #[.slice A 2 c,.bool true])∧w'.ownsRow w.heap.size 5 1 (.slice A 2 c) 2 (cel [1,1])∧Below w.heap.size w w':=by
 have hinfo:=Tryz.info5;rw [Option.map_eq_some_iff] at hinfo;obtain ⟨i0,hi,hz⟩:=hinfo;simp only [Prod.mk.injEq] at hz;obtain ⟨hz0,hz1,hz2⟩:=hz;go_enter Tryz.func248,Tryz.ntmps248;go_wp2_with (at_builtin;refine qa _ rfl _ _ 40 rfl w.heap.size 5 i0 Tryz.underlying40 hi hz0 hz1 hz2 _ 0 [] rfl (qz _ w.heap.size) _ 1 1 [1] rfl (qo w 1 (by decide)) rfl (by omega) (by simp) ?_);intro A1 c1 w1 hown1 hg1 hb1 _;have O1:=zhy hown1;have B1:=zhy (zg hb1);clear hown1 hg1 hb1;go_wp2_with (at_builtin;refine qa _ rfl _ _ 40 rfl w.heap.size 5 i0 Tryz.underlying40 hi hz0 hz1 hz2 _ 1 [1] rfl (qb O1.o qh (Nat.le_refl _)) _ 1 1 [1] rfl (qo w1 1 (by decide)) rfl (by omega) (Nat.le_trans B1.o.size (by simp)) ?_);intro A2 c2 w2 hown2 hg2 hb2 _;have O2:=zhy hown2;have B2:=zhy ((B1.o.trans ((Below.refl _ _).alloc B1.o.size _)).trans hb2);clear hown2 hg2 hb2;go_wp2_with fail;refine (zfl _ _ 1 1 w.heap.size _ O2.o).mono ?_;rintro e w9 ⟨rfl,ho9,hb9⟩;have O9:=zhy ho9;have B9:=zhy (B2.o.trans hb9);clear ho9 hb9;go_wp2_with fail;go_ret2;exact ⟨_,_,rfl,O9.o,B9.o⟩
theorem zu5 (w:World):Calls Tryz.prog 248 #[.int .u8 11] w fun e w'=>∃A c,e=.returned (.tuple #[.slice A 2 c,.bool true])∧w'.ownsRow w.heap.size 5 1 (.slice A 2 c) 2 (cel [1,1])∧Below w.heap.size w w':=by
 have hinfo:=Tryz.info5;rw [Option.map_eq_some_iff] at hinfo;obtain ⟨i0,hi,hz⟩:=hinfo;simp only [Prod.mk.injEq] at hz;obtain ⟨hz0,hz1,hz2⟩:=hz;go_enter Tryz.func248,Tryz.ntmps248;go_wp2_with (at_builtin;refine qa _ rfl _ _ 40 rfl w.heap.size 5 i0 Tryz.underlying40 hi hz0 hz1 hz2 _ 0 [] rfl (qz _ w.heap.size) _ 1 1 [1] rfl (qo w 1 (by decide)) rfl (by omega) (by simp) ?_);intro A1 c1 w1 hown1 hg1 hb1 _;have O1:=zhy hown1;have B1:=zhy (zg hb1);clear hown1 hg1 hb1;go_wp2_with (at_builtin;refine qa _ rfl _ _ 40 rfl w.heap.size 5 i0 Tryz.underlying40 hi hz0 hz1 hz2 _ 1 [1] rfl (qb O1.o qh (Nat.le_refl _)) _ 1 1 [1] rfl (qo w1 1 (by decide)) rfl (by omega) (Nat.le_trans B1.o.size (by simp)) ?_);intro A2 c2 w2 hown2 hg2 hb2 _;have O2:=zhy hown2;have B2:=zhy ((B1.o.trans ((Below.refl _ _).alloc B1.o.size _)).trans hb2);clear hown2 hg2 hb2;go_wp2_with fail;refine (zfl _ _ 1 1 w.heap.size _ O2.o).mono ?_;rintro e w9 ⟨rfl,ho9,hb9⟩;have O9:=zhy ho9;have B9:=zhy (B2.o.trans hb9);clear ho9 hb9;go_wp2_with fail;go_ret2;exact ⟨_,_,rfl,O9.o,B9.o⟩
theorem zs7 (w:World):Calls Tryz.prog 248 #[.int .u8 12] w fun e w'=>∃A c,e=.returned (.tuple #[.slice A 2 c,.bool true])∧w'.ownsRow w.heap.size 5 1 (.slice A 2 c) 2 (cel [1,1])∧Below w.heap.size w w':=by
 have hinfo:=Tryz.info5;rw [Option.map_eq_some_iff] at hinfo;obtain ⟨i0,hi,hz⟩:=hinfo;simp only [Prod.mk.injEq] at hz;obtain ⟨hz0,hz1,hz2⟩:=hz;go_enter Tryz.func248,Tryz.ntmps248;go_wp2_with (at_builtin;refine qa _ rfl _ _ 40 rfl w.heap.size 5 i0 Tryz.underlying40 hi hz0 hz1 hz2 _ 0 [] rfl (qz _ w.heap.size) _ 1 1 [1] rfl (qo w 1 (by decide)) rfl (by omega) (by simp) ?_);intro A1 c1 w1 hown1 hg1 hb1 _;have O1:=zhy hown1;have B1:=zhy (zg hb1);clear hown1 hg1 hb1;go_wp2_with (at_builtin;refine qa _ rfl _ _ 40 rfl w.heap.size 5 i0 Tryz.underlying40 hi hz0 hz1 hz2 _ 1 [1] rfl (qb O1.o qh (Nat.le_refl _)) _ 1 1 [1] rfl (qo w1 1 (by decide)) rfl (by omega) (Nat.le_trans B1.o.size (by simp)) ?_);intro A2 c2 w2 hown2 hg2 hb2 _;have O2:=zhy hown2;have B2:=zhy ((B1.o.trans ((Below.refl _ _).alloc B1.o.size _)).trans hb2);clear hown2 hg2 hb2;go_wp2_with fail;refine (zfl _ _ 1 1 w.heap.size _ O2.o).mono ?_;rintro e w9 ⟨rfl,ho9,hb9⟩;have O9:=zhy ho9;have B9:=zhy (B2.o.trans hb9);clear ho9 hb9;go_wp2_with fail;go_ret2;exact ⟨_,_,rfl,O9.o,B9.o⟩
theorem zuy (w:World):Calls Tryz.prog 248 #[.int .u8 13] w fun e w'=>∃A c,e=.returned (.tuple #[.slice A 2 c,.bool true])∧w'.ownsRow w.heap.size 5 1 (.slice A 2 c) 2 (cel [1,1])∧Below w.heap.size w w':=by
 have hinfo:=Tryz.info5;rw [Option.map_eq_some_iff] at hinfo;obtain ⟨i0,hi,hz⟩:=hinfo;simp only [Prod.mk.injEq] at hz;obtain ⟨hz0,hz1,hz2⟩:=hz;go_enter Tryz.func248,Tryz.ntmps248;go_wp2_with (at_builtin;refine qa _ rfl _ _ 40 rfl w.heap.size 5 i0 Tryz.underlying40 hi hz0 hz1 hz2 _ 0 [] rfl (qz _ w.heap.size) _ 1 1 [1] rfl (qo w 1 (by decide)) rfl (by omega) (by simp) ?_);intro A1 c1 w1 hown1 hg1 hb1 _;have O1:=zhy hown1;have B1:=zhy (zg hb1);clear hown1 hg1 hb1;go_wp2_with (at_builtin;refine qa _ rfl _ _ 40 rfl w.heap.size 5 i0 Tryz.underlying40 hi hz0 hz1 hz2 _ 1 [1] rfl (qb O1.o qh (Nat.le_refl _)) _ 1 1 [1] rfl (qo w1 1 (by decide)) rfl (by omega) (Nat.le_trans B1.o.size (by simp)) ?_);intro A2 c2 w2 hown2 hg2 hb2 _;have O2:=zhy hown2;have B2:=zhy ((B1.o.trans ((Below.refl _ _).alloc B1.o.size _)).trans hb2);clear hown2 hg2 hb2;go_wp2_with fail;refine (zfl _ _ 1 1 w.heap.size _ O2.o).mono ?_;rintro e w9 ⟨rfl,ho9,hb9⟩;have O9:=zhy ho9;have B9:=zhy (B2.o.trans hb9);clear ho9 hb9;go_wp2_with fail;go_ret2;exact ⟨_,_,rfl,O9.o,B9.o⟩
theorem ztf (w:World):Calls Tryz.prog 248 #[.int .u8 14] w fun e w'=>∃A c,e=.returned (.tuple #[.slice A 2 c,.bool true])∧w'.ownsRow w.heap.size 5 1 (.slice A 2 c) 2 (cel [1,1])∧Below w.heap.size w w':=by
 have hinfo:=Tryz.info5;rw [Option.map_eq_some_iff] at hinfo;obtain ⟨i0,hi,hz⟩:=hinfo;simp only [Prod.mk.injEq] at hz;obtain ⟨hz0,hz1,hz2⟩:=hz;go_enter Tryz.func248,Tryz.ntmps248;go_wp2_with (at_builtin;refine qa _ rfl _ _ 40 rfl w.heap.size 5 i0 Tryz.underlying40 hi hz0 hz1 hz2 _ 0 [] rfl (qz _ w.heap.size) _ 1 1 [1] rfl (qo w 1 (by decide)) rfl (by omega) (by simp) ?_);intro A1 c1 w1 hown1 hg1 hb1 _;have O1:=zhy hown1;have B1:=zhy (zg hb1);clear hown1 hg1 hb1;go_wp2_with (at_builtin;refine qa _ rfl _ _ 40 rfl w.heap.size 5 i0 Tryz.underlying40 hi hz0 hz1 hz2 _ 1 [1] rfl (qb O1.o qh (Nat.le_refl _)) _ 1 1 [1] rfl (qo w1 1 (by decide)) rfl (by omega) (Nat.le_trans B1.o.size (by simp)) ?_);intro A2 c2 w2 hown2 hg2 hb2 _;have O2:=zhy hown2;have B2:=zhy ((B1.o.trans ((Below.refl _ _).alloc B1.o.size _)).trans hb2);clear hown2 hg2 hb2;go_wp2_with fail;refine (zfl _ _ 1 1 w.heap.size _ O2.o).mono ?_;rintro e w9 ⟨rfl,ho9,hb9⟩;have O9:=zhy ho9;have B9:=zhy (B2.o.trans hb9);clear ho9 hb9;go_wp2_with fail;go_ret2;exact ⟨_,_,rfl,O9.o,B9.o⟩
theorem zt4 (w:World):Calls Tryz.prog 248 #[.int .u8 15] w fun e w'=>∃A c,e=.returned (.tuple #[.slice A 2 c,.bool true])∧w'.ownsRow w.heap.size 5 1 (.slice A 2 c) 2 (cel [1,1])∧Below w.heap.size w w':=by
 have hinfo:=Tryz.info5;rw [Option.map_eq_some_iff] at hinfo;obtain ⟨i0,hi,hz⟩:=hinfo;simp only [Prod.mk.injEq] at hz;obtain ⟨hz0,hz1,hz2⟩:=hz;go_enter Tryz.func248,Tryz.ntmps248;go_wp2_with (at_builtin;refine qa _ rfl _ _ 40 rfl w.heap.size 5 i0 Tryz.underlying40 hi hz0 hz1 hz2 _ 0 [] rfl (qz _ w.heap.size) _ 1 1 [1] rfl (qo w 1 (by decide)) rfl (by omega) (by simp) ?_);intro A1 c1 w1 hown1 hg1 hb1 _;have O1:=zhy hown1;have B1:=zhy (zg hb1);clear hown1 hg1 hb1;go_wp2_with (at_builtin;refine qa _ rfl _ _ 40 rfl w.heap.size 5 i0 Tryz.underlying40 hi hz0 hz1 hz2 _ 1 [1] rfl (qb O1.o qh (Nat.le_refl _)) _ 1 1 [1] rfl (qo w1 1 (by decide)) rfl (by omega) (Nat.le_trans B1.o.size (by simp)) ?_);intro A2 c2 w2 hown2 hg2 hb2 _;have O2:=zhy hown2;have B2:=zhy ((B1.o.trans ((Below.refl _ _).alloc B1.o.size _)).trans hb2);clear hown2 hg2 hb2;go_wp2_with fail;refine (zfl _ _ 1 1 w.heap.size _ O2.o).mono ?_;rintro e w9 ⟨rfl,ho9,hb9⟩;have O9:=zhy ho9;have B9:=zhy (B2.o.trans hb9);clear ho9 hb9;go_wp2_with fail;go_ret2;exact ⟨_,_,rfl,O9.o,B9.o⟩
theorem zuj (w:World):Calls Tryz.prog 248 #[.int .u8 16] w fun e w'=>∃A c,e=.returned (.tuple #[.slice A 2 c,.bool true])∧w'.ownsRow w.heap.size 5 1 (.slice A 2 c) 2 (cel [1,1])∧Below w.heap.size w w':=by
 have hinfo:=Tryz.info5;rw [Option.map_eq_some_iff] at hinfo;obtain ⟨i0,hi,hz⟩:=hinfo;simp only [Prod.mk.injEq] at hz;obtain ⟨hz0,hz1,hz2⟩:=hz;go_enter Tryz.func248,Tryz.ntmps248;go_wp2_with (at_builtin;refine qa _ rfl _ _ 40 rfl w.heap.size 5 i0 Tryz.underlying40 hi hz0 hz1 hz2 _ 0 [] rfl (qz _ w.heap.size) _ 1 1 [1] rfl (qo w 1 (by decide)) rfl (by omega) (by simp) ?_);intro A1 c1 w1 hown1 hg1 hb1 _;have O1:=zhy hown1;have B1:=zhy (zg hb1);clear hown1 hg1 hb1;go_wp2_with (at_builtin;refine qa _ rfl _ _ 40 rfl w.heap.size 5 i0 Tryz.underlying40 hi hz0 hz1 hz2 _ 1 [1] rfl (qb O1.o qh (Nat.le_refl _)) _ 1 1 [1] rfl (qo w1 1 (by decide)) rfl (by omega) (Nat.le_trans B1.o.size (by simp)) ?_);intro A2 c2 w2 hown2 hg2 hb2 _;have O2:=zhy hown2;have B2:=zhy ((B1.o.trans ((Below.refl _ _).alloc B1.o.size _)).trans hb2);clear hown2 hg2 hb2;go_wp2_with fail;refine (zfl _ _ 1 1 w.heap.size _ O2.o).mono ?_;rintro e w9 ⟨rfl,ho9,hb9⟩;have O9:=zhy ho9;have B9:=zhy (B2.o.trans hb9);clear ho9 hb9;go_wp2_with fail;go_ret2;exact ⟨_,_,rfl,O9.o,B9.o⟩
theorem ztx (w:World):Calls Tryz.prog 248 #[.int .u8 17] w fun e w'=>∃A c,e=.returned (.tuple #[.slice A 1 c,.bool true])∧w'.ownsRow w.heap.size 5 1 (.slice A 1 c) 1 (cel [2])∧Below w.heap.size w w':=by
 have hinfo:=Tryz.info5;rw [Option.map_eq_some_iff] at hinfo;obtain ⟨i0,hi,hz⟩:=hinfo;simp only [Prod.mk.injEq] at hz;obtain ⟨hz0,hz1,hz2⟩:=hz;go_enter Tryz.func248,Tryz.ntmps248;go_wp2_with (at_builtin;refine qa _ rfl _ _ 40 rfl w.heap.size 5 i0 Tryz.underlying40 hi hz0 hz1 hz2 _ 0 [] rfl (qz _ w.heap.size) _ 1 1 [2] rfl (qo w 2 (by decide)) rfl (by omega) (by simp) ?_);intro A1 c1 w1 hown1 hg1 hb1 _;have O1:=zhy hown1;have B1:=zhy (zg hb1);clear hown1 hg1 hb1;go_wp2_with fail;refine (zku _ _ _).mono ?_;rintro e w2 ⟨rfl,rfl⟩;go_wp2_with fail;go_ret2;exact ⟨_,_,rfl,O1.o,B1.o⟩
theorem ztd (w:World):Calls Tryz.prog 248 #[.int .u8 18] w fun e w'=>∃A c,e=.returned (.tuple #[.slice A 1 c,.bool true])∧w'.ownsRow w.heap.size 5 1 (.slice A 1 c) 1 (cel [2])∧Below w.heap.size w w':=by
 have hinfo:=Tryz.info5;rw [Option.map_eq_some_iff] at hinfo;obtain ⟨i0,hi,hz⟩:=hinfo;simp only [Prod.mk.injEq] at hz;obtain ⟨hz0,hz1,hz2⟩:=hz;go_enter Tryz.func248,Tryz.ntmps248;go_wp2_with (at_builtin;refine qa _ rfl _ _ 40 rfl w.heap.size 5 i0 Tryz.underlying40 hi hz0 hz1 hz2 _ 0 [] rfl (qz _ w.heap.size) _ 1 1 [2] rfl (qo w 2 (by decide)) rfl (by omega) (by simp) ?_);intro A1 c1 w1 hown1 hg1 hb1 _;have O1:=zhy hown1;have B1:=zhy (zg hb1);clear hown1 hg1 hb1;go_wp2_with fail;refine (zku _ _ _).mono ?_;rintro e w2 ⟨rfl,rfl⟩;go_wp2_with fail;go_ret2;exact ⟨_,_,rfl,O1.o,B1.o⟩
theorem zv7 (w:World):Calls Tryz.prog 248 #[.int .u8 19] w fun e w'=>∃A c,e=.returned (.tuple #[.slice A 2 c,.bool true])∧w'.ownsRow w.heap.size 5 1 (.slice A 2 c) 2 (cel [2,2])∧Below w.heap.size w w':=by
 have hinfo:=Tryz.info5;rw [Option.map_eq_some_iff] at hinfo;obtain ⟨i0,hi,hz⟩:=hinfo;simp only [Prod.mk.injEq] at hz;obtain ⟨hz0,hz1,hz2⟩:=hz;go_enter Tryz.func248,Tryz.ntmps248;go_wp2_with (at_builtin;refine qa _ rfl _ _ 40 rfl w.heap.size 5 i0 Tryz.underlying40 hi hz0 hz1 hz2 _ 0 [] rfl (qz _ w.heap.size) _ 1 1 [2] rfl (qo w 2 (by decide)) rfl (by omega) (by simp) ?_);intro A1 c1 w1 hown1 hg1 hb1 _;have O1:=zhy hown1;have B1:=zhy (zg hb1);clear hown1 hg1 hb1;go_wp2_with (at_builtin;refine qa _ rfl _ _ 40 rfl w.heap.size 5 i0 Tryz.underlying40 hi hz0 hz1 hz2 _ 1 [2] rfl (qb O1.o qh (Nat.le_refl _)) _ 1 1 [2] rfl (qo w1 2 (by decide)) rfl (by omega) (Nat.le_trans B1.o.size (by simp)) ?_);intro A2 c2 w2 hown2 hg2 hb2 _;have O2:=zhy hown2;have B2:=zhy ((B1.o.trans ((Below.refl _ _).alloc B1.o.size _)).trans hb2);clear hown2 hg2 hb2;go_wp2_with fail;refine (zfl _ _ 2 2 w.heap.size _ O2.o).mono ?_;rintro e w9 ⟨rfl,ho9,hb9⟩;have O9:=zhy ho9;have B9:=zhy (B2.o.trans hb9);clear ho9 hb9;go_wp2_with fail;go_ret2;exact ⟨_,_,rfl,O9.o,B9.o⟩
theorem zt5 (w:World):Calls Tryz.prog 248 #[.int .u8 20] w fun e w'=>∃A c,e=.returned (.tuple #[.slice A 2 c,.bool true])∧w'.ownsRow w.heap.size 5 1 (.slice A 2 c) 2 (cel [2,2])∧Below w.heap.size w w':=by
 have hinfo:=Tryz.info5;rw [Option.map_eq_some_iff] at hinfo;obtain ⟨i0,hi,hz⟩:=hinfo;simp only [Prod.mk.injEq] at hz;obtain ⟨hz0,hz1,hz2⟩:=hz;go_enter Tryz.func248,Tryz.ntmps248;go_wp2_with (at_builtin;refine qa _ rfl _ _ 40 rfl w.heap.size 5 i0 Tryz.underlying40 hi hz0 hz1 hz2 _ 0 [] rfl (qz _ w.heap.size) _ 1 1 [2] rfl (qo w 2 (by decide)) rfl (by omega) (by simp) ?_);intro A1 c1 w1 hown1 hg1 hb1 _;have O1:=zhy hown1;have B1:=zhy (zg hb1);clear hown1 hg1 hb1;go_wp2_with (at_builtin;refine qa _ rfl _ _ 40 rfl w.heap.size 5 i0 Tryz.underlying40 hi hz0 hz1 hz2 _ 1 [2] rfl (qb O1.o qh (Nat.le_refl _)) _ 1 1 [2] rfl (qo w1 2 (by decide)) rfl (by omega) (Nat.le_trans B1.o.size (by simp)) ?_);intro A2 c2 w2 hown2 hg2 hb2 _;have O2:=zhy hown2;have B2:=zhy ((B1.o.trans ((Below.refl _ _).alloc B1.o.size _)).trans hb2);clear hown2 hg2 hb2;go_wp2_with fail;refine (zfl _ _ 2 2 w.heap.size _ O2.o).mono ?_;rintro e w9 ⟨rfl,ho9,hb9⟩;have O9:=zhy ho9;have B9:=zhy (B2.o.trans hb9);clear ho9 hb9;go_wp2_with fail;go_ret2;exact ⟨_,_,rfl,O9.o,B9.o⟩
theorem zuw (w:World):Calls Tryz.prog 248 #[.int .u8 21] w fun e w'=>∃A c,e=.returned (.tuple #[.slice A 1 c,.bool true])∧w'.ownsRow w.heap.size 5 1 (.slice A 1 c) 1 (cel [2])∧Below w.heap.size w w':=by
 have hinfo:=Tryz.info5;rw [Option.map_eq_some_iff] at hinfo;obtain ⟨i0,hi,hz⟩:=hinfo;simp only [Prod.mk.injEq] at hz;obtain ⟨hz0,hz1,hz2⟩:=hz;go_enter Tryz.func248,Tryz.ntmps248;go_wp2_with (at_builtin;refine qa _ rfl _ _ 40 rfl w.heap.size 5 i0 Tryz.underlying40 hi hz0 hz1 hz2 _ 0 [] rfl (qz _ w.heap.size) _ 1 1 [2] rfl (qo w 2 (by decide)) rfl (by omega) (by simp) ?_);intro A1 c1 w1 hown1 hg1 hb1 _;have O1:=zhy hown1;have B1:=zhy (zg hb1);clear hown1 hg1 hb1;go_wp2_with fail;refine (zku _ _ _).mono ?_;rintro e w2 ⟨rfl,rfl⟩;go_wp2_with fail;go_ret2;exact ⟨_,_,rfl,O1.o,B1.o⟩
theorem zvx (w:World):Calls Tryz.prog 248 #[.int .u8 22] w fun e w'=>∃A c,e=.returned (.tuple #[.slice A 1 c,.bool true])∧w'.ownsRow w.heap.size 5 1 (.slice A 1 c) 1 (cel [1])∧Below w.heap.size w w':=by
 have hinfo:=Tryz.info5;rw [Option.map_eq_some_iff] at hinfo;obtain ⟨i0,hi,hz⟩:=hinfo;simp only [Prod.mk.injEq] at hz;obtain ⟨hz0,hz1,hz2⟩:=hz;go_enter Tryz.func248,Tryz.ntmps248;go_wp2_with (at_builtin;refine qa _ rfl _ _ 40 rfl w.heap.size 5 i0 Tryz.underlying40 hi hz0 hz1 hz2 _ 0 [] rfl (qz _ w.heap.size) _ 1 1 [1] rfl (qo w 1 (by decide)) rfl (by omega) (by simp) ?_);intro A1 c1 w1 hown1 hg1 hb1 _;have O1:=zhy hown1;have B1:=zhy (zg hb1);clear hown1 hg1 hb1;go_wp2_with fail;refine (zku _ _ _).mono ?_;rintro e w2 ⟨rfl,rfl⟩;go_wp2_with fail;go_ret2;exact ⟨_,_,rfl,O1.o,B1.o⟩
theorem zs2 (w:World):Calls Tryz.prog 248 #[.int .u8 23] w fun e w'=>∃A c,e=.returned (.tuple #[.slice A 2 c,.bool true])∧w'.ownsRow w.heap.size 5 1 (.slice A 2 c) 2 (cel [3,1])∧Below w.heap.size w w':=by
 have hinfo:=Tryz.info5;rw [Option.map_eq_some_iff] at hinfo;obtain ⟨i0,hi,hz⟩:=hinfo;simp only [Prod.mk.injEq] at hz;obtain ⟨hz0,hz1,hz2⟩:=hz;go_enter Tryz.func248,Tryz.ntmps248;go_wp2_with (at_builtin;refine qa _ rfl _ _ 40 rfl w.heap.size 5 i0 Tryz.underlying40 hi hz0 hz1 hz2 _ 0 [] rfl (qz _ w.heap.size) _ 1 1 [1] rfl (qo w 1 (by decide)) rfl (by omega) (by simp) ?_);intro A1 c1 w1 hown1 hg1 hb1 _;have O1:=zhy hown1;have B1:=zhy (zg hb1);clear hown1 hg1 hb1;go_wp2_with (at_builtin;refine qa _ rfl _ _ 40 rfl w.heap.size 5 i0 Tryz.underlying40 hi hz0 hz1 hz2 _ 1 [1] rfl (qb O1.o qh (Nat.le_refl _)) _ 1 1 [3] rfl (qo w1 3 (by decide)) rfl (by omega) (Nat.le_trans B1.o.size (by simp)) ?_);intro A2 c2 w2 hown2 hg2 hb2 _;have O2:=zhy hown2;have B2:=zhy ((B1.o.trans ((Below.refl _ _).alloc B1.o.size _)).trans hb2);clear hown2 hg2 hb2;go_wp2_with fail;refine (zfl _ _ 1 3 w.heap.size _ O2.o).mono ?_;rintro e w9 ⟨rfl,ho9,hb9⟩;have O9:=zhy ho9;have B9:=zhy (B2.o.trans hb9);clear ho9 hb9;go_wp2_with fail;go_ret2;exact ⟨_,_,rfl,O9.o,B9.o⟩
theorem ztw (w:World):Calls Tryz.prog 248 #[.int .u8 24] w fun e w'=>∃A c,e=.returned (.tuple #[.slice A 3 c,.bool true])∧w'.ownsRow w.heap.size 5 1 (.slice A 3 c) 3 (cel [3,1,1])∧Below w.heap.size w w':=by
 have hinfo:=Tryz.info5;rw [Option.map_eq_some_iff] at hinfo;obtain ⟨i0,hi,hz⟩:=hinfo;simp only [Prod.mk.injEq] at hz;obtain ⟨hz0,hz1,hz2⟩:=hz;go_enter Tryz.func248,Tryz.ntmps248;go_wp2_with (at_builtin;refine qa _ rfl _ _ 40 rfl w.heap.size 5 i0 Tryz.underlying40 hi hz0 hz1 hz2 _ 0 [] rfl (qz _ w.heap.size) _ 1 1 [1] rfl (qo w 1 (by decide)) rfl (by omega) (by simp) ?_);intro A1 c1 w1 hown1 hg1 hb1 _;have O1:=zhy hown1;have B1:=zhy (zg hb1);clear hown1 hg1 hb1;go_wp2_with (at_builtin;refine qa _ rfl _ _ 40 rfl w.heap.size 5 i0 Tryz.underlying40 hi hz0 hz1 hz2 _ 1 [1] rfl (qb O1.o qh (Nat.le_refl _)) _ 1 1 [1] rfl (qo w1 1 (by decide)) rfl (by omega) (Nat.le_trans B1.o.size (by simp)) ?_);intro A2 c2 w2 hown2 hg2 hb2 _;have O2:=zhy hown2;have B2:=zhy ((B1.o.trans ((Below.refl _ _).alloc B1.o.size _)).trans hb2);clear hown2 hg2 hb2;go_wp2_with (at_builtin;refine qa _ rfl _ _ 40 rfl w.heap.size 5 i0 Tryz.underlying40 hi hz0 hz1 hz2 _ 2 [1,1] rfl (qb O2.o qh (Nat.le_refl _)) _ 1 1 [3] rfl (qo w2 3 (by decide)) rfl (by omega) (Nat.le_trans B2.o.size (by simp)) ?_);intro A3 c3 w3 hown3 hg3 hb3 _;have O3:=zhy hown3;have B3:=zhy ((B2.o.trans ((Below.refl _ _).alloc B2.o.size _)).trans hb3);clear hown3 hg3 hb3;go_wp2_with fail;refine (qdj _ _ 1 1 3 w.heap.size _ O3.o).mono ?_;rintro e w9 ⟨rfl,ho9,hb9⟩;have O9:=zhy ho9;have B9:=zhy (B3.o.trans hb9);clear ho9 hb9;go_wp2_with fail;go_ret2;exact ⟨_,_,rfl,O9.o,B9.o⟩
theorem zuz (w:World):Calls Tryz.prog 248 #[.int .u8 25] w fun e w'=>∃A c,e=.returned (.tuple #[.slice A 1 c,.bool true])∧w'.ownsRow w.heap.size 5 1 (.slice A 1 c) 1 (cel [3])∧Below w.heap.size w w':=by
 have hinfo:=Tryz.info5;rw [Option.map_eq_some_iff] at hinfo;obtain ⟨i0,hi,hz⟩:=hinfo;simp only [Prod.mk.injEq] at hz;obtain ⟨hz0,hz1,hz2⟩:=hz;go_enter Tryz.func248,Tryz.ntmps248;go_wp2_with (at_builtin;refine qa _ rfl _ _ 40 rfl w.heap.size 5 i0 Tryz.underlying40 hi hz0 hz1 hz2 _ 0 [] rfl (qz _ w.heap.size) _ 1 1 [3] rfl (qo w 3 (by decide)) rfl (by omega) (by simp) ?_);intro A1 c1 w1 hown1 hg1 hb1 _;have O1:=zhy hown1;have B1:=zhy (zg hb1);clear hown1 hg1 hb1;go_wp2_with fail;refine (zku _ _ _).mono ?_;rintro e w2 ⟨rfl,rfl⟩;go_wp2_with fail;go_ret2;exact ⟨_,_,rfl,O1.o,B1.o⟩
theorem zv1 (w:World):Calls Tryz.prog 248 #[.int .u8 26] w fun e w'=>∃A c,e=.returned (.tuple #[.slice A 0 c,.bool true])∧w'.ownsRow w.heap.size 5 1 (.slice A 0 c) 0 (cel [])∧Below w.heap.size w w':=by
 have hinfo:=Tryz.info5;rw [Option.map_eq_some_iff] at hinfo;obtain ⟨i0,hi,hz⟩:=hinfo;simp only [Prod.mk.injEq] at hz;obtain ⟨hz0,hz1,hz2⟩:=hz;go_enter Tryz.func248,Tryz.ntmps248;go_wp2_with fail;refine (zo9 _ _ _).mono ?_;rintro e w1 ⟨rfl,rfl⟩;go_wp2_with fail;go_ret2;exact ⟨_,_,rfl,qz _ _,Below.refl _ _⟩
theorem zvd (w:World):Calls Tryz.prog 248 #[.int .u8 27] w fun e w'=>∃A c,e=.returned (.tuple #[.slice A 1 c,.bool true])∧w'.ownsRow w.heap.size 5 1 (.slice A 1 c) 1 (cel [1])∧Below w.heap.size w w':=by
 have hinfo:=Tryz.info5;rw [Option.map_eq_some_iff] at hinfo;obtain ⟨i0,hi,hz⟩:=hinfo;simp only [Prod.mk.injEq] at hz;obtain ⟨hz0,hz1,hz2⟩:=hz;go_enter Tryz.func248,Tryz.ntmps248;go_wp2_with (at_builtin;refine qa _ rfl _ _ 40 rfl w.heap.size 5 i0 Tryz.underlying40 hi hz0 hz1 hz2 _ 0 [] rfl (qz _ w.heap.size) _ 1 1 [1] rfl (qo w 1 (by decide)) rfl (by omega) (by simp) ?_);intro A1 c1 w1 hown1 hg1 hb1 _;have O1:=zhy hown1;have B1:=zhy (zg hb1);clear hown1 hg1 hb1;go_wp2_with fail;refine (zku _ _ _).mono ?_;rintro e w2 ⟨rfl,rfl⟩;go_wp2_with fail;go_ret2;exact ⟨_,_,rfl,O1.o,B1.o⟩
theorem zti (w:World):Calls Tryz.prog 248 #[.int .u8 28] w fun e w'=>∃A c,e=.returned (.tuple #[.slice A 0 c,.bool true])∧w'.ownsRow w.heap.size 5 1 (.slice A 0 c) 0 (cel [])∧Below w.heap.size w w':=by
 have hinfo:=Tryz.info5;rw [Option.map_eq_some_iff] at hinfo;obtain ⟨i0,hi,hz⟩:=hinfo;simp only [Prod.mk.injEq] at hz;obtain ⟨hz0,hz1,hz2⟩:=hz;go_enter Tryz.func248,Tryz.ntmps248;go_wp2_with fail;refine (zo9 _ _ _).mono ?_;rintro e w1 ⟨rfl,rfl⟩;go_wp2_with fail;go_ret2;exact ⟨_,_,rfl,qz _ _,Below.refl _ _⟩
theorem zvu (w:World):Calls Tryz.prog 248 #[.int .u8 29] w fun e w'=>∃A c,e=.returned (.tuple #[.slice A 0 c,.bool true])∧w'.ownsRow w.heap.size 5 1 (.slice A 0 c) 0 (cel [])∧Below w.heap.size w w':=by
 have hinfo:=Tryz.info5;rw [Option.map_eq_some_iff] at hinfo;obtain ⟨i0,hi,hz⟩:=hinfo;simp only [Prod.mk.injEq] at hz;obtain ⟨hz0,hz1,hz2⟩:=hz;go_enter Tryz.func248,Tryz.ntmps248;go_wp2_with fail;refine (zo9 _ _ _).mono ?_;rintro e w1 ⟨rfl,rfl⟩;go_wp2_with fail;go_ret2;exact ⟨_,_,rfl,qz _ _,Below.refl _ _⟩
theorem zua (w:World):Calls Tryz.prog 248 #[.int .u8 32] w fun e w'=>∃A c,e=.returned (.tuple #[.slice A 0 c,.bool true])∧w'.ownsRow w.heap.size 5 1 (.slice A 0 c) 0 (cel [])∧Below w.heap.size w w':=by
 have hinfo:=Tryz.info5;rw [Option.map_eq_some_iff] at hinfo;obtain ⟨i0,hi,hz⟩:=hinfo;simp only [Prod.mk.injEq] at hz;obtain ⟨hz0,hz1,hz2⟩:=hz;go_enter Tryz.func248,Tryz.ntmps248;go_wp2_with fail;refine (zo9 _ _ _).mono ?_;rintro e w1 ⟨rfl,rfl⟩;go_wp2_with fail;go_ret2;exact ⟨_,_,rfl,qz _ _,Below.refl _ _⟩
theorem zxp (n:Int) (w:World) (h:fxB n=false):Calls Tryz.prog 248 #[.int .u8 n] w fun e w'=>e=.returned (.tuple #[.slice none 0 0,.bool false])∧w=w':=by
 have h':¬(n=0∨n=6∨(9≤n∧n≤29)∨n=32):=by simpa [fxB] using h
 clear h;go_enter Tryz.func248,Tryz.ntmps248;go_wp2_with fail;go_ret2;exact ⟨rfl,rfl⟩
theorem zlf {n:Int} (h:fxB n=false):tkL n=[]∧gvL n=[]:=by
 have h':¬(n=0∨n=6∨(9≤n∧n≤29)∨n=32):=by simpa [fxB] using h
 constructor
 ·rw [tkL];repeat' rw [if_neg (by omega)]
 ·rw [gvL];repeat' rw [if_neg (by omega)]
theorem zpm (n:Int) (w:World):Calls Tryz.prog 248 #[.int .u8 n] w fun e w'=>∃A c,e=.returned (.tuple #[.slice A (tkL n).length c,.bool (fxB n)])∧w'.ownsRow w.heap.size 5 1 (.slice A (tkL n).length c) (tkL n).length (cel (tkL n))∧Below w.heap.size w w':=by
 cases h:fxB n with
 | false =>
  rw [(zlf h).1];refine (zxp n w h).mono ?_;rintro e w1 ⟨rfl,rfl⟩;exact ⟨none,0,rfl,qz _ _,Below.refl _ _⟩
 | true =>
  have h':n=0∨n=6∨(9≤n∧n≤29)∨n=32:=by simpa [fxB] using h
  have:n=0∨n=6∨n=9∨n=10∨n=11∨n=12∨n=13∨n=14∨n=15∨n=16∨n=17∨n=18∨n=19∨n=20∨n=21∨n=22∨n=23∨n=24∨n=25∨n=26∨n=27∨n=28∨n=29∨n=32:=by omega
  rcases this with rfl | rfl | rfl | rfl | rfl | rfl | rfl | rfl | rfl | rfl | rfl | rfl | rfl | rfl | rfl | rfl | rfl | rfl | rfl | rfl | rfl | rfl | rfl | rfl
  ·exact zxy w
  ·exact zyu w
  ·exact zz9 w
  ·exact zsx w
  ·exact zu5 w
  ·exact zs7 w
  ·exact zuy w
  ·exact ztf w
  ·exact zt4 w
  ·exact zuj w
  ·exact ztx w
  ·exact ztd w
  ·exact zv7 w
  ·exact zt5 w
  ·exact zuw w
  ·exact zvx w
  ·exact zs2 w
  ·exact ztw w
  ·exact zuz w
  ·exact zv1 w
  ·exact zvd w
  ·exact zti w
  ·exact zvu w
  ·exact zua w
end Go.Proofs.YtnjgkkoiamiaaaaGreatDoor
