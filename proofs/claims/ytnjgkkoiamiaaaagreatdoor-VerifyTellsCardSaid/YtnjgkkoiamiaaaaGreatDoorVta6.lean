import Derived.Test.YtnjgkkoiamiaaaaGreatDoorVta1
import Derived.Test.YtnjgkkoiamiaaaaGreatDoorVta4
import Derived.Test.YtnjgkkoiamiaaaaGreatDoorVta5
import Derived.Deep.WholeRow
import Derived.Test.YtnjgkkoiamiaaaaGreatDoorVta2
import Derived.ArgAppend
set_option maxRecDepth 100000
set_option maxHeartbeats 16000000
set_option linter.unusedSimpArgs false
set_option linter.unusedVariables false
namespace Go.Proofs.YtnjgkkoiamiaaaaGreatDoor
open Go.RowKit
def zaz (h:Mh):List Int:=h.a++h.l
def zab (d:Md) (h:Mh) (x:Ins):Bool:=
 if x.1=1 then decide (x.2.1<(d.p.length:Int)) else if x.1=2∨x.1=3 then decide (x.2.1<(h.a.length:Int)+h.l.length) else if x.1=4∨x.1=5 then decide (x.2.1<(d.g.length:Int)) else if x.1=30 then decide (x.2.1<(d.s.length:Int)) else true
def zej (L:List Vlu) (a:Nat):Int:=(L[a]?.getD (0,0,0)).1
def zbq (R:List Int) (k:Int):List Int×Int:=if R.length=0 then ([],101) else if k≠0∧R.getLastD 0≠k then ([],100) else (R.dropLast,0)
def zfq (R:List Int):List Int→List Int×Int
 | []=>(R,0)
 | k::K=>if (zbq R k).2=0 then zfq (zbq R k).1 K else ([],(zbq R k).2)
def zba (R K:List Int):List Int×Int:=if R.length<K.length then ([],101) else zfq R K.reverse
def ji (d:Md) (a:Nat):Mh:=(d.s[a]?.getD (Mh.zero,[])).1
def zaj (d:Md) (h:Mh) (x:Ins) (R:List Int):List Int×Int:=
 if x.1=1 then (R++[zej d.p x.2.1.toNat],0) else
 if x.1=2 then (R++[(zaz h)[x.2.1.toNat]?.getD 0],0) else
 if x.1=3 then zbq R ((zaz h)[x.2.1.toNat]?.getD 0) else
 if x.1=4 then (R++[zej d.g x.2.1.toNat],0) else
 if x.1=5 then zbq R (zej d.g x.2.1.toNat) else
 if x.1=7 then (if R.length<1 then ([],101) else (R++[R[R.length-1]?.getD 0],0)) else
 if x.1=8 then (if R.length<2 then ([],101) else ((R.take (R.length-2)++[R[R.length-1]?.getD 0])++[R[R.length-2]?.getD 0],0)) else
 if x.1=30 then (if (zba R (ji d x.2.1.toNat).a).2=0 then ((zba R (ji d x.2.1.toNat).a).1++[(ji d x.2.1.toNat).r],0) else ([],(zba R (ji d x.2.1.toNat).a).2)) else
 if x.1=31 then zbq R h.r else
 (if (zba R (tkL x.1)).2=0 then ((zba R (tkL x.1)).1++gvL x.1,0) else ([],(zba R (tkL x.1)).2))
abbrev Rz:=Bool×List Int
def z10:Rz:=(false,[])
def zdp (c:List Ins) (p:Nat):Ins:=c[p]?.getD (0,0,0)
def za0 (nx:List Int):List Int→List Rz→Option (List Rz)
 | [],S=>some S
 | v::W,S=>if (S[v.toNat]?.getD z10).1=true∧¬(S[v.toNat]?.getD z10).2=nx then none else za0 nx W (S.set v.toNat (true,nx))
def zf1 (n:Nat):List Rz:=(List.replicate n z10).set 0 (true,[])
def zx (d:Md) (h:Mh) (c:List Ins):Nat→List Rz×Int
 | 0=>(zf1 c.length,0)
 | p+1 =>
  if (zx d h c p).2=0 then
   (if ((zx d h c p).1[p]?.getD z10).1=true then
    (if (zaj d h (zdp c p) ((zx d h c p).1[p]?.getD z10).2).2=0 then
     (match za0 (zaj d h (zdp c p) ((zx d h c p).1[p]?.getD z10).2).1 (wy9 c p) (zx d h c p).1 with
     | some S=>(S,0)
     | none=>([],100))
    else ([],(zaj d h (zdp c p) ((zx d h c p).1[p]?.getD z10).2).2))
   else ((zx d h c p).1,0))
  else ([],(zx d h c p).2)
def qcl (d:Md) (h:Mh) (c:List Ins):List Rz×Int:=
 if jc c=0 then (if c.all (zab d h)=true then (if (zx d h c c.length).2=0 then ((zx d h c c.length).1,0) else ([],(zx d h c c.length).2)) else ([],100)) else ([],jc c)
def zzx (d:Md) (k:Int):List Rz×Int:=if k<0∨(d.s.length:Int)≤k then ([],2) else qcl d (d.s[k.toNat]?.getD (Mh.zero,[])).1 (d.s[k.toNat]?.getD (Mh.zero,[])).2
def zc8 (S:List Rz):Nat:=S.foldl (fun n z=>max n z.2.length) 0
section
variable {d : Md} {h : Mh} {c : List Ins} {p : Nat}
theorem zdc (h0:(zx d h c p).2=0) (hr:((zx d h c p).1[p]?.getD z10).1=false):zx d h c (p+1)=((zx d h c p).1,0):=by
 rw [zx,if_pos h0,if_neg (by rw [hr];decide)]
theorem zex (h0:(zx d h c p).2=0) (hr:((zx d h c p).1[p]?.getD z10).1=true) {e:Int} (ha:(zaj d h (zdp c p) ((zx d h c p).1[p]?.getD z10).2).2=e) (he:e≠0):zx d h c (p+1)=([],e):=by
 rw [zx,if_pos h0,if_pos hr,if_neg (by rw [ha];exact he),ha]
theorem zb2 (h0:(zx d h c p).2=0) (hr:((zx d h c p).1[p]?.getD z10).1=true) {nx:List Int} (ha:zaj d h (zdp c p) ((zx d h c p).1[p]?.getD z10).2=(nx,0)) :
  zx d h c (p+1)=match za0 nx (wy9 c p) (zx d h c p).1 with
   | some S=>(S,0)
   | none=>([],100):=by
 rw [zx,if_pos h0,if_pos hr,if_pos (by rw [ha]),ha]
theorem zde (h0:(zx d h c p).2≠0):∀q,p≤q→(zx d h c q).2=(zx d h c p).2:=by
 intro q hq;obtain ⟨k,rfl⟩:∃k,q=p+k:=⟨q-p,by omega⟩;clear hq;induction k with
 | zero=>rfl
 | succ k ih=>rw [←Nat.add_assoc,zx,if_neg (by rw [ih];exact h0)];exact ih
theorem zhf {nx:List Int}:∀{W:List Int} {S S':List Rz},za0 nx W S=some S'→S'.length=S.length
 | [],S,S',hs=>by rw [za0] at hs;injection hs with hs;rw [hs]
 | v::W,S,S',hs=>by
  rw [za0] at hs;split at hs
  ·cases hs
  ·rw [zhf hs,List.length_set]
theorem zlr:∀p,(zx d h c p).2=0→(zx d h c p).1.length=c.length
 | 0,_=>by simp [zx,zf1]
 | p+1,h0=>by
  by_cases h1:(zx d h c p).2=0
  ·have ih:=zlr p h1;cases hr:((zx d h c p).1[p]?.getD z10).1 with
   | false=>rw [zdc h1 hr];exact ih
   | true =>
    obtain ⟨nx,e,ha⟩:∃nx e,zaj d h (zdp c p) ((zx d h c p).1[p]?.getD z10).2=(nx,e):=⟨_,_,rfl⟩;by_cases he:e=0
    ·subst he;rw [zb2 h1 hr ha] at h0 ⊢;cases hs:za0 nx (wy9 c p) (zx d h c p).1 with
     | none=>rw [hs] at h0;cases h0
     | some S=>dsimp only;rw [zhf hs];exact ih
    ·rw [zex h1 hr (by rw [ha]) he] at h0;exact absurd h0 he
  ·have:=zde h1 (p+1) (by omega);rw [h0] at this;exact absurd this.symm h1
theorem ze7 {nx:List Int}:∀{W:List Int} {S S':List Rz},za0 nx W S=some S'→(∀v∈W,0≤v∧v<(S.length:Int)) →
  (∀i:Nat,(S[i]?.getD z10).1=true→S'[i]?.getD z10=S[i]?.getD z10)∧(∀v∈W,S'[v.toNat]?.getD z10=(true,nx))∧(∀i:Nat,(i:Int)∉W→S'[i]?.getD z10=S[i]?.getD z10)
 | [],S,S',hs,_=>by
  rw [za0] at hs;injection hs with hs;subst hs;exact ⟨fun i _=>rfl,fun v hv=>(by cases hv),fun i _=>rfl⟩
 | v::W,S,S',hs,hb=>by
  rw [za0] at hs;split at hs
  ·cases hs
  ·rename_i hc;obtain ⟨v0,v1⟩:=hb v List.mem_cons_self
   have hset:∀i:Nat,(S.set v.toNat (true,nx))[i]?.getD z10=if i=v.toNat then (true,nx) else S[i]?.getD z10:=fun i=>by
    rw [List.getElem?_set];by_cases hi:v.toNat=i
    ·subst hi;rw [if_pos rfl,if_pos rfl,if_pos (by omega)];rfl
    ·rw [if_neg hi,if_neg (fun e=>hi e.symm)]
   obtain ⟨k1,k2,k3⟩:=ze7 hs (fun u hu=>by rw [List.length_set];exact hb u (List.mem_cons_of_mem _ hu))
   have same:∀i:Nat,(S[i]?.getD z10).1=true→(S.set v.toNat (true,nx))[i]?.getD z10=S[i]?.getD z10:=fun i hi=>by
    rw [hset];split
    ·rename_i e;subst e;have h2:(S[v.toNat]?.getD z10).2=nx:=Classical.byContradiction fun hn=>hc ⟨hi,hn⟩;rw [←hi,←h2]
    ·rfl
   refine ⟨fun i hi=>?_,fun u hu=>?_,fun i hi=>?_⟩
   ·rw [k1 i (by rw [same i hi];exact hi),same i hi]
   ·by_cases huW:u∈W
    ·exact k2 u huW
    ·obtain rfl:u=v:=by
      rcases List.mem_cons.1 hu with e | e
      ·exact e
      ·exact absurd e huW
     have e2:((u.toNat:Nat):Int)=u:=by omega
     rw [k1 u.toNat (by rw [hset,if_pos rfl]),hset,if_pos rfl]
   ·have h1:(i:Int)∉W:=fun hh=>hi (List.mem_cons_of_mem _ hh);have h2:i≠v.toNat:=fun hh=>hi (by rw [hh,show ((v.toNat:Nat):Int)=v by omega];exact List.mem_cons_self);rw [k3 i h1,hset,if_neg h2]
end
theorem zlt {l:List Ins} (h:jc l=0) {p:Nat} (hp:p<l.length):(wy9 l p).length≤2∧((wy9 l p).length=0↔(iO9 l p=31∨iO9 l p=32)) ∧
  ∀(i:Nat) (x:Int),(wy9 l p)[i]?=some x→(∃y:Nat,x=(y:Int)∧y<l.length∧(p<y∨(iO9 l p=29∧x=iA9 l p+1))∧∀b∈qy l l.length,wi9 b y=true→b.1≤p∧p≤b.2.1)∧(∀(j:Nat) (z:Int),j<i→(wy9 l p)[j]?=some z→z<x):=by
 have hw:=wl9 h;have hlast:=hw.last;have hin:∀q,wi9 q p=true→q.1≤p∧p≤q.2.1:=fun q hq=>by rw [zd] at hq;omega
 have hnx:∀q:Lp,wi9 q (p+1)=true→q.1≤p∧p≤q.2.1:=fun q hq=>by rw [zd] at hq;omega
 have one:∀x:Int,∀(i:Nat) (z:Int),([x]:List Int)[i]?=some z→z=x∧i=0:=fun x i z hz=>by
  match i,hz with
  | 0,hz=>simp at hz;exact ⟨hz.symm,rfl⟩
 have two:∀x y:Int,∀(i:Nat) (z:Int),([x,y]:List Int)[i]?=some z→(z=x∧i=0)∨(z=y∧i=1):=fun x y i z hz=>by
  match i,hz with
  | 0,hz=>simp at hz;exact .inl ⟨hz.symm,rfl⟩
  | 1,hz=>simp at hz;exact .inr ⟨hz.symm,rfl⟩
 have none1:∀x:Int,∀(i:Nat) (z:Int),([x]:List Int)[i]?=some z→∀(j:Nat) (z':Int),j<i→([x]:List Int)[j]?=some z'→z'<z:=fun x i z hz j z' hj _=>by
  rw [(one x i z hz).2] at hj;exact absurd hj (Nat.not_lt_zero _)
 by_cases he:iO9 l p=31∨iO9 l p=32
 ·have e:wy9 l p=[]:=by rw [wy9,if_pos he]
  rw [e];exact ⟨by simp,by simp [he],fun i x hx=>by simp at hx⟩
 have hp1:p+1<l.length:=by
  by_cases hh:p+1<l.length
  ·exact hh
  ·exfalso;apply he;have:l.length-1=p:=by omega
   rw [this] at hlast;exact hlast
 have hpn:∃y:Nat,(p:Int)+1=y∧y<l.length∧(p<y∨(iO9 l p=29∧(p:Int)+1=iA9 l p+1))∧∀b∈qy l l.length,wi9 b y=true→b.1≤p∧p≤b.2.1:=
  ⟨p+1,by simp,hp1,.inl (by omega),fun b _ hb=>hnx b hb⟩
 by_cases h26:iO9 l p=26
 ·have e:wy9 l p=[iA9 l p]:=by rw [wy9,if_neg he,if_pos h26]
  obtain ⟨j1,j2,j3⟩:=hw.jump p hp (.inl h26);rw [e];refine ⟨by simp,by simp;omega,fun i x hx=>⟨?_,none1 _ i x hx⟩⟩;obtain ⟨rfl,-⟩:=one _ i x hx;exact ⟨(iA9 l p).toNat,by omega,by omega,.inl (by omega),fun b hb hh=>hin b (j3 b hb hh)⟩
 by_cases h27:iO9 l p=27
 ·obtain ⟨j1,j2,j3⟩:=hw.jump p hp (.inr h27)
  have hA:∃y:Nat,iA9 l p=y∧y<l.length∧(p<y∨(iO9 l p=29∧iA9 l p=iA9 l p+1))∧∀b∈qy l l.length,wi9 b y=true→b.1≤p∧p≤b.2.1:=
   ⟨(iA9 l p).toNat,by omega,by omega,.inl (by omega),fun b hb hh=>hin b (j3 b hb hh)⟩
  by_cases hq:iA9 l p=p+1
  ·have e:wy9 l p=[iA9 l p]:=by rw [wy9,if_neg he,if_neg h26,if_pos h27,if_pos hq]
   rw [e];refine ⟨by simp,by simp;omega,fun i x hx=>⟨?_,none1 _ i x hx⟩⟩;obtain ⟨rfl,-⟩:=one _ i x hx;exact hA
  ·have e:wy9 l p=[(p:Int)+1,iA9 l p]:=by rw [wy9,if_neg he,if_neg h26,if_pos h27,if_neg hq]
   rw [e];refine ⟨by simp,by simp;omega,fun i x hx=>?_⟩;rcases two _ _ i x hx with ⟨rfl,rfl⟩ | ⟨rfl,rfl⟩
   ·exact ⟨hpn,fun j z hj=>by omega⟩
   ·refine ⟨hA,fun j z hj hz=>?_⟩;obtain rfl:j=0:=by omega
    simp at hz;omega
 by_cases h29:iO9 l p=29
 ·obtain ⟨x0,hx0,hxp⟩:=hw.ofA p hp h29;obtain ⟨q1,q2,-,-,q5,-⟩:=hw.mem x0 hx0;rw [hxp] at q1 q5;have e:wy9 l p=[iA9 l p+1,(p:Int)+1]:=by rw [wy9,if_neg he,if_neg h26,if_neg h27,if_pos h29]
  rw [e];refine ⟨by simp,by simp;omega,fun i x hx=>?_⟩;rcases two _ _ i x hx with ⟨rfl,rfl⟩ | ⟨rfl,rfl⟩
  ·refine ⟨⟨x0.1+1,by omega,by omega,.inr ⟨h29,rfl⟩,fun b hb hh=>hin b ?_⟩,fun j z hj=>by omega⟩;have:=hw.turn hx0 hb;rw [hxp] at this;rw [this];exact hh
  ·refine ⟨hpn,fun j z hj hz=>?_⟩;obtain rfl:j=0:=by omega
   simp at hz;omega
 have e:wy9 l p=[(p:Int)+1]:=by rw [wy9,if_neg he,if_neg h26,if_neg h27,if_neg h29]
 rw [e];refine ⟨by simp,by simp;omega,fun i x hx=>⟨?_,none1 _ i x hx⟩⟩;obtain ⟨rfl,-⟩:=one _ i x hx;exact hpn
structure qfq (d:Md) (h:Mh) (c:List Ins) (p:Nat) (S:List Rz):Prop where
 first:S[0]?.getD z10=(true,[])
 none_:∀i:Nat,(S[i]?.getD z10).1=false→S[i]?.getD z10=z10
 step:∀j:Nat,j<p→(S[j]?.getD z10).1=true→∃nx,zaj d h (zdp c j) (S[j]?.getD z10).2=(nx,0)∧∀v∈wy9 c j,S[v.toNat]?.getD z10=(true,nx)
 loops:∀b∈qy c c.length,∀i:Nat,wi9 b i=true→(S[i]?.getD z10).1=true→(S[b.1+1]?.getD z10).1=true
 led:∀i:Nat,0<i→(S[i]?.getD z10).1=true→∃j,j<i∧j<p∧(S[j]?.getD z10).1=true∧(i:Int)∈wy9 c j
theorem ztc {d:Md} {h:Mh} {c:List Ins} (hc:jc c=0):∀p,p≤c.length→(zx d h c p).2=0→qfq d h c p (zx d h c p).1
 | 0,_,_=>by
  have hp:=(qw (za hc).1).1
  have at0:∀i:Nat,(zx d h c 0).1[i]?.getD z10=if i=0 then (true,[]) else z10:=fun i=>by
   simp only [zx,zf1];rw [List.getElem?_set];by_cases hi:0=i
   ·subst hi;rw [if_pos rfl,if_pos rfl,if_pos (by simp;omega)];rfl
   ·rw [if_neg hi,if_neg (fun e=>hi e.symm),List.getElem?_replicate];split<;>rfl
  refine ⟨by rw [at0,if_pos rfl],fun i hi=>?_,fun j hj=>by omega,fun b hb i hw hi=>?_,fun i h0 hi=>?_⟩
  ·rw [at0] at hi ⊢;split at hi
   ·cases hi
   ·rename_i h0;rw [if_neg h0]
  ·rw [at0] at hi;split at hi
   ·rename_i h0;rw [zd] at hw;omega
   ·cases hi
  ·rw [at0,if_neg (by omega)] at hi;cases hi
 | p+1,hp,h0=>by
  by_cases h1:(zx d h c p).2=0
  ·have ih:=ztc hc p (by omega) h1;have hlen:=zlr (d:=d) (h:=h) (c:=c) p h1;cases hr:((zx d h c p).1[p]?.getD z10).1 with
   | false =>
    rw [zdc h1 hr];refine ⟨ih.first,ih.none_,fun j hj hh=>?_,ih.loops,fun i hi hh=>?_⟩
    ·by_cases hjp:j<p
     ·exact ih.step j hjp hh
     ·obtain rfl:j=p:=by omega
      dsimp only at hh;rw [hr] at hh;cases hh
    ·obtain ⟨j,j1,j2,j3⟩:=ih.led i hi hh;exact ⟨j,j1,by omega,j3⟩
   | true =>
    obtain ⟨nx,e,ha⟩:∃nx e,zaj d h (zdp c p) ((zx d h c p).1[p]?.getD z10).2=(nx,e):=⟨_,_,rfl⟩;by_cases he:e=0
    ·subst he;rw [zb2 h1 hr ha] at h0 ⊢;cases hs:za0 nx (wy9 c p) (zx d h c p).1 with
     | none=>rw [hs] at h0;cases h0
     | some S =>
      dsimp only;generalize (zx d h c p).1=S0 at ih hlen hr ha hs;obtain ⟨-,-,hah⟩:=zlt hc (p:=p) (by omega)
      have hW:∀v∈wy9 c p,∃y:Nat,v=(y:Int)∧y<c.length∧(p<y∨(iO9 c p=29∧v=iA9 c p+1))∧∀b∈qy c c.length,wi9 b y=true→b.1≤p∧p≤b.2.1:=fun v hv=>by
       obtain ⟨i,hi,rfl⟩:=List.getElem_of_mem hv;exact (hah i _ (zg7 hi)).1
      obtain ⟨k1,k2,k3⟩:=ze7 hs (fun v hv=>by
       obtain ⟨y,rfl,hy,-⟩:=hW v hv;rw [hlen];omega)
      have hwl:=wl9 hc
      have hback:∀y:Nat,(y:Int)∈wy9 c p→¬p<y→(S0[y]?.getD z10).1=true:=fun y hy hn=>by
       obtain ⟨y',e',hy1,hy2,hy3⟩:=hW _ hy;obtain rfl:y=y':=by omega
       rcases hy2 with hy2 | ⟨h29,hA⟩
       ·exact absurd hy2 hn
       ·obtain ⟨b,hb,hbp⟩:=hwl.ofA p (by omega) h29;obtain ⟨q1,q2,-,-,q5,-⟩:=hwl.mem b hb;rw [hbp] at q1 q5;have:y=b.1+1:=by omega
        rw [this];exact ih.loops b hb p (by rw [zd];omega) hr
      have hsame:∀j:Nat,j≤p→S[j]?.getD z10=S0[j]?.getD z10:=fun j hj=>by
       by_cases hm:(j:Int)∈wy9 c p
       ·exact k1 j (hback j hm (by omega))
       ·exact k3 j hm
      refine ⟨by rw [hsame 0 (by omega)];exact ih.first,fun i hi=>?_,fun j hj hh=>?_,fun b hb i hw hi=>?_,fun i hi0 hi=>?_⟩
      ·by_cases hm:(i:Int)∈wy9 c p
       ·have:=k2 _ hm;rw [Int.toNat_natCast] at this;rw [this] at hi;cases hi
       ·rw [k3 i hm] at hi ⊢;exact ih.none_ i hi
      ·by_cases hjp:j<p
       ·rw [hsame j (by omega)] at hh ⊢;obtain ⟨nx',n1,n2⟩:=ih.step j hjp hh;exact ⟨nx',n1,fun v hv=>by rw [k1 _ (by rw [n2 v hv]),n2 v hv]⟩
       ·obtain rfl:j=p:=by omega
        rw [hsame j (Nat.le_refl _)];exact ⟨nx,ha,k2⟩
      ·by_cases hi0:(S0[i]?.getD z10).1=true
       ·have:=ih.loops b hb i hw hi0;rw [k1 _ this];exact this
       ·have hm:(i:Int)∈wy9 c p:=Classical.byContradiction fun hn=>by
         rw [k3 i hn] at hi;exact hi0 hi
        obtain ⟨y',e',hy1,hy2,hy3⟩:=hW _ hm;obtain rfl:i=y':=by omega
        obtain ⟨u1,u2⟩:=hy3 b hb hw;obtain ⟨q1,q2,q3,-⟩:=hwl.mem b hb;by_cases hbp:b.1=p
        ·rw [hbp] at q3
         have hwy:wy9 c p=[(p:Int)+1]:=by
          rw [wy9,if_neg (by omega),if_neg (by omega),if_neg (by omega),if_neg (by omega)]
         rw [hwy,List.mem_singleton] at hm;have:b.1+1=i:=by omega
         rw [this];exact hi
        ·have:=ih.loops b hb p (by rw [zd];omega) hr;rw [k1 _ this];exact this
      ·by_cases hi1:(S0[i]?.getD z10).1=true
       ·obtain ⟨j,j1,j2,j3,j4⟩:=ih.led i hi0 hi1;exact ⟨j,j1,by omega,by rw [k1 _ j3];exact j3,j4⟩
       ·have hm:(i:Int)∈wy9 c p:=Classical.byContradiction fun hn=>by
         rw [k3 i hn] at hi;exact hi1 hi
        have hpi:p<i:=Classical.byContradiction fun hn=>hi1 (hback i hm hn);exact ⟨p,hpi,by omega,by rw [hsame p (Nat.le_refl _)];exact hr,hm⟩
    ·rw [zex h1 hr (by rw [ha]) he] at h0;exact absurd h0 he
  ·have:=zde h1 (p+1) (by omega);rw [h0] at this;exact absurd this.symm h1
theorem zzh {R R':List Int} {k:Int} (h:zbq R k=(R',0)):0<R.length∧(k=0∨k=R[R.length-1]?.getD 0)∧R'=R.take (R.length-1):=by
 unfold zbq at h;by_cases h1:R.length=0
 ·rw [if_pos h1] at h;cases h
 ·rw [if_neg h1] at h;by_cases h2:k≠0∧R.getLastD 0≠k
  ·rw [if_pos h2] at h;cases h
  ·rw [if_neg h2] at h;injection h with h _;refine ⟨by omega,?_,by rw [←h,List.dropLast_eq_take]⟩;by_cases h3:k=0
   ·exact .inl h3
   ·refine .inr ?_;have h4:R.getLastD 0=k:=Classical.byContradiction fun hn=>h2 ⟨h3,hn⟩;rw [←h4,List.getLastD_eq_getLast?,List.getLast?_eq_getElem?]
theorem zyi:∀{K R R':List Int},zfq R K=(R',0)→K.length≤R.length∧R'=R.take (R.length-K.length)∧∀i:Nat,i<K.length→(K[i]?.getD 0=0∨K[i]?.getD 0=R[R.length-1-i]?.getD 0)
 | [],R,R',h=>by
  rw [zfq] at h;injection h with h _;subst h;exact ⟨Nat.zero_le _,by simp,fun i hi=>absurd hi (by simp)⟩
 | k::K,R,R',h=>by
  rw [zfq] at h;by_cases h0:(zbq R k).2=0
  ·rw [if_pos h0] at h;obtain ⟨a1,a2,a3⟩:=zzh (R:=R) (k:=k) (R':=(zbq R k).1) (by rw [←h0]);rw [a3] at h;obtain ⟨b1,b2,b3⟩:=zyi h;rw [List.length_take] at b1 b2 b3;have hm:min (R.length-1) R.length=R.length-1:=by omega
   rw [hm] at b1 b2 b3;refine ⟨by simp only [List.length_cons];omega,?_,fun i hi=>?_⟩
   ·rw [b2,List.take_take,List.length_cons];congr 1;omega
   ·match i with
    | 0=>simpa using a2
    | i+1 =>
     simp only [List.length_cons] at hi;have:=b3 i (by omega);rw [List.getElem?_take,if_pos (by omega)] at this;rw [List.getElem?_cons_succ,show R.length-1-(i+1)=R.length-1-1-i by omega];exact this
  ·rw [if_neg h0] at h;injection h with _ h;exact absurd h h0
def st1 (z:Bool) (k:Int) (s:List Int×Int):List Int×Int:=if s.1.length=0 then (s.1,101) else (s.1.dropLast,if (z=false∨k≠0)∧s.1.getLastD 0≠k∧s.2=0 then 100 else s.2)
def K10 (d:Md) (h:Mh) (x:Ins):Bool×List Int:=
 if x.1=3 then (false,[(zaz h)[x.2.1.toNat]?.getD 0]) else
 if x.1=5 then (false,[zej d.g x.2.1.toNat]) else
 if x.1=7 then (true,[0]) else
 if x.1=8 then (true,[0,0]) else
 if x.1=30 then (false,(ji d x.2.1.toNat).a) else
 if x.1=31 then (false,[h.r]) else (true,tkL x.1)
def za8 (d:Md) (h:Mh) (x:Ins) (T:List Int):List Int:=
 if x.1=1 then [zej d.p x.2.1.toNat] else
 if x.1=2 then [(zaz h)[x.2.1.toNat]?.getD 0] else
 if x.1=4 then [zej d.g x.2.1.toNat] else
 if x.1=7 then [T[0]?.getD 0,T[0]?.getD 0] else
 if x.1=8 then [T[1]?.getD 0,T[0]?.getD 0] else
 if x.1=30 then [(ji d x.2.1.toNat).r] else gvL x.1
def zld (d:Md) (h:Mh) (x:Ins) (R:List Int):List Int×Int:=(K10 d h x).2.foldr (st1 (K10 d h x).1) (R,0)
def za9 (d:Md) (h:Mh) (x:Ins) (R:List Int):List Int×Int:=
 if (zld d h x R).2=0 then ((zld d h x R).1++za8 d h x (R.drop (zld d h x R).1.length),0) else ([],(zld d h x R).2)
theorem zmw {z:Bool} {R:List Int}:∀{K:List Int},(K.foldr (st1 z) (R,0)).2=0→K.length≤R.length∧(K.foldr (st1 z) (R,0)).1=R.take (R.length-K.length)∧∀i:Nat,i<K.length→(K[i]?.getD 0=0∨K[i]?.getD 0=R[R.length-K.length+i]?.getD 0)
 | [],_=>⟨Nat.zero_le _,by simp,fun i hi=>absurd hi (by simp)⟩
 | k::K,h=>by
  rw [List.foldr_cons] at h ⊢;generalize hs:K.foldr (st1 z) (R,0)=s at h ⊢;unfold st1 at h ⊢;by_cases h0:s.1.length=0
  ·rw [if_pos h0] at h;cases h
  rw [if_neg h0] at h ⊢
  have h2:s.2=0:=Classical.byContradiction fun hn=>by
   have hc:¬((z=false∨k≠0)∧s.1.getLastD 0≠k∧s.2=0):=fun hh=>hn hh.2.2;dsimp only at h;rw [if_neg hc] at h;exact hn h
  have ih:=zmw (z:=z) (R:=R) (K:=K) (by rw [hs];exact h2);rw [hs] at ih;obtain ⟨i1,i2,i3⟩:=ih;have hl:s.1.length=R.length-K.length:=by rw [i2,List.length_take];omega
  have hk:k=0∨k=s.1.getLastD 0:=by
   by_cases hk0:k=0
   ·exact .inl hk0
   ·refine .inr (Classical.byContradiction fun hn=>?_);dsimp only at h;rw [if_pos ⟨.inr hk0,fun e=>hn e.symm,h2⟩] at h;cases h
  refine ⟨by simp only [List.length_cons];omega,?_,fun i hi=>?_⟩
  ·dsimp only;rw [List.dropLast_eq_take,hl,i2,List.take_take,List.length_cons];congr 1;omega
  ·match i with
   | 0 =>
    have e:s.1.getLastD 0=R[R.length-(k::K).length+0]?.getD 0:=by
     rw [List.getLastD_eq_getLast?,List.getLast?_eq_getElem?,hl,i2,List.getElem?_take,if_pos (by omega),List.length_cons];congr 2
    rw [←e];simpa using hk
   | i+1 =>
    simp only [List.length_cons] at hi ⊢;have:=i3 i (by omega);rw [List.getElem?_cons_succ,show R.length-(K.length+1)+(i+1)=R.length-K.length+i by omega];exact this
theorem zl9 {d:Md} {h:Mh} {x:Ins} {R:List Int} (he:(zld d h x R).2=0):(zld d h x R).1=R.take (R.length-(K10 d h x).2.length)∧(K10 d h x).2.length≤R.length:=⟨(zmw he).2.1,(zmw he).1⟩
theorem qds {o:Int} (h:o=3∨o=5∨o=31):gvL o=[]:=(zlf (by rcases h with rfl | rfl | rfl<;>rfl)).2
theorem zvo (o:Int):(gvL o).length≤1:=by
 unfold gvL;split
 ·simp
 split
 ·simp
 split<;>simp
theorem zfw {o:Int} (h:o=1∨o=2∨o=4):tkL o=[]:=(zlf (by rcases h with rfl | rfl | rfl<;>rfl)).1
theorem zmt (d:Md) (h:Mh) (x:Ins) (T:List Int):(za8 d h x T).length≤2:=by
 unfold za8;split
 ·simp
 split
 ·simp
 split
 ·simp
 split
 ·simp
 split
 ·simp
 split
 ·simp
 exact Nat.le_trans (zvo x.1) (by omega)
theorem zl7 (d:Md) (h:Mh) (x:Ins) (R:List Int):(za9 d h x R).1.length≤R.length+2:=by
 unfold za9;split
 ·rename_i h0;have:=zmt d h x (R.drop (zld d h x R).1.length);have:=(zl9 h0).1;have:(zld d h x R).1.length≤R.length:=by rw [this,List.length_take];omega
  simp only [List.length_append];omega
 ·simp
def qk (d:Md) (h:Mh) (c:List Ins):Nat→List Rz×Int
 | 0=>(zf1 c.length,0)
 | p+1 =>
  if (qk d h c p).2=0 then
   (if ((qk d h c p).1[p]?.getD z10).1=true then
    (if (za9 d h (zdp c p) ((qk d h c p).1[p]?.getD z10).2).2=0 then
     (match za0 (za9 d h (zdp c p) ((qk d h c p).1[p]?.getD z10).2).1 (wy9 c p) (qk d h c p).1 with
     | some S=>(S,0)
     | none=>([],100))
    else ([],(za9 d h (zdp c p) ((qk d h c p).1[p]?.getD z10).2).2))
   else ((qk d h c p).1,0))
  else ([],(qk d h c p).2)
def zfz (d:Md) (h:Mh) (c:List Ins):List Rz×Int:=
 if jc c=0 then (if c.all (zab d h)=true then (if (qk d h c c.length).2=0 then ((qk d h c c.length).1,0) else ([],(qk d h c c.length).2)) else ([],100)) else ([],jc c)
def ql (d:Md) (k:Int):List Rz×Int:=if k<0∨(d.s.length:Int)≤k then ([],2) else zfz d (d.s[k.toNat]?.getD (Mh.zero,[])).1 (d.s[k.toNat]?.getD (Mh.zero,[])).2
section
variable {d : Md} {h : Mh} {c : List Ins} {p : Nat}
theorem zdy (h0:(qk d h c p).2=0) (hr:((qk d h c p).1[p]?.getD z10).1=false):qk d h c (p+1)=((qk d h c p).1,0):=by
 rw [qk,if_pos h0,if_neg (by rw [hr];decide)]
end
section
variable {d : Md} {h : Mh} {c : List Ins} {p : Nat}
theorem zfb (h0:(qk d h c p).2=0) (hr:((qk d h c p).1[p]?.getD z10).1=true) {e:Int} (ha:(za9 d h (zdp c p) ((qk d h c p).1[p]?.getD z10).2).2=e) (he:e≠0):qk d h c (p+1)=([],e):=by
 rw [qk,if_pos h0,if_pos hr,if_neg (by rw [ha];exact he),ha]
end
section
variable {d : Md} {h : Mh} {c : List Ins} {p : Nat}
theorem zb7 (h0:(qk d h c p).2=0) (hr:((qk d h c p).1[p]?.getD z10).1=true) {nx:List Int} (ha:za9 d h (zdp c p) ((qk d h c p).1[p]?.getD z10).2=(nx,0)) :
  qk d h c (p+1)=match za0 nx (wy9 c p) (qk d h c p).1 with
   | some S=>(S,0)
   | none=>([],100):=by
 rw [qk,if_pos h0,if_pos hr,if_pos (by rw [ha]),ha]
end
section
variable {d : Md} {h : Mh} {c : List Ins} {p : Nat}
theorem zdq (h0:(qk d h c p).2≠0):∀q,p≤q→(qk d h c q).2=(qk d h c p).2:=by
 intro q hq;obtain ⟨k,rfl⟩:∃k,q=p+k:=⟨q-p,by omega⟩;clear hq;induction k with
 | zero=>rfl
 | succ k ih=>rw [←Nat.add_assoc,qk,if_neg (by rw [ih];exact h0)];exact ih
end
section
variable {d : Md} {h : Mh} {c : List Ins} {p : Nat}
theorem ze6:∀p,(qk d h c p).2=0→(qk d h c p).1.length=c.length
 | 0,_=>by simp [qk,zf1]
 | p+1,h0=>by
  by_cases h1:(qk d h c p).2=0
  ·have ih:=ze6 p h1;cases hr:((qk d h c p).1[p]?.getD z10).1 with
   | false=>rw [zdy h1 hr];exact ih
   | true =>
    obtain ⟨nx,e,ha⟩:∃nx e,za9 d h (zdp c p) ((qk d h c p).1[p]?.getD z10).2=(nx,e):=⟨_,_,rfl⟩;by_cases he:e=0
    ·subst he;rw [zb7 h1 hr ha] at h0 ⊢;cases hs:za0 nx (wy9 c p) (qk d h c p).1 with
     | none=>rw [hs] at h0;cases h0
     | some S=>dsimp only;rw [zhf hs];exact ih
    ·rw [zfb h1 hr (by rw [ha]) he] at h0;exact absurd h0 he
  ·have:=zdq h1 (p+1) (by omega);rw [h0] at this;exact absurd this.symm h1
end
structure zto (d:Md) (h:Mh) (c:List Ins) (p:Nat) (S:List Rz):Prop where
 first:S[0]?.getD z10=(true,[])
 none_:∀i:Nat,(S[i]?.getD z10).1=false→S[i]?.getD z10=z10
 step:∀j:Nat,j<p→(S[j]?.getD z10).1=true→∃nx,za9 d h (zdp c j) (S[j]?.getD z10).2=(nx,0)∧∀v∈wy9 c j,S[v.toNat]?.getD z10=(true,nx)
 loops:∀b∈qy c c.length,∀i:Nat,wi9 b i=true→(S[i]?.getD z10).1=true→(S[b.1+1]?.getD z10).1=true
 led:∀i:Nat,0<i→(S[i]?.getD z10).1=true→∃j,j<i∧j<p∧(S[j]?.getD z10).1=true∧(i:Int)∈wy9 c j
theorem ze1 {d:Md} {h:Mh} {c:List Ins} (hc:jc c=0):∀p,p≤c.length→(qk d h c p).2=0→zto d h c p (qk d h c p).1
 | 0,_,_=>by
  have hp:=(qw (za hc).1).1
  have at0:∀i:Nat,(qk d h c 0).1[i]?.getD z10=if i=0 then (true,[]) else z10:=fun i=>by
   simp only [qk,zf1];rw [List.getElem?_set];by_cases hi:0=i
   ·subst hi;rw [if_pos rfl,if_pos rfl,if_pos (by simp;omega)];rfl
   ·rw [if_neg hi,if_neg (fun e=>hi e.symm),List.getElem?_replicate];split<;>rfl
  refine ⟨by rw [at0,if_pos rfl],fun i hi=>?_,fun j hj=>by omega,fun b hb i hw hi=>?_,fun i h0 hi=>?_⟩
  ·rw [at0] at hi ⊢;split at hi
   ·cases hi
   ·rename_i h0;rw [if_neg h0]
  ·rw [at0] at hi;split at hi
   ·rename_i h0;rw [zd] at hw;omega
   ·cases hi
  ·rw [at0,if_neg (by omega)] at hi;cases hi
 | p+1,hp,h0=>by
  by_cases h1:(qk d h c p).2=0
  ·have ih:=ze1 hc p (by omega) h1;have hlen:=ze6 (d:=d) (h:=h) (c:=c) p h1;cases hr:((qk d h c p).1[p]?.getD z10).1 with
   | false =>
    rw [zdy h1 hr];refine ⟨ih.first,ih.none_,fun j hj hh=>?_,ih.loops,fun i hi hh=>?_⟩
    ·by_cases hjp:j<p
     ·exact ih.step j hjp hh
     ·obtain rfl:j=p:=by omega
      dsimp only at hh;rw [hr] at hh;cases hh
    ·obtain ⟨j,j1,j2,j3⟩:=ih.led i hi hh;exact ⟨j,j1,by omega,j3⟩
   | true =>
    obtain ⟨nx,e,ha⟩:∃nx e,za9 d h (zdp c p) ((qk d h c p).1[p]?.getD z10).2=(nx,e):=⟨_,_,rfl⟩;by_cases he:e=0
    ·subst he;rw [zb7 h1 hr ha] at h0 ⊢;cases hs:za0 nx (wy9 c p) (qk d h c p).1 with
     | none=>rw [hs] at h0;cases h0
     | some S =>
      dsimp only;generalize (qk d h c p).1=S0 at ih hlen hr ha hs;obtain ⟨-,-,hah⟩:=zlt hc (p:=p) (by omega)
      have hW:∀v∈wy9 c p,∃y:Nat,v=(y:Int)∧y<c.length∧(p<y∨(iO9 c p=29∧v=iA9 c p+1))∧∀b∈qy c c.length,wi9 b y=true→b.1≤p∧p≤b.2.1:=fun v hv=>by
       obtain ⟨i,hi,rfl⟩:=List.getElem_of_mem hv;exact (hah i _ (zg7 hi)).1
      obtain ⟨k1,k2,k3⟩:=ze7 hs (fun v hv=>by
       obtain ⟨y,rfl,hy,-⟩:=hW v hv;rw [hlen];omega)
      have hwl:=wl9 hc
      have hback:∀y:Nat,(y:Int)∈wy9 c p→¬p<y→(S0[y]?.getD z10).1=true:=fun y hy hn=>by
       obtain ⟨y',e',hy1,hy2,hy3⟩:=hW _ hy;obtain rfl:y=y':=by omega
       rcases hy2 with hy2 | ⟨h29,hA⟩
       ·exact absurd hy2 hn
       ·obtain ⟨b,hb,hbp⟩:=hwl.ofA p (by omega) h29;obtain ⟨q1,q2,-,-,q5,-⟩:=hwl.mem b hb;rw [hbp] at q1 q5;have:y=b.1+1:=by omega
        rw [this];exact ih.loops b hb p (by rw [zd];omega) hr
      have hsame:∀j:Nat,j≤p→S[j]?.getD z10=S0[j]?.getD z10:=fun j hj=>by
       by_cases hm:(j:Int)∈wy9 c p
       ·exact k1 j (hback j hm (by omega))
       ·exact k3 j hm
      refine ⟨by rw [hsame 0 (by omega)];exact ih.first,fun i hi=>?_,fun j hj hh=>?_,fun b hb i hw hi=>?_,fun i hi0 hi=>?_⟩
      ·by_cases hm:(i:Int)∈wy9 c p
       ·have:=k2 _ hm;rw [Int.toNat_natCast] at this;rw [this] at hi;cases hi
       ·rw [k3 i hm] at hi ⊢;exact ih.none_ i hi
      ·by_cases hjp:j<p
       ·rw [hsame j (by omega)] at hh ⊢;obtain ⟨nx',n1,n2⟩:=ih.step j hjp hh;exact ⟨nx',n1,fun v hv=>by rw [k1 _ (by rw [n2 v hv]),n2 v hv]⟩
       ·obtain rfl:j=p:=by omega
        rw [hsame j (Nat.le_refl _)];exact ⟨nx,ha,k2⟩
      ·by_cases hi0:(S0[i]?.getD z10).1=true
       ·have:=ih.loops b hb i hw hi0;rw [k1 _ this];exact this
       ·have hm:(i:Int)∈wy9 c p:=Classical.byContradiction fun hn=>by
         rw [k3 i hn] at hi;exact hi0 hi
        obtain ⟨y',e',hy1,hy2,hy3⟩:=hW _ hm;obtain rfl:i=y':=by omega
        obtain ⟨u1,u2⟩:=hy3 b hb hw;obtain ⟨q1,q2,q3,-⟩:=hwl.mem b hb;by_cases hbp:b.1=p
        ·rw [hbp] at q3
         have hwy:wy9 c p=[(p:Int)+1]:=by
          rw [wy9,if_neg (by omega),if_neg (by omega),if_neg (by omega),if_neg (by omega)]
         rw [hwy,List.mem_singleton] at hm;have:b.1+1=i:=by omega
         rw [this];exact hi
        ·have:=ih.loops b hb p (by rw [zd];omega) hr;rw [k1 _ this];exact this
      ·by_cases hi1:(S0[i]?.getD z10).1=true
       ·obtain ⟨j,j1,j2,j3,j4⟩:=ih.led i hi0 hi1;exact ⟨j,j1,by omega,by rw [k1 _ j3];exact j3,j4⟩
       ·have hm:(i:Int)∈wy9 c p:=Classical.byContradiction fun hn=>by
         rw [k3 i hn] at hi;exact hi1 hi
        have hpi:p<i:=Classical.byContradiction fun hn=>hi1 (hback i hm hn);exact ⟨p,hpi,by omega,by rw [hsame p (Nat.le_refl _)];exact hr,hm⟩
    ·rw [zfb h1 hr (by rw [ha]) he] at h0;exact absurd h0 he
  ·have:=zdq h1 (p+1) (by omega);rw [h0] at this;exact absurd this.symm h1
theorem zu7 {d:Md} {h:Mh} {c:List Ins} (he:(zfz d h c).2=0):jc c=0∧c.all (zab d h)=true∧(zfz d h c).1=(qk d h c c.length).1∧(qk d h c c.length).2=0∧(zfz d h c).1.length=c.length∧zto d h c c.length (zfz d h c).1:=by
 unfold zfz at he ⊢;by_cases hc:jc c=0
 ·rw [if_pos hc] at he ⊢;by_cases ha:c.all (zab d h)=true
  ·rw [if_pos ha] at he ⊢;by_cases h0:(qk d h c c.length).2=0
   ·rw [if_pos h0];exact ⟨hc,ha,rfl,h0,ze6 _ h0,ze1 hc _ (Nat.le_refl _) h0⟩
   ·rw [if_neg h0] at he;exact absurd he h0
  ·rw [if_neg ha] at he;cases he
 ·rw [if_neg hc] at he;exact absurd he hc
theorem zcw {d:Md} {h:Mh} {c:List Ins} {p:Nat} {S:List Rz} (hI:zto d h c p S):∀i:Nat,(S[i]?.getD z10).2.length≤2*i:=by
 intro i;induction i using Nat.strongRecOn with
 | ind i ih =>
  cases hr:(S[i]?.getD z10).1 with
  | false=>rw [hI.none_ i hr];simp [z10]
  | true =>
   by_cases h0:i=0
   ·subst h0;rw [hI.first];simp
   ·obtain ⟨j,h1,h2,h3,h4⟩:=hI.led i (by omega) hr;obtain ⟨nx,ha,hv⟩:=hI.step j h2 h3;have:=hv _ h4;rw [Int.toNat_natCast] at this;rw [this];have e:=zl7 d h (zdp c j) (S[j]?.getD z10).2;rw [ha] at e;have:=ih j h1;dsimp only at e ⊢;omega
theorem zib {d:Md} {k:Int} (he:(ql d k).2=0):∃(n:Nat) (h:Mh) (c:List Ins),k=n∧n<d.s.length∧d.s[n]?=some (h,c)∧jc c=0∧c.all (zab d h)=true∧(ql d k).1.length=c.length∧zto d h c c.length (ql d k).1:=by
 unfold ql at he ⊢;split
 ·rename_i hk;rw [if_pos hk] at he;cases he
 ·rename_i hk;rw [if_neg hk] at he;have hn:k.toNat<d.s.length:=by omega
  have e:=zg7 hn;rw [e] at he ⊢;obtain ⟨h1,h2,h3,h4,h5,h6⟩:=zu7 he;exact ⟨k.toNat,_,_,by omega,hn,e,h1,h2,h5,h6⟩
def zih (e:Nat→Nat→Bool) (n:Nat) (o:List Nat) (k:Nat):Bool:=!o.contains k&&(List.range n).all fun j=>!e k j||o.contains j
def zna (e:Nat→Nat→Bool) (n:Nat) (o:List Nat):Option Nat:=(List.range n).find? (zih e n o)
def zj4 (e:Nat→Nat→Bool) (n:Nat):Nat→List Nat→Option (List Nat)
 | 0,o=>some o
 | f+1,o=>match zna e n o with
  | none=>none
  | some k=>zj4 e n f (o++[k])
def zly (e:Nat→Nat→Bool) (n:Nat):Option (List Nat):=zj4 e n n []
section
variable {e : Nat → Nat → Bool} {n : Nat}
theorem zbo {o:List Nat} {k:Nat}:zih e n o k=true↔k∉o∧∀j,j<n→e k j=true→j∈o:=by
 simp only [zih,Bool.and_eq_true,Bool.not_eq_true',List.all_eq_true,List.mem_range,Bool.or_eq_true,List.contains_iff_mem,←Bool.not_eq_true];constructor
 ·rintro ⟨h1,h2⟩;exact ⟨h1,fun j hj he=>(h2 j hj).resolve_left (fun h=>h he)⟩
 ·rintro ⟨h1,h2⟩
  exact ⟨h1,fun j hj=>by
   by_cases he:e k j=true
   ·exact .inr (h2 j hj he)
   ·exact .inl he⟩
theorem zff {o:List Nat} {k:Nat} (h:zna e n o=some k):k<n∧k∉o∧(∀j,j<n→e k j=true→j∈o)∧∀i,i<k→zih e n o i=false:=by
 unfold zna at h;have h1:=List.mem_of_find?_eq_some h;have h2:=List.find?_some h;obtain ⟨h3,h4⟩:=zbo.1 h2;refine ⟨List.mem_range.1 h1,h3,h4,fun i hi=>?_⟩;rw [List.find?_range_eq_some] at h;have:=h.2.2 i hi;simpa using this
structure zm1 (e:Nat→Nat→Bool) (n:Nat) (o:List Nat):Prop where
 lt:∀k∈o,k<n
 nd:o.Nodup
 be:∀(i k:Nat),o[i]?=some k→∀j,j<n→e k j=true→∃m,m<i∧o[m]?=some j
theorem zm1.nil:zm1 e n []:=⟨fun k hk=>(by cases hk),List.nodup_nil,fun i k h=>(by simp at h)⟩
theorem zm1.snoc {o:List Nat} {k:Nat} (h:zm1 e n o) (hk:zna e n o=some k):zm1 e n (o++[k]):=by
 obtain ⟨h1,h2,h3,-⟩:=zff hk;refine ⟨fun i hi=>?_,?_,fun i x hx j hj he=>?_⟩
 ·rcases List.mem_append.1 hi with hi | hi
  ·exact h.lt i hi
  ·rw [List.mem_singleton.1 hi];exact h1
 ·rw [List.nodup_append];exact ⟨h.nd,(by simp),fun a ha b hb hab=>by rw [List.mem_singleton.1 hb] at hab;rw [hab] at ha;exact h2 ha⟩
 ·rw [List.getElem?_append] at hx;split at hx
  ·obtain ⟨m,hm,hj2⟩:=h.be i x hx j hj he;exact ⟨m,hm,by rw [List.getElem?_append_left (zg8.1 hj2).1];exact hj2⟩
  ·rename_i hil;have hx2:=List.mem_of_getElem? hx;rw [List.mem_singleton] at hx2;subst hx2;obtain ⟨m,hm⟩:=List.getElem?_of_mem (h3 j hj he);have hml:=(zg8.1 hm).1;exact ⟨m,by omega,by rw [List.getElem?_append_left hml];exact hm⟩
theorem zpz:∀{f:Nat} {o o':List Nat},zm1 e n o→zj4 e n f o=some o'→zm1 e n o'∧o'.length=o.length+f
 | 0,o,o',h,ho=>by
  simp only [zj4,Option.some.injEq] at ho;subst ho;exact ⟨h,rfl⟩
 | f+1,o,o',h,ho=>by
  rw [zj4] at ho;split at ho
  ·cases ho
  ·rename_i k hk;obtain ⟨h1,h2⟩:=zpz (h.snoc hk) ho;exact ⟨h1,by rw [h2,List.length_append];simp;omega⟩
theorem zym {o:List Nat} (h:zly e n=some o):zm1 e n o∧o.length=n:=by
 obtain ⟨h1,h2⟩:=zpz zm1.nil h;exact ⟨h1,by simpa using h2⟩
theorem qby:∀{n:Nat} {o:List Nat},o.Nodup→(∀k∈o,k<n)→o.length=n→∀k,k<n→k∈o
 | 0,o,_,_,_,k,hk=>by omega
 | n+1,o,hd,hl,hn,k,hk=>by
  by_cases hm:n∈o
  ·have h1:(o.erase n).length=n:=by rw [List.length_erase_of_mem hm];omega
   have h2:∀x∈o.erase n,x<n:=fun x hx=>by
    have h3:=hl x (List.mem_of_mem_erase hx);have h4:x≠n:=fun h=>by subst h;exact (List.Nodup.mem_erase_iff hd).1 hx |>.1 rfl
    omega
   by_cases hkn:k=n
   ·subst hkn;exact hm
   ·exact List.mem_of_mem_erase (qby (hd.erase n) h2 h1 k (by omega))
  ·have h2:∀x∈o,x<n:=fun x hx=>by
    have h3:=hl x hx;have h4:x≠n:=fun h=>by subst h;exact hm hx
    omega
   exfalso;have:=nodup_len h2 hd;omega
where nodup_len:∀{n:Nat} {o:List Nat},(∀k∈o,k<n)→o.Nodup→o.length≤n
 | 0,o,hl,_=>by
  cases o with
  | nil=>simp
  | cons a o=>exact absurd (hl a List.mem_cons_self) (by omega)
 | n+1,o,hl,hd=>by
  by_cases hm:n∈o
  ·have h2:∀x∈o.erase n,x<n:=fun x hx=>by
    have h3:=hl x (List.mem_of_mem_erase hx);have h4:x≠n:=fun h=>by subst h;exact (List.Nodup.mem_erase_iff hd).1 hx |>.1 rfl
    omega
   have:=nodup_len h2 (hd.erase n);rw [List.length_erase_of_mem hm] at this;omega
  ·have h2:∀x∈o,x<n:=fun x hx=>by
    have h3:=hl x hx;have h4:x≠n:=fun h=>by subst h;exact hm hx
    omega
   have:=nodup_len h2 hd;omega
end
abbrev qx (l:List Nat):List Int:=l.map fun j:Nat=>(j:Int)
def zif (L:List Ins) (n:Int):Bool:=L.any fun x=>x.1==30&&x.2.1==n
def za3 (L:List Ins) (N:Nat):Bool:=L.any fun x=>x.1==30&&(decide (x.2.1<0)||decide ((N:Int)≤x.2.1))
def zl (d:Md) (k:Nat):List Ins:=(d.s[k]?.getD (Mh.zero,[])).2
def e11 (d:Md) (k j:Nat):Bool:=zif (zl d k) j
def zfv (d:Md) (k:Int):List Int×Int:=
 if k<0∨(d.s.length:Int)≤k then ([],2) else if za3 (zl d k.toNat) d.s.length=true then ([],2) else (qx ((List.range d.s.length).filter (e11 d k.toNat)),0)
def zcm (d:Md):Bool:=d.s.any fun z=>za3 z.2 d.s.length
def jg (d:Md):List Int×Int:=
 if zcm d=true then ([],2) else match zly (e11 d) d.s.length with
  | some o=>(qx o,0)
  | none=>([],110)
theorem zfm {d:Md} (h:zcm d=false) {k:Nat} (hk:k<d.s.length):za3 (zl d k) d.s.length=false:=by
 unfold zcm at h;rw [List.any_eq_false] at h;have:=h d.s[k] (List.getElem_mem hk);rw [zl,zg7 hk];simpa using this
theorem zhz {d:Md} (h:∀k,k<d.s.length→za3 (zl d k) d.s.length=false):zcm d=false:=by
 unfold zcm;rw [List.any_eq_false];intro z hz;obtain ⟨k,hk⟩:=List.getElem?_of_mem hz;have h1:=(zg8.1 hk).1;have:=h k h1;rw [zl,hk] at this;simpa using this
theorem zo0 {d:Md} (h:zcm d=false) {k:Nat} (hk:k<d.s.length):zfv d k=(qx ((List.range d.s.length).filter (e11 d k)),0):=by
 rw [zfv,if_neg (by omega),Int.toNat_natCast,if_neg (by rw [zfm h hk];decide)]
theorem zyc {d:Md} (h:(jg d).2=0):zcm d=false∧∃o,zly (e11 d) d.s.length=some o∧(jg d).1=qx o:=by
 unfold jg at h ⊢;split at h
 ·cases h
 ·rename_i hb;cases ho:zly (e11 d) d.s.length with
  | none=>rw [ho] at h;cases h
  | some o=>exact ⟨by simpa using hb,o,rfl,by rw [if_neg hb]⟩
def qc1 (_x:Lp):Prop:=True
def Rj (w:World) (A:Option Addr) (c:Nat) (L:List Lp):Prop:=
 (∀x∈L,qc1 x)∧L.length≤c∧c≤maxLen∧((A=none∧c=0)∨∃ad:Addr,A=some ad∧∀i x,L[i]?=some x→w.cell? (ad.add (i*3))=some (.int .i64 x.1)∧w.cell? ⟨(ad.add (i*3)).block,(ad.add (i*3)).off+1,none⟩=some (.int .i64 x.2.1)∧w.cell? ⟨(ad.add (i*3)).block,(ad.add (i*3)).off+2,none⟩=some (.int .i64 x.2.2))
def cej (L:List Lp):List Value:=L.flatMap fun x=>[.int .i64 x.1,.int .i64 x.2.1,.int .i64 x.2.2]
section
variable {w w' : World} {A : Option Addr} {c : Nat} {L : List Lp}
theorem Rj.le (h:Rj w A c L):L.length≤c:=h.2.1
theorem Rj.len (h:Rj w A c L):L.length≤9223372036854775807:=Nat.le_trans h.le h.2.2.1
theorem Rj.at_ (h:Rj w A c L) {i:Nat} (hi:i<L.length):∃ad:Addr,A=some ad∧w.cell? (ad.add (i*3))=some (.int .i64 (L[i]).1)∧w.cell? ⟨(ad.add (i*3)).block,(ad.add (i*3)).off+1,none⟩=some (.int .i64 (L[i]).2.1)∧w.cell? ⟨(ad.add (i*3)).block,(ad.add (i*3)).off+2,none⟩=some (.int .i64 (L[i]).2.2):=by
 rcases h.2.2.2 with ⟨_,hc⟩ | ⟨ad,ha,hc⟩
 ·have:=h.le;omega
 ·exact ⟨ad,ha,hc i _ (zg7 hi)⟩
theorem Rj.keep (h:Rj w A c L) (hb:Below w.heap.size w w'):Rj w' A c L:=by
 refine ⟨h.1,h.2.1,h.2.2.1,?_⟩;rcases h.2.2.2 with hn | ⟨ad,ha,hc⟩
 ·exact .inl hn
 ·refine .inr ⟨ad,ha,fun i x hx=>?_⟩;obtain ⟨h1,h2,h3⟩:=hc i x hx;exact ⟨(hb.cell (qi h1)).trans h1,(hb.cell (qi h2)).trans h2,(hb.cell (qi h3)).trans h3⟩
end
theorem zb8 (L:List Lp):(cej L).length=L.length*3:=by
 induction L with
 | nil=>rfl
 | cons x L ih=>rw [cej,List.flatMap_cons,List.length_append,←cej,ih];simp;omega
theorem zgr (L M:List Lp):cej (L++M)=cej L++cej M:=by simp [cej]
theorem zcg (x:Lp) (L:List Lp):cej (x::L)=.int .i64 x.1::.int .i64 x.2.1::.int .i64 x.2.2::cej L:=by simp [cej]
theorem zox (L:List Lp):∀u∈cej L,u.oneCell'=true:=by
 intro u hu;simp only [cej,List.mem_flatMap] at hu;obtain ⟨x,_,hx⟩:=hu;simp at hx;rcases hx with rfl | rfl | rfl<;>rfl
theorem zmb {L:List Lp} {i:Nat} {x:Lp} (h:L[i]?=some x):(cej L)[i*3]?=some (.int .i64 x.1)∧(cej L)[i*3+1]?=some (.int .i64 x.2.1)∧(cej L)[i*3+2]?=some (.int .i64 x.2.2):=by
 induction L generalizing i with
 | nil=>simp at h
 | cons y L ih =>
  cases i with
  | zero =>
   simp at h;subst h;rw [zcg];exact ⟨rfl,rfl,rfl⟩
  | succ i =>
   obtain ⟨h1,h2,h3⟩:=ih (i:=i) (by simpa using h);rw [zcg,show (i+1)*3=i*3+1+1+1 by omega,show i*3+1+1+1+1=(i*3+1)+1+1+1 by omega,show i*3+1+1+1+2=(i*3+2)+1+1+1 by omega];simp only [List.getElem?_cons_succ];exact ⟨h1,h2,h3⟩
theorem qac {L:List Lp} {j:Nat} {u:Value} (h:(cej L)[j]?=some u):∃i x,L[i]?=some x∧((j=i*3∧u=.int .i64 x.1)∨(j=i*3+1∧u=.int .i64 x.2.1)∨(j=i*3+2∧u=.int .i64 x.2.2)):=by
 have hj:=(zg8.1 h).1;rw [zb8] at hj;have hi:j / 3<L.length:=by omega
 have hx:L[j / 3]?=some L[j / 3]:=zg7 hi;obtain ⟨h1,h2,h3⟩:=zmb hx;refine ⟨j / 3,_,hx,?_⟩;have h3':j % 3=0∨j % 3=1∨j % 3=2:=by omega
 rcases h3' with e | e | e
 ·have e':j=j / 3*3:=by omega
  rw [←e',h] at h1;exact .inl ⟨e',Option.some.inj h1⟩
 ·have e':j=j / 3*3+1:=by omega
  rw [←e',h] at h2;exact .inr (.inl ⟨e',Option.some.inj h2⟩)
 ·have e':j=j / 3*3+2:=by omega
  rw [←e',h] at h3;exact .inr (.inr ⟨e',Option.some.inj h3⟩)
theorem zwa (ad:Addr) (k:Nat):ad.add (k+1)=⟨(ad.add k).block,(ad.add k).off+1,none⟩:=by
 unfold Addr.add;rw [if_neg (by omega)];split
 ·subst_vars;rfl
 ·rfl
theorem zwg (ad:Addr) (k:Nat):ad.add (k+2)=⟨(ad.add k).block,(ad.add k).off+2,none⟩:=by
 unfold Addr.add;rw [if_neg (by omega)];split
 ·subst_vars;rfl
 ·rfl
theorem Rj.of_own {w:World} {A:Option Addr} {c base e:Nat} {n:Nat} {L:List Lp} (h:w.ownsRow base e 3 (.slice A n c) n (cej L)) (hb:∀x∈L,qc1 x):Rj w A c L∧n=L.length:=by
 have hn:n=L.length:=by have:=h.1;rw [zb8] at this;omega
 refine ⟨⟨hb,?_⟩,hn⟩;have hcell:=fun g=>h.cells (g:=g);rcases h.2 with ⟨hv,h0⟩ | ⟨g,cap,cur,hv,_,_,hcap,hm,_⟩
 ·injection hv with e1 e2 e3;exact ⟨by omega,by omega,.inl ⟨e1,e3⟩⟩
 ·injection hv with e1 e2 e3;subst e1 e3;refine ⟨by omega,hm,.inr ⟨_,rfl,fun i x hx=>?_⟩⟩;obtain ⟨h1,h2,h3⟩:=zmb hx;rw [←zwa,←zwg];exact ⟨hcell g rfl _ _ h1,hcell g rfl _ _ h2,hcell g rfl _ _ h3⟩
theorem zl2 {w:World} {ad:Addr} {c:Nat} {L:List Lp} (h:Rj w (some ad) c L) (hc:0<c):∀j u,(cej L)[j]?=some u→w.cell? (ad.add j)=some u:=by
 intro j u hj;obtain ⟨i,x,hx,hu⟩:=qac hj;rcases h.2.2.2 with ⟨ha,_⟩ | ⟨ad',ha,hcell⟩
 ·cases ha
 ·injection ha with ha;subst ha;obtain ⟨h1,h2,h3⟩:=hcell i x hx;rw [←zwa] at h2;rw [←zwg] at h3;rcases hu with ⟨rfl,rfl⟩ | ⟨rfl,rfl⟩ | ⟨rfl,rfl⟩
  ·exact h1
  ·exact h2
  ·exact h3
theorem qcw (w:World) (x:Lp) (h:qc1 x):Rj (w.alloc (.cells #[.int .i64 x.1,.int .i64 x.2.1,.int .i64 x.2.2] 205)) (some ⟨w.heap.size,0,none⟩) 1 [x]:=by
 refine ⟨fun y hy=>by rw [List.mem_singleton.1 hy];exact h,Nat.le_refl _,by unfold maxLen;omega,.inr ⟨_,rfl,fun i y hi=>?_⟩⟩;match i,hi with
 | 0,hi =>
  simp at hi;subst hi;refine ⟨?_,?_,?_⟩<;>simp [go_sem,Addr.add]
theorem Tryz.infoJ:(Tryz.prog.info? 205).map (fun i=>(i.zero,i.size,i.bytes))=some (some (.agg #[.int .i64 0,.int .i64 0,.int .i64 0]),3,24):=by kernel_rfl
theorem zd9 (w:World) {ops:Array Oper} {rest:List Oper} {o:Oper} {a:Act} {Q:Exit→Act→World→Prop} (hgd:o.guard=none) (s x:Operand)
  (ho:o.op=.call { callee:=.builtin .append,args:=#[s,x],argTypes:=#[120,120]})
  (base:Nat) (v:Value) (n:Nat) (K:List Lp) (hs:a.eval s=v) (hown:w.ownsRow base 205 3 v n (cej K))
  (A:Option Addr) (m c:Nat) (L:List Lp) (hx:a.eval x=.slice A m c) (hr:Rj w A c L) (hm:m=L.length) (hbytes:n+m≤1000000) (hbase:base≤w.heap.size)
  (h:∀A' c' w',w'.ownsRow base 205 3 (.slice A' (n+m) c') (n+m) (cej (K++L))→Below base w w'→wpList Tryz.prog ops Q rest (a.put o.dst (.slice A' (n+m) c')) w'):wpList Tryz.prog ops Q (o::rest) a w:=by
 have hinfo:=Tryz.infoJ;rw [Option.map_eq_some_iff] at hinfo;obtain ⟨i,hi,hz⟩:=hinfo;simp only [Prod.mk.injEq] at hz;obtain ⟨hz0,hz1,hz2⟩:=hz;have hbel:∀{w'},w.grownBy w' v.ownBlock→Below base w w':=fun hg=>(Below.refl _ _).grown hg hbase fun g hg'=>(hown.lt g hg').1;rcases hr.2.2.2 with ⟨rfl,rfl⟩ | ⟨ad,rfl,hcell⟩
 ·have h0:L=[]:=List.eq_nil_of_length_eq_zero (by have:=hr.le;omega);subst h0;obtain rfl:m=0:=hm;refine wpList_append_own_none hgd s x 120 ho base 205 i 3 Tryz.underlying120 hi v n (cej K) hs hown hx ?_;obtain ⟨A',c',rfl⟩:=qv hown;have:=h A' c' w (by simpa using hown) (hbel (World.grownBy.refl w _));simpa using this
 ·by_cases hc:c=0
  ·subst hc;have h0:L=[]:=List.eq_nil_of_length_eq_zero (by have:=hr.le;omega);subst h0;obtain rfl:m=0:=hm;refine wpList_append_own_at w hgd s x 120 ho base 205 i _ 3 24 Tryz.underlying120 hi hz0 hz1 hz2 rfl (by decide) v n (cej K) hs hown ad 0 0 [] hx rfl (fun j u hj=>by cases hj) (fun u hu=>by cases hu) (by unfold maxLen;omega) (by omega) hbase ?_;intro v' w' hown' hg _ _;obtain ⟨A',c',rfl⟩:=qv hown';exact h A' c' w' (by simpa using hown') (hbel hg)
  ·refine wpList_append_own_at w hgd s x 120 ho base 205 i _ 3 24 Tryz.underlying120 hi hz0 hz1 hz2 rfl (by decide) v n (cej K) hs hown ad m c (cej L) hx (by rw [zb8,hm])
    (zl2 hr (by omega)) (zox L) (by unfold maxLen;omega) (by omega) hbase ?_
   intro v' w' hown' hg _ _;obtain ⟨A',c',rfl⟩:=qv hown';exact h A' c' w' (by rw [zgr];exact hown') (hbel hg)
theorem qcx (w:World) (x:Lp) (h:qc1 x):Rj (w.alloc (.cells #[.int .i64 x.1,.int .i64 x.2.1,.int .i64 x.2.2] 163)) (some ⟨w.heap.size,0,none⟩) 1 [x]:=by
 refine ⟨fun y hy=>by rw [List.mem_singleton.1 hy];exact h,Nat.le_refl _,by unfold maxLen;omega,.inr ⟨_,rfl,fun i y hi=>?_⟩⟩;match i,hi with
 | 0,hi =>
  simp at hi;subst hi;refine ⟨?_,?_,?_⟩<;>simp [go_sem,Addr.add]
theorem Tryz.infoF:(Tryz.prog.info? 163).map (fun i=>(i.zero,i.size,i.bytes))=some (some (.agg #[.int .i64 0,.int .i64 0,.int .i64 0]),3,24):=by kernel_rfl
theorem zeb (w:World) {ops:Array Oper} {rest:List Oper} {o:Oper} {a:Act} {Q:Exit→Act→World→Prop} (hgd:o.guard=none) (s x:Operand)
  (ho:o.op=.call { callee:=.builtin .append,args:=#[s,x],argTypes:=#[82,82]})
  (base:Nat) (v:Value) (n:Nat) (K:List Lp) (hs:a.eval s=v) (hown:w.ownsRow base 163 3 v n (cej K))
  (A:Option Addr) (m c:Nat) (L:List Lp) (hx:a.eval x=.slice A m c) (hr:Rj w A c L) (hm:m=L.length) (hbytes:n+m≤1000000) (hbase:base≤w.heap.size)
  (h:∀A' c' w',w'.ownsRow base 163 3 (.slice A' (n+m) c') (n+m) (cej (K++L))→Below base w w'→wpList Tryz.prog ops Q rest (a.put o.dst (.slice A' (n+m) c')) w'):wpList Tryz.prog ops Q (o::rest) a w:=by
 have hinfo:=Tryz.infoF;rw [Option.map_eq_some_iff] at hinfo;obtain ⟨i,hi,hz⟩:=hinfo;simp only [Prod.mk.injEq] at hz;obtain ⟨hz0,hz1,hz2⟩:=hz;have hbel:∀{w'},w.grownBy w' v.ownBlock→Below base w w':=fun hg=>(Below.refl _ _).grown hg hbase fun g hg'=>(hown.lt g hg').1;rcases hr.2.2.2 with ⟨rfl,rfl⟩ | ⟨ad,rfl,hcell⟩
 ·have h0:L=[]:=List.eq_nil_of_length_eq_zero (by have:=hr.le;omega);subst h0;obtain rfl:m=0:=hm;refine wpList_append_own_none hgd s x 82 ho base 163 i 3 Tryz.underlying82 hi v n (cej K) hs hown hx ?_;obtain ⟨A',c',rfl⟩:=qv hown;have:=h A' c' w (by simpa using hown) (hbel (World.grownBy.refl w _));simpa using this
 ·by_cases hc:c=0
  ·subst hc;have h0:L=[]:=List.eq_nil_of_length_eq_zero (by have:=hr.le;omega);subst h0;obtain rfl:m=0:=hm;refine wpList_append_own_at w hgd s x 82 ho base 163 i _ 3 24 Tryz.underlying82 hi hz0 hz1 hz2 rfl (by decide) v n (cej K) hs hown ad 0 0 [] hx rfl (fun j u hj=>by cases hj) (fun u hu=>by cases hu) (by unfold maxLen;omega) (by omega) hbase ?_;intro v' w' hown' hg _ _;obtain ⟨A',c',rfl⟩:=qv hown';exact h A' c' w' (by simpa using hown') (hbel hg)
  ·refine wpList_append_own_at w hgd s x 82 ho base 163 i _ 3 24 Tryz.underlying82 hi hz0 hz1 hz2 rfl (by decide) v n (cej K) hs hown ad m c (cej L) hx (by rw [zb8,hm])
    (zl2 hr (by omega)) (zox L) (by unfold maxLen;omega) (by omega) hbase ?_
   intro v' w' hown' hg _ _;obtain ⟨A',c',rfl⟩:=qv hown';exact h A' c' w' (by rw [zgr];exact hown') (hbel hg)
def Rn (w:World) (A:Option Addr) (c:Nat) (L:List Int):Prop:=L.length≤c∧c≤maxLen∧((A=none∧c=0)∨∃ad:Addr,A=some ad∧∀i x,L[i]?=some x→w.cell? (ad.add i)=some (.int .i64 x))
section
variable {w w' : World} {A : Option Addr} {c : Nat} {L : List Int}
theorem Rn.keep (h:Rn w A c L) (hb:Below w.heap.size w w'):Rn w' A c L:=by
 refine ⟨h.1,h.2.1,?_⟩;rcases h.2.2 with hn | ⟨ad,ha,hc⟩
 ·exact .inl hn
 ·exact .inr ⟨ad,ha,fun i x hx=>(hb.cell (qi (hc i x hx))).trans (hc i x hx)⟩
theorem Rn.at_ (h:Rn w A c L) {i:Nat} {x:Int} (hi:L[i]?=some x):∃ad:Addr,A=some ad∧w.cell? (ad.add i)=some (.int .i64 x):=by
 rcases h.2.2 with ⟨_,hc⟩ | ⟨ad,ha,hc⟩
 ·have:=h.1;have:=(zg8.1 hi).1;omega
 ·exact ⟨ad,ha,hc i x hi⟩
theorem Rn.new (w:World) (L:List Int) (t:Nat) (h:L.length≤maxLen):Rn (w.alloc (.cells (L.map (Value.int .i64)).toArray t)) (some ⟨w.heap.size,0,none⟩) L.length L:=by
 refine ⟨Nat.le_refl _,h,.inr ⟨_,rfl,fun i x hx=>?_⟩⟩
 have e:(⟨w.heap.size,0,none⟩:Addr).add i=⟨w.heap.size,i,none⟩:=by
  unfold Addr.add;split
  ·rename_i h0;simp [h0]
  ·simp
 rw [e];simp [go_sem,hx]
end
abbrev fRn (A:Option Addr) (c:Nat) (L:List Int):Fct:=⟨fun w=>Rn w A c L,fun _ _ h hb=>h.keep hb⟩
def ci9 (L:List Int):List Value:=L.map (Value.int .i64)
theorem Rn.of_own {w:World} {A:Option Addr} {c base e n:Nat} {L:List Int} (h:w.ownsRow base e 1 (.slice A n c) n (ci9 L)):Rn w A c L∧n=L.length:=by
 have hn:n=L.length:=by have:=h.1;simp [ci9] at this;omega
 refine ⟨?_,hn⟩;have hcell:=fun g=>h.cells (g:=g);rcases h.2 with ⟨hv,h0⟩ | ⟨g,cap,cur,hv,_,_,hcap,hm,_⟩
 ·injection hv with e1 e2 e3;exact ⟨by omega,by omega,.inl ⟨e1,e3⟩⟩
 ·injection hv with e1 e2 e3;subst e1 e3;exact ⟨by omega,hm,.inr ⟨_,rfl,fun i x hx=>hcell g rfl _ _ (by simp [ci9,hx])⟩⟩
def zx3:Prop:=∀(A:Option Addr) (c m:Nat) (L:List Ins) (w:World),Ri w A c L→L.length=m→m≤300→Calls Tryz.prog 166 #[.slice A m c] w fun r w'=>∃A' c',r=.returned (.tuple #[.slice A' (zea L).length c',.int .i64 (jc L)]) ∧
 w'.ownsRow w.heap.size 3 1 (.slice A' (zea L).length c') (zea L).length (ci9 (zea L))∧Below w.heap.size w w'
def qcd:Prop:=∀(A:Option Addr) (c m:Nat) (L:List Ins) (a:Int) (w:World),Ri w A c L→L.length=m→m≤300→Calls Tryz.prog 159 #[.slice A m c,.int .i64 a] w fun r w'=>∃A' c',r=.returned (.tuple #[.slice A' (zd2 L a).1.length c',.int .i64 (zd2 L a).2]) ∧
 w'.ownsRow w.heap.size 3 1 (.slice A' (zd2 L a).1.length c') (zd2 L a).1.length (ci9 (zd2 L a).1)∧Below w.heap.size w w'
def zzr:Prop:=∀(A:Option Addr) (c m:Nat) (L:List Ins) (w:World),Ri w A c L→L.length=m→m≤300→Calls Tryz.prog 23 #[.slice A m c] w fun r w'=>r=.returned (.int .i64 (jc L))∧Below w.heap.size w w'
def Cl9 (w:World) (g:Nat) (xs:List Value):Prop:=g<w.heap.size∧∀i u,xs[i]?=some u→w.cell? ⟨g,i,none⟩=some u
theorem zr5:∀(xs:List Lp),(∀x∈xs,1≤K9 x∧K9 x≤100)→1≤pr9 xs∧pr9 xs≤100 ^ xs.length
 | [],_=>by simp [pr9]
 | x::xs,h=>by
  obtain ⟨a,b⟩:=h x List.mem_cons_self;obtain ⟨c,d⟩:=zr5 xs (fun y hy=>h y (List.mem_cons_of_mem _ hy));rw [pr9,List.length_cons,Nat.pow_succ];have e1:1*1≤K9 x*pr9 xs:=Nat.mul_le_mul a c;have e2:K9 x*pr9 xs≤100*100 ^ xs.length:=Nat.mul_le_mul b d;omega
theorem zmk {l:List Ins} (h:jc l=0) {p:Nat} (hp:p<l.length):(lq9 (qy l l.length) p).length≤4:=by
 obtain ⟨-,-,hns,-⟩:=za h;rw [ns9,Bool.and_eq_true,List.all_eq_true,List.all_eq_true] at hns;have:=hns.2 p (List.mem_range.2 hp);simpa using this
theorem zi2 {l:List Ins} (h:jc l=0) {p:Nat} (hp:p<l.length):1≤tm9 (qy l l.length) p∧tm9 (qy l l.length) p≤100000000:=by
 have hw:=wl9 h;rw [qcj hw]
 obtain ⟨a,b⟩:=zr5 (lq9 (qy l l.length) p) (fun x hx=>by
  have:=(hw.mem x (zk3.1 hx).1).2.2.2.2.2.2;unfold K9;omega)
 have c:(100:Nat) ^ (lq9 (qy l l.length) p).length≤100 ^ 4:=Nat.pow_le_pow_right (by omega) (zmk h hp);omega
theorem zj0 {l:List Ins} (h:jc l=0):(zea l).length=l.length∧∀p,p<l.length→(zea l)[p]?=some (tm9 (qy l l.length) p):=by
 rw [zea,if_pos h];refine ⟨by simp,fun p hp=>?_⟩;rw [List.getElem?_map,List.getElem?_range hp];rfl
abbrev Ce:=Int×Int×Int
def zd4:Ce:=(0,0,0)
abbrev zkd:=Int×Int×Bool×Int
def zec (L:List Ins) (p:Nat):Int:=tm9 (qy L L.length) p
def zgm (m:Mh):Int:=((m.a.length+m.l.length:Nat):Int)
def zle (S:List Rz) (p:Nat):Rz:=S[p]?.getD z10
def zra (d:Md) (L:List Ins) (p:Nat):Nat:=(ji d (iA9 L p).toNat).a.length
def zqg (d:Md) (m:Mh) (L:List Ins) (S:List Rz) (p:Nat):zkd:=(iA9 L p,zec L p,(zle S p).1,zgm m+(zle S p).2.length-zra d L p)
def zic (L:List Ins) (n:Nat):Int:=((List.range n).map (zec L)).sum
def zny (L:List Ins) (p:Nat):Int:=if iO9 L p=22 then iA9 L p*zec L p else 0
def zid (L:List Ins) (n:Nat):Int:=((List.range n).map (zny L)).sum
def zf4 (d:Md) (m:Mh) (L:List Ins) (S:List Rz) (n:Nat):List zkd:=((List.range n).filter fun p=>iO9 L p==30).map (zqg d m L S)
def qc6 (m:Mh) (L:List Ins) (S:List Rz):Ce:=(zic L L.length,zgm m+zc8 S,zid L L.length)
def zkc (d:Md) (k:Nat):Ce:=qc6 (ji d k) (zl d k) (ql d k).1
def ziy (d:Md) (k:Nat):List zkd:=zf4 d (ji d k) (zl d k) (ql d k).1 (zl d k).length
def zvr (C:Nat→Ce) (s:Ce) (x:zkd):Ce:=(s.1+(C x.1.toNat).1*x.2.1,if x.2.2.1=true then max s.2.1 (x.2.2.2+(C x.1.toNat).2.1) else s.2.1,s.2.2+(C x.1.toNat).2.2*x.2.1)
def zdn (C:Nat→Ce) (l:List zkd) (s:Ce):Ce:=l.foldl (zvr C) s
def zsq (d:Md) (C:Nat→Ce) (k:Nat):Ce:=zdn C (ziy d k) (zkc d k)
def zp6 (C:Nat→Ce) (k:Nat) (v:Ce):Nat→Ce:=fun j=>if j=k then v else C j
def qeo (d:Md) (o:List Nat) (C:Nat→Ce):Nat→Ce:=o.foldl (fun C k=>zp6 C k (zsq d C k)) C
def zdo (d:Md):List Nat:=(zly (e11 d) d.s.length).getD []
def zbl (d:Md) (i:Nat):Nat→Ce:=qeo d ((zdo d).take i) fun _=>zd4
def zls (d:Md):Nat→Ce:=qeo d (zdo d) fun _=>zd4
def zma (n a b:Int):Bool:=decide (0≤n)&&decide (n≤min a b)
def zew (c:Ce) (m:Mh):Bool:=zma c.1 m.f 1048576&&(zma c.2.1 m.s 256&&zma c.2.2 m.h 1024)
def jj (d:Md):Nat→Int
 | 0=>0
 | k+1=>if jj d k=0 then (ql d k).2 else jj d k
def zig (d:Md):List Ce:=(List.range d.s.length).map (zls d)
def zlg (d:Md) (i:Nat):Bool:=((zdo d).take i).all fun k=>zew (zls d k) (ji d k)
def zap (d:Md):List Ce×Int:=
 if (jg d).2=0 then (if jj d d.s.length=0 then (if zlg d d.s.length=true then (zig d,0) else ([],120)) else ([],jj d d.s.length)) else ([],(jg d).2)
theorem zb3 (L:List Ins) (n:Nat):zic L (n+1)=zic L n+zec L n:=by simp [zic,List.range_succ]
theorem zbz (L:List Ins) (n:Nat):zid L (n+1)=zid L n+zny L n:=by simp [zid,List.range_succ]
theorem zb4 (d:Md) (m:Mh) (L:List Ins) (S:List Rz) (n:Nat):zf4 d m L S (n+1)=zf4 d m L S n++if iO9 L n=30 then [zqg d m L S n] else []:=by
 unfold zf4;rw [List.range_succ,List.filter_append,List.map_append];by_cases h:iO9 L n=30
 ·simp [h]
 ·simp [h]
theorem zvm (d:Md) (m:Mh) (L:List Ins) (S:List Rz) (n:Nat):(zf4 d m L S n).length≤n:=by
 rw [zf4,List.length_map];have:=List.length_filter_le (fun p=>iO9 L p==30) (List.range n);rw [List.length_range] at this;exact this
theorem zvy {n a b:Int}:zma n a b=true↔0≤n∧n≤a∧n≤b:=by
 simp only [zma,Bool.and_eq_true,decide_eq_true_eq];omega
theorem zh7 {c:Ce} {m:Mh}:zew c m=true↔(0≤c.1∧c.1≤m.f∧c.1≤1048576)∧(0≤c.2.1∧c.2.1≤m.s∧c.2.1≤256)∧(0≤c.2.2∧c.2.2≤m.h∧c.2.2≤1024):=by
 simp only [zew,Bool.and_eq_true,zvy]
theorem zfg {d:Md}:∀{n:Nat},jj d n=0→∀k,k<n→(ql d k).2=0
 | 0,_,k,hk=>by omega
 | n+1,h,k,hk=>by
  rw [jj] at h;by_cases h0:jj d n=0
  ·rw [if_pos h0] at h;by_cases hkn:k=n
   ·rw [hkn];exact h
   ·exact zfg h0 k (by omega)
  ·rw [if_neg h0] at h;exact absurd h h0
theorem zav {d:Md} {k:Nat} (h0:jj d k=0) (h1:(ql d k).2≠0):∀n,k<n→jj d n=(ql d k).2
 | 0,h=>by omega
 | n+1,h=>by
  rw [jj];by_cases hkn:k=n
  ·rw [←hkn,if_pos h0]
  ·have:=zav h0 h1 n (by omega);rw [if_neg (by rw [this];exact h1),this]
theorem qc5 {d:Md} (h:(jg d).2=0):zly (e11 d) d.s.length=some (zdo d)∧(jg d).1=qx (zdo d)∧zm1 (e11 d) d.s.length (zdo d)∧(zdo d).length=d.s.length∧zcm d=false:=by
 obtain ⟨hb,o,ho,hr⟩:=zyc h;have e:zdo d=o:=by rw [zdo,ho];rfl
 obtain ⟨h1,h2⟩:=zym ho;rw [e];exact ⟨ho,hr,h1,h2,hb⟩
theorem zr8 {d:Md} (hb:zcm d=false) {k p:Nat} (hk:k<d.s.length) (hp:p<(zl d k).length) (ho:iO9 (zl d k) p=30):∃j:Nat,iA9 (zl d k) p=j∧j<d.s.length∧e11 d k j=true:=by
 have h1:=zfm hb hk;obtain ⟨hm,e1,e2⟩:=zd0 hp;rw [ho] at e1;unfold za3 at h1;rw [List.any_eq_false] at h1;have h2:=h1 _ hm;rw [←e1,←e2] at h2;simp at h2;refine ⟨(iA9 (zl d k) p).toNat,by omega,by omega,?_⟩;unfold e11 zif;rw [List.any_eq_true];refine ⟨_,hm,?_⟩;rw [←e1,←e2];simp;omega
theorem zu8 {d:Md} (hb:zcm d=false) {k:Nat} (hk:k<d.s.length) {x:zkd} (hx:x∈ziy d k):x.1.toNat<d.s.length∧e11 d k x.1.toNat=true:=by
 unfold ziy zf4 at hx;obtain ⟨p,hp,rfl⟩:=List.mem_map.1 hx;obtain ⟨hp1,hp2⟩:=List.mem_filter.1 hp;obtain ⟨j,h1,h2,h3⟩:=zr8 hb hk (List.mem_range.1 hp1) (by simpa using hp2);simp only [zqg,h1,Int.toNat_natCast];exact ⟨h2,h3⟩
theorem zc3 {d:Md} {i k:Nat} (hk:(zdo d)[i]?=some k):zbl d (i+1)=zp6 (zbl d i) k (zsq d (zbl d i) k):=by
 unfold zbl qeo;rw [List.take_add_one,hk,List.foldl_append];rfl
theorem zir {d:Md} (hd:(zdo d).Nodup) {i k n:Nat} (hk:(zdo d)[i]?=some k) (hn:i<n):zbl d n k=zsq d (zbl d i) k:=by
 obtain ⟨j,rfl⟩:∃j,n=i+1+j:=⟨n-(i+1),by omega⟩;clear hn;induction j with
 | zero=>rw [Nat.add_zero,zc3 hk,zp6,if_pos rfl]
 | succ j ih =>
  rw [←Nat.add_assoc];cases hx:(zdo d)[i+1+j]? with
  | none =>
   have:(zdo d).take (i+1+j+1)=(zdo d).take (i+1+j):=by rw [List.take_add_one,hx];simp
   rw [zbl,this,←zbl];exact ih
  | some x =>
   rw [zc3 hx,zp6,if_neg,ih];intro e;subst e;obtain ⟨a1,a2⟩:=zg8.1 hk;obtain ⟨b1,b2⟩:=zg8.1 hx;have i1:=hd.idxOf_getElem _ a1;have i2:=hd.idxOf_getElem _ b1;rw [a2] at i1;rw [b2] at i2;omega
theorem zhm {d:Md} {n:Nat} (h:(zdo d).length≤n):zbl d n=zls d:=by
 unfold zbl zls;rw [List.take_of_length_le h]
theorem zb0 {d:Md} (h:(jg d).2=0) {i k:Nat} (hk:(zdo d)[i]?=some k):zsq d (zbl d i) k=zls d k:=by
 obtain ⟨-,-,ho,hl,-⟩:=qc5 h;have h1:=(zg8.1 hk).1;rw [←zhm (Nat.le_refl _),zir ho.nd hk h1]
theorem zis {d:Md} {i k:Nat} (hk:(zdo d)[i]?=some k):zlg d (i+1)=(zlg d i&&zew (zls d k) (ji d k)):=by
 unfold zlg;rw [List.take_add_one,hk,List.all_append];simp
theorem zr6 {d:Md} {i n:Nat} (h:zlg d i=false) (hn:i≤n):zlg d n=false:=by
 unfold zlg at h ⊢;rw [List.all_eq_false] at h ⊢;obtain ⟨x,hx,hf⟩:=h;refine ⟨x,?_,hf⟩;have:(zdo d).take i=((zdo d).take n).take i:=by rw [List.take_take,Nat.min_eq_left hn]
 rw [this] at hx;exact List.mem_of_mem_take hx
theorem zzj {d:Md} (h:(zap d).2=0):(jg d).2=0∧jj d d.s.length=0∧zlg d d.s.length=true∧(zap d).1=zig d:=by
 unfold zap at h ⊢;by_cases h1:(jg d).2=0
 ·rw [if_pos h1] at h ⊢;by_cases h2:jj d d.s.length=0
  ·rw [if_pos h2] at h ⊢;by_cases h3:zlg d d.s.length=true
   ·rw [if_pos h3];exact ⟨h1,h2,h3,rfl⟩
   ·rw [if_neg h3] at h;cases h
  ·rw [if_neg h2] at h;exact absurd h h2
 ·rw [if_neg h1] at h;exact absurd h h1
theorem zhs (d:Md):(zig d).length=d.s.length:=by simp [zig]
end Go.Proofs.YtnjgkkoiamiaaaaGreatDoor
