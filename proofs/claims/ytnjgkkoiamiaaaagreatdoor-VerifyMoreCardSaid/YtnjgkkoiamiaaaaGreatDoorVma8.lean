import Derived.Test.YtnjgkkoiamiaaaaGreatDoorVma1
import Derived.Test.YtnjgkkoiamiaaaaGreatDoorVma7
import Derived.Test.YtnjgkkoiamiaaaaGreatDoorVma5
set_option maxRecDepth 100000
set_option maxHeartbeats 16000000
set_option linter.unusedSimpArgs false
set_option linter.unusedVariables false
namespace Go.Proofs.YtnjgkkoiamiaaaaGreatDoor
open Go.RowKit
abbrev Ce:=Int×Int×Int
def c012:Ce:=(0,0,0)
abbrev Kl12:=Int×Int×Bool×Int
def tm12 (L:List Ins) (p:Nat):Int:=tm9 (lpU9 L L.length) p
def lc12 (m:Mh):Int:=((m.a.length+m.l.length:Nat):Int)
def zr12 (S:List Rz) (p:Nat):Rz:=S[p]?.getD z10
def ar12 (d:Md) (L:List Ins) (p:Nat):Nat:=(me10 d (iA9 L p).toNat).a.length
def mk12 (d:Md) (m:Mh) (L:List Ins) (S:List Rz) (p:Nat):Kl12:=(iA9 L p,tm12 L p,(zr12 S p).1,lc12 m+(zr12 S p).2.length-ar12 d L p)
def fu12 (L:List Ins) (n:Nat):Int:=((List.range n).map (tm12 L)).sum
def hn12 (L:List Ins) (p:Nat):Int:=if iO9 L p=22 then iA9 L p*tm12 L p else 0
def he12 (L:List Ins) (n:Nat):Int:=((List.range n).map (hn12 L)).sum
def ca12 (d:Md) (m:Mh) (L:List Ins) (S:List Rz) (n:Nat):List Kl12:=((List.range n).filter fun p=>iO9 L p==30).map (mk12 d m L S)
def ow12 (m:Mh) (L:List Ins) (S:List Rz):Ce:=(fu12 L L.length,lc12 m+hg10 S,he12 L L.length)
def aw12 (d:Md) (k:Nat):Ce:=ow12 (me10 d k) (co11 d k) (rw10s d k).1
def al12 (d:Md) (k:Nat):List Kl12:=ca12 d (me10 d k) (co11 d k) (rw10s d k).1 (co11 d k).length
def st12 (C:Nat→Ce) (s:Ce) (x:Kl12):Ce:=(s.1+(C x.1.toNat).1*x.2.1,if x.2.2.1=true then max s.2.1 (x.2.2.2+(C x.1.toNat).2.1) else s.2.1,s.2.2+(C x.1.toNat).2.2*x.2.1)
def to12 (C:Nat→Ce) (l:List Kl12) (s:Ce):Ce:=l.foldl (st12 C) s
def of12 (d:Md) (C:Nat→Ce) (k:Nat):Ce:=to12 C (al12 d k) (aw12 d k)
def pu12 (C:Nat→Ce) (k:Nat) (v:Ce):Nat→Ce:=fun j=>if j=k then v else C j
def cf12 (d:Md) (o:List Nat) (C:Nat→Ce):Nat→Ce:=o.foldl (fun C k=>pu12 C k (of12 d C k)) C
def oo12 (d:Md):List Nat:=(or11 (e11 d) d.s.length).getD []
def ci12 (d:Md) (i:Nat):Nat→Ce:=cf12 d ((oo12 d).take i) fun _=>c012
def ce12 (d:Md):Nat→Ce:=cf12 d (oo12 d) fun _=>c012
def wi12 (n a b:Int):Bool:=decide (0≤n)&&decide (n≤min a b)
def fi12 (c:Ce) (m:Mh):Bool:=wi12 c.1 m.f 1048576&&(wi12 c.2.1 m.s 256&&wi12 c.2.2 m.h 1024)
def er12 (d:Md):Nat→Int
 | 0=>0
 | k+1=>if er12 d k=0 then (rw10s d k).2 else er12 d k
def cs12 (d:Md):List Ce:=(List.range d.s.length).map (ce12 d)
def ok12 (d:Md) (i:Nat):Bool:=((oo12 d).take i).all fun k=>fi12 (ce12 d k) (me10 d k)
def co12 (d:Md):List Ce×Int:=
 if (ro11 d).2=0 then (if er12 d d.s.length=0 then (if ok12 d d.s.length=true then (cs12 d,0) else ([],120)) else ([],er12 d d.s.length)) else ([],(ro11 d).2)
theorem fu12_succ (L:List Ins) (n:Nat):fu12 L (n+1)=fu12 L n+tm12 L n:=by simp [fu12,List.range_succ]
theorem he12_succ (L:List Ins) (n:Nat):he12 L (n+1)=he12 L n+hn12 L n:=by simp [he12,List.range_succ]
theorem ca12_succ (d:Md) (m:Mh) (L:List Ins) (S:List Rz) (n:Nat):ca12 d m L S (n+1)=ca12 d m L S n++if iO9 L n=30 then [mk12 d m L S n] else []:=by
 unfold ca12;rw [List.range_succ,List.filter_append,List.map_append];by_cases h:iO9 L n=30
 ·simp [h]
 ·simp [h]
theorem ca12_len (d:Md) (m:Mh) (L:List Ins) (S:List Rz) (n:Nat):(ca12 d m L S n).length≤n:=by
 rw [ca12,List.length_map];have:=List.length_filter_le (fun p=>iO9 L p==30) (List.range n);rw [List.length_range] at this;exact this
theorem wi12_iff {n a b:Int}:wi12 n a b=true↔0≤n∧n≤a∧n≤b:=by
 simp only [wi12,Bool.and_eq_true,decide_eq_true_eq];omega
theorem fi12_iff {c:Ce} {m:Mh}:fi12 c m=true↔(0≤c.1∧c.1≤m.f∧c.1≤1048576)∧(0≤c.2.1∧c.2.1≤m.s∧c.2.1≤256)∧(0≤c.2.2∧c.2.2≤m.h∧c.2.2≤1024):=by
 simp only [fi12,Bool.and_eq_true,wi12_iff]
theorem er12_at {d:Md}:∀{n:Nat},er12 d n=0→∀k,k<n→(rw10s d k).2=0
 | 0,_,k,hk=>by omega
 | n+1,h,k,hk=>by
  rw [er12] at h;by_cases h0:er12 d n=0
  ·rw [if_pos h0] at h;by_cases hkn:k=n
   ·rw [hkn];exact h
   ·exact er12_at h0 k (by omega)
  ·rw [if_neg h0] at h;exact absurd h h0
theorem er12_stop {d:Md} {k:Nat} (h0:er12 d k=0) (h1:(rw10s d k).2≠0):∀n,k<n→er12 d n=(rw10s d k).2
 | 0,h=>by omega
 | n+1,h=>by
  rw [er12];by_cases hkn:k=n
  ·rw [←hkn,if_pos h0]
  ·have:=er12_stop h0 h1 n (by omega);rw [if_neg (by rw [this];exact h1),this]
theorem or12 {d:Md} (h:(ro11 d).2=0):or11 (e11 d) d.s.length=some (oo12 d)∧(ro11 d).1=ns11 (oo12 d)∧Ok11 (e11 d) d.s.length (oo12 d)∧(oo12 d).length=d.s.length∧ba11 d=false:=by
 obtain ⟨hb,o,ho,hr⟩:=ro11_ok h;have e:oo12 d=o:=by rw [oo12,ho];rfl
 obtain ⟨h1,h2⟩:=or11_ok ho;rw [e];exact ⟨ho,hr,h1,h2,hb⟩
theorem to12_congr {C C':Nat→Ce}:∀{l:List Kl12} {s:Ce},(∀x∈l,C x.1.toNat=C' x.1.toNat)→to12 C l s=to12 C' l s
 | [],s,_=>rfl
 | x::l,s,h=>by
  have h1:=h x List.mem_cons_self;have h2:=to12_congr (l:=l) (s:=st12 C' s x) fun y hy=>h y (List.mem_cons_of_mem _ hy);unfold to12 at h2 ⊢;rw [List.foldl_cons,List.foldl_cons,←h2];congr 1;unfold st12;rw [h1]
theorem call12 {d:Md} (hb:ba11 d=false) {k p:Nat} (hk:k<d.s.length) (hp:p<(co11 d k).length) (ho:iO9 (co11 d k) p=30):∃j:Nat,iA9 (co11 d k) p=j∧j<d.s.length∧e11 d k j=true:=by
 have h1:=ba11_at hb hk;obtain ⟨hm,e1,e2⟩:=iO9_mem hp;rw [ho] at e1;unfold bd11 at h1;rw [List.any_eq_false] at h1;have h2:=h1 _ hm;rw [←e1,←e2] at h2;simp at h2;refine ⟨(iA9 (co11 d k) p).toNat,by omega,by omega,?_⟩;unfold e11 cl11;rw [List.any_eq_true];refine ⟨_,hm,?_⟩;rw [←e1,←e2];simp;omega
theorem al12_mem {d:Md} (hb:ba11 d=false) {k:Nat} (hk:k<d.s.length) {x:Kl12} (hx:x∈al12 d k):x.1.toNat<d.s.length∧e11 d k x.1.toNat=true:=by
 unfold al12 ca12 at hx;obtain ⟨p,hp,rfl⟩:=List.mem_map.1 hx;obtain ⟨hp1,hp2⟩:=List.mem_filter.1 hp;obtain ⟨j,h1,h2,h3⟩:=call12 hb hk (List.mem_range.1 hp1) (by simpa using hp2);simp only [mk12,h1,Int.toNat_natCast];exact ⟨h2,h3⟩
theorem ci12_succ {d:Md} {i k:Nat} (hk:(oo12 d)[i]?=some k):ci12 d (i+1)=pu12 (ci12 d i) k (of12 d (ci12 d i) k):=by
 unfold ci12 cf12;rw [List.take_add_one,hk,List.foldl_append];rfl
theorem ci12_stay {d:Md} (hd:(oo12 d).Nodup) {i k n:Nat} (hk:(oo12 d)[i]?=some k) (hn:i<n):ci12 d n k=of12 d (ci12 d i) k:=by
 obtain ⟨j,rfl⟩:∃j,n=i+1+j:=⟨n-(i+1),by omega⟩;clear hn;induction j with
 | zero=>rw [Nat.add_zero,ci12_succ hk,pu12,if_pos rfl]
 | succ j ih =>
  rw [←Nat.add_assoc];cases hx:(oo12 d)[i+1+j]? with
  | none =>
   have:(oo12 d).take (i+1+j+1)=(oo12 d).take (i+1+j):=by rw [List.take_add_one,hx];simp
   rw [ci12,this,←ci12];exact ih
  | some x =>
   rw [ci12_succ hx,pu12,if_neg,ih];intro e;subst e;obtain ⟨a1,a2⟩:=zg8.1 hk;obtain ⟨b1,b2⟩:=zg8.1 hx;have i1:=hd.idxOf_getElem _ a1;have i2:=hd.idxOf_getElem _ b1;rw [a2] at i1;rw [b2] at i2;omega
theorem ci12_all {d:Md} {n:Nat} (h:(oo12 d).length≤n):ci12 d n=ce12 d:=by
 unfold ci12 ce12;rw [List.take_of_length_le h]
theorem ce12_step {d:Md} (h:(ro11 d).2=0) {i k:Nat} (hk:(oo12 d)[i]?=some k):of12 d (ci12 d i) k=ce12 d k:=by
 obtain ⟨-,-,ho,hl,-⟩:=or12 h;have h1:=(zg8.1 hk).1;rw [←ci12_all (Nat.le_refl _),ci12_stay ho.nd hk h1]
theorem ce12_fix {d:Md} (h:(ro11 d).2=0) {k:Nat} (hk:k<d.s.length):ce12 d k=of12 d (ce12 d) k:=by
 obtain ⟨-,-,ho,hl,hb⟩:=or12 h;obtain ⟨i,hi⟩:=List.getElem?_of_mem (all11 ho.nd ho.lt hl k hk);rw [←ce12_step h hi];refine to12_congr fun x hx=>?_;obtain ⟨h1,h2⟩:=al12_mem hb hk hx;obtain ⟨m,hm,hj⟩:=ho.be i k hi _ h1 h2;rw [ci12_stay ho.nd hj hm,ce12_step h hj]
theorem ok12_at {d:Md} (h:(ro11 d).2=0) (hf:ok12 d d.s.length=true) {k:Nat} (hk:k<d.s.length):fi12 (ce12 d k) (me10 d k)=true:=by
 obtain ⟨-,-,ho,hl,hb⟩:=or12 h;unfold ok12 at hf;rw [List.take_of_length_le (by omega),List.all_eq_true] at hf;exact hf k (all11 ho.nd ho.lt hl k hk)
theorem ok12_of {d:Md} (h:(ro11 d).2=0) (hf:∀k,k<d.s.length→fi12 (ce12 d k) (me10 d k)=true):ok12 d d.s.length=true:=by
 obtain ⟨-,-,ho,hl,hb⟩:=or12 h;unfold ok12;rw [List.all_eq_true];exact fun k hk=>hf k (ho.lt k (List.mem_of_mem_take hk))
theorem ok12_succ {d:Md} {i k:Nat} (hk:(oo12 d)[i]?=some k):ok12 d (i+1)=(ok12 d i&&fi12 (ce12 d k) (me10 d k)):=by
 unfold ok12;rw [List.take_add_one,hk,List.all_append];simp
theorem ok12_no {d:Md} {i n:Nat} (h:ok12 d i=false) (hn:i≤n):ok12 d n=false:=by
 unfold ok12 at h ⊢;rw [List.all_eq_false] at h ⊢;obtain ⟨x,hx,hf⟩:=h;refine ⟨x,?_,hf⟩;have:(oo12 d).take i=((oo12 d).take n).take i:=by rw [List.take_take,Nat.min_eq_left hn]
 rw [this] at hx;exact List.mem_of_mem_take hx
theorem co12_ok {d:Md} (h:(co12 d).2=0):(ro11 d).2=0∧er12 d d.s.length=0∧ok12 d d.s.length=true∧(co12 d).1=cs12 d:=by
 unfold co12 at h ⊢;by_cases h1:(ro11 d).2=0
 ·rw [if_pos h1] at h ⊢;by_cases h2:er12 d d.s.length=0
  ·rw [if_pos h2] at h ⊢;by_cases h3:ok12 d d.s.length=true
   ·rw [if_pos h3];exact ⟨h1,h2,h3,rfl⟩
   ·rw [if_neg h3] at h;cases h
  ·rw [if_neg h2] at h;exact absurd h h2
 ·rw [if_neg h1] at h;exact absurd h h1
theorem cs12_len (d:Md):(cs12 d).length=d.s.length:=by simp [cs12]
def st13 (L:List Ins):Bool:=L.any fun x=>x.1==5
def so13 (d:Md) (k:Nat):Bool:=st13 (co11 d k)
def hd13 (d:Md) (k:Nat):Mh:=(d.s[k]?.getD (Mh.zero,[])).1
def re13 (d:Md) (k:Nat):Bool:=(hd13 d k).q
def sd13 (d:Md):Bool:=(List.range d.s.length).all fun k=>!re13 d k||(!so13 d k&&(List.range d.s.length).all fun i=>!e11 d k i||re13 d i)
theorem sd13_iff {d:Md}:sd13 d=true↔∀k,k<d.s.length→re13 d k=true→so13 d k=false∧∀i,i<d.s.length→e11 d k i=true→re13 d i=true:=by
 unfold sd13;simp only [List.all_eq_true,List.mem_range,Bool.or_eq_true,Bool.not_eq_true',Bool.and_eq_true];constructor
 ·intro h k hk hr;rcases h k hk with h1 | ⟨h1,h2⟩
  ·rw [hr] at h1;cases h1
  ·refine ⟨h1,fun i hi he=>?_⟩;rcases h2 i hi with h3 | h3
   ·rw [he] at h3;cases h3
   ·exact h3
 ·intro h k hk;cases hr:re13 d k with
  | false=>exact .inl rfl
  | true =>
   obtain ⟨h1,h2⟩:=h k hk hr;refine .inr ⟨h1,fun i hi=>?_⟩;cases he:e11 d k i with
   | false=>exact .inl rfl
   | true=>exact .inr (h2 i hi he)
def ch13 (d:Md):Int:=if ba11 d=true then 2 else if sd13 d=true then 0 else 130
end Go.Proofs.YtnjgkkoiamiaaaaGreatDoor
