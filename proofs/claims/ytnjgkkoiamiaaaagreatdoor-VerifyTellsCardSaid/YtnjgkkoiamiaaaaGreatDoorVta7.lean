import Derived.Test.YtnjgkkoiamiaaaaGreatDoorVta1
import Derived.Test.YtnjgkkoiamiaaaaGreatDoorVta6
import Derived.Test.YtnjgkkoiamiaaaaGreatDoorVta3
import Derived.ArgAppend
import Derived.Test.YtnjgkkoiamiaaaaGreatDoorVta4
import Derived.Maps.OwnSet
import Derived.Maps.OwnOps
import Derived.RangeFuncBox
import Derived.BigQuiet
import Derived.WalkSmall
set_option maxRecDepth 100000
set_option maxHeartbeats 16000000
set_option linter.unusedSimpArgs false
set_option linter.unusedVariables false
namespace Go.Proofs.YtnjgkkoiamiaaaaGreatDoor
open Go.RowKit
theorem zhi (L:List Int):∀u∈ci9 L,u.oneCell'=true:=by
 intro u hu;simp only [ci9,List.mem_map] at hu;obtain ⟨x,-,rfl⟩:=hu;rfl
theorem zac (w:World) {ops:Array Oper} {rest:List Oper} {o:Oper} {a:Act} {Q:Exit→Act→World→Prop} (hgd:o.guard=none) (s x:Operand)
  (ho:o.op=.call { callee:=.builtin .append,args:=#[s,x],argTypes:=#[59,59]})
  (base:Nat) (v:Value) (n:Nat) (K:List Int) (hs:a.eval s=v) (hown:w.ownsRow base 3 1 v n (ci9 K))
  (A:Option Addr) (m c:Nat) (L:List Int) (hx:a.eval x=.slice A m c) (hr:Rn w A c L) (hm:m=L.length) (hbytes:n+m≤1000000) (hbase:base≤w.heap.size)
  (h:∀A' c' w',w'.ownsRow base 3 1 (.slice A' (n+m) c') (n+m) (ci9 (K++L))→Below base w w'→wpList Tryz.prog ops Q rest (a.put o.dst (.slice A' (n+m) c')) w'):wpList Tryz.prog ops Q (o::rest) a w:=by
 have hinfo:=Tryz.infoN;rw [Option.map_eq_some_iff] at hinfo;obtain ⟨i,hi,hz⟩:=hinfo;simp only [Prod.mk.injEq] at hz;obtain ⟨hz0,hz1,hz2⟩:=hz;have hbel:∀{w'},w.grownBy w' v.ownBlock→Below base w w':=fun hg=>(Below.refl _ _).grown hg hbase fun g hg'=>(hown.lt g hg').1;rcases hr.2.2 with ⟨rfl,rfl⟩ | ⟨ad,rfl,hcell⟩
 ·have h0:L=[]:=List.eq_nil_of_length_eq_zero (by have:=hr.1;omega);subst h0;obtain rfl:m=0:=hm;refine wpList_append_own_none hgd s x 59 ho base 3 i 1 Tryz.underlying59 hi v n (ci9 K) hs hown hx ?_;obtain ⟨A',c',rfl⟩:=qv hown;have:=h A' c' w (by simpa using hown) (hbel (World.grownBy.refl w _));simpa using this
 ·refine wpList_append_own_at w hgd s x 59 ho base 3 i _ 1 8 Tryz.underlying59 hi hz0 hz1 hz2 rfl (by decide) v n (ci9 K) hs hown ad m c (ci9 L) hx (by simp [ci9,hm])
   (fun j u hj=>by
    simp only [ci9,List.getElem?_map,Option.map_eq_some_iff] at hj;obtain ⟨y,hy,rfl⟩:=hj;exact hcell j y hy) (zhi L) (by unfold maxLen;omega) (by omega) hbase ?_
  intro v' w' hown' hg _ _;obtain ⟨A',c',rfl⟩:=qv hown';exact h A' c' w' (by rw [ci9,List.map_append];exact hown') (hbel hg)
structure Sp (lo hi:Nat) (w w':World):Prop where
 os:w'.os=w.os
 tape:w'.tape=w.tape
 output:w'.output=w.output
 size:w.heap.size≤w'.heap.size
 block:∀k,k<w.heap.size→(k<lo∨hi≤k)→w'.heap[k]?=w.heap[k]?
section
variable {lo hi : Nat} {w w1 w2 : World}
theorem Sp.refl (lo hi:Nat) (w:World):Sp lo hi w w:=⟨rfl,rfl,rfl,Nat.le_refl _,fun _ _ _=>rfl⟩
theorem Sp.trans (h:Sp lo hi w w1) (k:Sp lo hi w1 w2):Sp lo hi w w2:=
 ⟨k.os.trans h.os,k.tape.trans h.tape,k.output.trans h.output,Nat.le_trans h.size k.size,fun i hi hr=>(k.block i (Nat.lt_of_lt_of_le hi h.size) hr).trans (h.block i hi hr)⟩
theorem Sp.of_below (h:Below w.heap.size w w1):Sp lo hi w w1:=⟨h.os,h.tape,h.output,h.size,fun k hk _=>h.block k hk⟩
theorem Sp.call (h:Sp lo hi w w1) (k:Below w1.heap.size w1 w2):Sp lo hi w w2:=h.trans (Sp.of_below k)
theorem Sp.set (h:Sp lo hi w w1) {g:Nat} (h1:lo≤g) (h2:g<hi) (j:Nat) (v:Value):Sp lo hi w (w1.setCell ⟨g,j,none⟩ v):=
 h.trans ⟨rfl,rfl,rfl,by simp [World.setCell],fun k _ hr=>Below.heap_setCell _ _ _ _ (show k≠g by omega)⟩
theorem Sp.toBelow (h:Sp lo hi w w1) (hl:lo≤w.heap.size):Below lo w w1:=⟨h.os,h.tape,h.output,h.size,fun k hk=>h.block k (by omega) (.inl hk)⟩
end
def Owz (w:World) (lo hi:Nat) (z:Me):Prop:=Rs w lo hi 5 1 z.x.A z.m.a.length∧Rs w lo hi 5 1 z.x.B z.m.l.length∧Rs w lo hi 57 3 z.x.D z.x.k
def Ow (w:World) (lo hi:Nat) (y:Ma) (d:Md):Prop:=
 Rs w lo hi 139 3 y.G d.g.length∧Rs w lo hi 139 3 y.P d.p.length∧Rs w lo hi 50 8 y.A d.s.length∧∀z∈y.Z,Owz w lo hi z
section
variable {w w' : World} {lo hi lo2 hi2 : Nat} {y : Ma} {d : Md} {z : Me}
theorem zbh (a:Addr) (i:Nat):(a.add i).block=a.block:=by unfold Addr.add;split<;>rfl
theorem Sp.at_ {p:Addr} (h:Sp lo hi w w') (h1:p.block<w.heap.size) (h2:p.block<lo∨hi≤p.block):w'.cell? p=w.cell? p:=World.cell?_of_block (w:=w) (h.block p.block h1 h2)
end
structure zv (X:Nat→Prop) (w w':World):Prop where
 os:w'.os=w.os
 tape:w'.tape=w.tape
 output:w'.output=w.output
 size:w.heap.size≤w'.heap.size
 block:∀j,j<w.heap.size→¬X j→w'.heap[j]?=w.heap[j]?
section
variable {X Y : Nat → Prop} {w w' w2 : World}
theorem zv.refl (X:Nat→Prop) (w:World):zv X w w:=⟨rfl,rfl,rfl,Nat.le_refl _,fun _ _ _=>rfl⟩
theorem zv.trans (h:zv X w w') (k:zv Y w' w2) (hY:∀j,j<w.heap.size→Y j→X j):zv X w w2:=
 ⟨k.os.trans h.os,k.tape.trans h.tape,k.output.trans h.output,Nat.le_trans h.size k.size,fun j hj hx=>(k.block j (Nat.lt_of_lt_of_le hj h.size) fun hy=>hx (hY j hj hy)).trans (h.block j hj hx)⟩
theorem zv.mono (h:zv X w w') (hX:∀j,X j→Y j):zv Y w w':=⟨h.os,h.tape,h.output,h.size,fun j hj hy=>h.block j hj fun hx=>hy (hX j hx)⟩
theorem zv.drewN (h:zv X w w') (q:Nat):zv X w (w'.drewN q):=by
 refine ⟨?_,?_,?_,?_,fun j hj hx=>?_⟩<;>induction q with
 | zero=>first | exact h.os | exact h.tape | exact h.output | exact h.size | exact h.block j hj hx
 | succ q ih=>exact ih
theorem zv.alloc (h:zv X w w') (o:Obj):zv X w (w'.alloc o):=by
 refine ⟨h.os,h.tape,h.output,?_,fun j hj hx=>?_⟩
 ·rw [qn];exact Nat.le_succ_of_le h.size
 ·exact (Below.heap_alloc w' o j (Nat.lt_of_lt_of_le hj h.size)).trans (h.block j hj hx)
theorem zv.set (h:zv X w w') {p:Addr} (hp:w.heap.size≤p.block∨X p.block) (u:Value):zv X w (w'.setCell p u):=by
 refine ⟨h.os,h.tape,h.output,?_,fun j hj hx=>?_⟩
 ·simpa using h.size
 ·exact (Below.heap_setCell w' p u j (fun e=>by subst e;rcases hp with hp | hp;omega;exact hx hp)).trans (h.block j hj hx)
theorem zv.of_below {B:Nat} (h:Below B w w') (hB:∀j,B≤j→j<w.heap.size→X j):zv X w w':=⟨h.os,h.tape,h.output,h.size,fun j hj hx=>h.block j (by
 by_cases e:B≤j
 ·exact absurd (hB j e hj) hx
 ·omega)⟩
theorem zv.of_grown {row:Option Nat} (h:w.grownBy w' row) (hX:∀j,some j=row→X j):zv X w w':=⟨h.os,h.tape,h.output,h.size,fun j hj hx=>h.block j hj fun e=>hx (hX j e)⟩
theorem zv.below (h:zv X w w') {B:Nat} (hB:∀j,j<B→j<w.heap.size∧¬X j):Below B w w':=⟨h.os,h.tape,h.output,h.size,fun j hj=>h.block j (hB j hj).1 (hB j hj).2⟩
theorem zv.own (h:zv X w w') {base e size n:Nat} {v:Value} {xs:List Value} (ho:w.ownsRow base e size v n xs) (hv:∀g,v.ownBlock=some g→¬X g):w'.ownsRow base e size v n xs:=by
 obtain ⟨h1,h2⟩:=ho;refine ⟨h1,?_⟩;rcases h2 with h2 | ⟨g,cap,cur,rfl,hg,hh,r⟩
 ·exact .inl h2
 ·exact .inr ⟨g,cap,cur,rfl,hg,(h.block g (zg9.1 hh).1 (hv g rfl)).trans hh,r⟩
theorem zv.box (h:zv X w w') {B t:Nat} {v:Value} (hb:Boxed w B t v) (hx:¬X B):Boxed w' B t v:=(h.block B hb.lt hx).trans hb
theorem zv.map {H:Type} (h:zv X w w') {P:Program} {k:TypeId} {R:Value→Option (DataW H×List MemPlace)} {b n:Nat} {D:DataW H} (ho:w.ownsMap P k R b n D) (hx:¬X b):w'.ownsMap P k R b n D:=by
 obtain ⟨es,clock,hh,r⟩:=ho;exact ⟨es,clock,(h.block b (zg9.1 hh).1 hx).trans hh,r⟩
theorem zv.rn (h:zv X w w') {A:Option Addr} {c:Nat} {l:List Int} (hr:Rn w A c l) (hx:∀ad,A=some ad→0<l.length→¬X ad.block):Rn w' A c l:=by
 refine ⟨hr.1,hr.2.1,?_⟩;rcases hr.2.2 with hn | ⟨ad,ha,hc⟩
 ·exact .inl hn
 ·refine .inr ⟨ad,ha,fun i x hi=>?_⟩;have h0:0<l.length:=by have:=(zg8.1 hi).1;omega
  have h1:=hc i x hi;have h2:=qi h1;rw [zbh] at h2;refine (World.cell?_of_block ?_).trans h1;rw [zbh];exact h.block _ h2 (hx ad ha h0)
end
def g11 (l:List Int) (i:Nat):Int:=l[i]?.getD 0
def zcs (l:List Int) (i j:Nat):List Int:=(l.set i (g11 l j)).set j (g11 l i)
def zgs (l:List Int) (n:Nat):Prop:=∀i,0<i→i<n→g11 l ((i-1) / 2)≤g11 l i
section
variable {l : List Int} {i j n : Nat}
theorem zbn (h:i<l.length):l[i]?=some (g11 l i):=by rw [g11,zg7 h];rfl
theorem je:(zcs l i j).length=l.length:=by simp [zcs]
theorem zfh (hi:i<l.length) (hj:j<l.length) (k:Nat):g11 (zcs l i j) k=if k=j then g11 l i else if k=i then g11 l j else g11 l k:=by
 unfold zcs;by_cases h1:k=j
 ·subst h1;rw [if_pos rfl,g11,List.getElem?_set_self (by simpa using hj)];rfl
 ·rw [if_neg h1,g11,List.getElem?_set_ne (fun e=>h1 e.symm)];by_cases h2:k=i
  ·subst h2;rw [if_pos rfl,List.getElem?_set_self hi];rfl
  ·rw [if_neg h2,List.getElem?_set_ne (fun e=>h2 e.symm)];rfl
theorem zbv (hi:i<l.length) (hj:j<l.length):(zcs l i j).Perm l:=by
 have:=List.set_set_perm hi hj;have e1:g11 l i=l[i]:=by rw [g11,zg7 hi];rfl
 have e2:g11 l j=l[j]:=by rw [g11,zg7 hj];rfl
 rw [zcs,e1,e2];exact this
def zoi (l:List Int) (n j:Nat):Prop:=j<n∧(∀i,0<i→i<n→i≠j→g11 l ((i-1) / 2)≤g11 l i)∧∀i,0<i→i<n→(i-1) / 2=j→0<j→g11 l ((j-1) / 2)≤g11 l i
theorem zoi.done (h:zoi l n j) (hj:j=0∨¬g11 l j<g11 l ((j-1) / 2)):zgs l n:=by
 intro i h0 hi;by_cases e:i=j
 ·subst e;rcases hj with hj | hj
  ·omega
  ·omega
 ·exact h.2.1 i h0 hi e
theorem zoi.step (h:zoi l n j) (hl:n=l.length) (hj:0<j) (hlt:g11 l j<g11 l ((j-1) / 2)):zoi (zcs l ((j-1) / 2) j) n ((j-1) / 2):=by
 obtain ⟨h1,h2,h3⟩:=h;have hp:(j-1) / 2<j:=by omega
 have G:=zfh (l:=l) (i:=(j-1) / 2) (j:=j) (by omega) (by omega);refine ⟨by omega,fun i h0 hi hne=>?_,fun i h0 hi hpi hp0=>?_⟩
 ·rw [G,G];have a1:=h2 i h0 hi;have a2:=h3 i h0 hi;by_cases e1:i=j
  ·subst e1;rw [if_neg (by omega),if_pos rfl,if_pos rfl];omega
  ·by_cases e2:(i-1) / 2=j
   ·rw [if_pos e2,if_neg e1,if_neg hne];exact a2 e2 hj
   ·by_cases e3:(i-1) / 2=(j-1) / 2
    ·rw [if_neg e2,if_pos e3,if_neg e1,if_neg hne];have:=a1 e1;rw [e3] at this;omega
    ·rw [if_neg e2,if_neg e3,if_neg e1,if_neg hne];exact a1 e1
 ·rw [G,G];have a1:=h2 i h0 hi;have a3:=h2 ((j-1) / 2) hp0 (by omega) (by omega);rw [if_neg (by omega),if_neg (by omega)];by_cases e1:i=j
  ·rw [if_pos e1];exact a3
  ·rw [if_neg e1,if_neg (by omega)];have:=a1 e1;rw [hpi] at this;omega
theorem zoi.start {x:Int} (h:zgs l l.length):zoi (l++[x]) (l.length+1) l.length:=by
 have G:∀i,i<l.length→g11 (l++[x]) i=g11 l i:=fun i hi=>by rw [g11,List.getElem?_append_left hi];rfl
 refine ⟨by omega,fun i h0 hi hne=>?_,fun i h0 hi hp hj=>by omega⟩;rw [G i (by omega),G _ (by omega)];exact h i h0 (by omega)
def zke (l:List Int) (n i:Nat):Prop:=(∀k,0<k→k<n→(k-1) / 2≠i→g11 l ((k-1) / 2)≤g11 l k)∧∀k,0<k→k<n→(k-1) / 2=i→0<i→g11 l ((i-1) / 2)≤g11 l k
def qao (l:List Int) (n i j:Nat):Prop:=j<n∧(j-1) / 2=i∧0<j∧∀k,0<k→k<n→(k-1) / 2=i→g11 l j≤g11 l k
theorem zke.none (h:zke l n i) (hi:n≤2*i+1):zgs l n:=fun k h0 hk=>h.1 k h0 hk (by omega)
theorem zke.done (h:zke l n i) (hc:qao l n i j) (hj:¬g11 l j<g11 l i):zgs l n:=by
 intro k h0 hk;by_cases e:(k-1) / 2=i
 ·have:=hc.2.2.2 k h0 hk e;rw [e];omega
 ·exact h.1 k h0 hk e
theorem zke.step (h:zke l n i) (hc:qao l n i j) (hn:n≤l.length) (hj:g11 l j<g11 l i):zke (zcs l i j) n j:=by
 obtain ⟨h1,h2⟩:=h;obtain ⟨c1,c2,c3,c4⟩:=hc;have hij:i<j:=by omega
 have G:=zfh (l:=l) (i:=i) (j:=j) (by omega) (by omega);refine ⟨fun k h0 hk hne=>?_,fun k h0 hk hpk hj0=>?_⟩
 ·rw [G,G,if_neg hne];by_cases e1:(k-1) / 2=i
  ·rw [if_pos e1];by_cases e2:k=j
   ·rw [if_pos e2];omega
   ·rw [if_neg e2,if_neg (by omega)];exact c4 k h0 hk e1
  ·rw [if_neg e1,if_neg (by intro e;subst e;exact e1 c2)];by_cases e3:k=i
   ·subst e3;rw [if_pos rfl];exact h2 j c3 c1 c2 h0
   ·rw [if_neg e3];exact h1 k h0 hk e1
 ·rw [G,G,c2,if_neg (by omega),if_pos rfl,if_neg (by omega),if_neg (by omega)];have:=h1 k h0 hk (by omega);rw [hpk] at this;exact this
theorem zgs.least (h:zgs l n):∀k,k<n→g11 l 0≤g11 l k:=by
 intro k;induction k using Nat.strongRecOn with
 | _ k ih =>
  intro hk;by_cases h0:k=0
  ·subst h0;omega
  ·have a:=h k (by omega) hk;have b:=ih ((k-1) / 2) (by omega) (by omega);omega
theorem zke.start (h:zgs l l.length) (hl:l.length=n+1):zke (zcs l 0 n) n 0:=by
 have G:=zfh (l:=l) (i:=0) (j:=n) (by omega) (by omega);refine ⟨fun k h0 hk hne=>?_,fun k h0 hk hp hj=>by omega⟩;rw [G,G,if_neg (by omega),if_neg hne,if_neg (by omega),if_neg (by omega)];exact h k h0 (by omega)
end
structure zc2 (w:World) (N B:Nat) (A:Option Addr) (c:Nat) (l:List Int):Prop where
 box:Boxed w B 240 (.slice A l.length c)
 own:w.ownsRow N 3 1 (.slice A l.length c) l.length (ci9 l)
theorem zc2.drewN {w:World} {N B c:Nat} {A:Option Addr} {l:List Int} (h:zc2 w N B A c l) (q:Nat):zc2 (w.drewN q) N B A c l:=⟨(zv.refl (fun _=>False) w |>.drewN q).box h.box id,(zv.refl (fun _=>False) w |>.drewN q).own h.own fun _ _=>id⟩
def zie (A:Option Addr) (j:Nat):Prop:=∃ad,A=some ad∧j=ad.block
theorem zfp (A:Option Addr) (n c:Nat) (w:World):Calls Tryz.prog 163 #[.slice A n c] w fun e w'=>e=.returned (.int .i64 n)∧w=w':=by
 go_enter Tryz.func163,Tryz.ntmps163;go_wp2_with fail;go_ret;exact ⟨rfl,rfl⟩
theorem zc5 (A:Option Addr) (c n i j:Nat) (l:List Int) (w:World) (hr:Rn w A c l) (hn:l.length=n) (hi:i<n) (hj:j<n):Calls Tryz.prog 274 #[.slice A n c,.int .i64 i,.int .i64 j] w fun e w'=>e=.returned (.bool (decide (g11 l i<g11 l j)))∧∃q,w'=w.drewN q:=by
 obtain ⟨ad,hA,y0⟩:=hr.at_ (zbn (l:=l) (i:=i) (by omega));obtain ⟨ad',hA',y1⟩:=hr.at_ (zbn (l:=l) (i:=j) (by omega));subst hA;injection hA' with hA';subst hA';have hm9:n≤9223372036854775807:=by have:=hr.2.1;have:=hr.1;unfold maxLen at *;omega
 generalize g11 l i=x at y0 ⊢;generalize g11 l j=y at y1 ⊢;clear hr hn;go_enter Tryz.func274,Tryz.ntmps274;go_wp2_with fail;go_quiet (fail);go_wp2_with fail;go_ret;exact ⟨rfl,_,rfl⟩
theorem zgd (k B : Nat) (A : Option Addr) (n c : Nat) (w : World) (h : w.cell? ⟨B, 0, none⟩ = some (.slice A n c)) : (method (k + 1) 237 (.pointer (some ⟨B, 0, none⟩)) "Len").run Tryz.prog w = .ok (163, .slice A n c) w := by
  have hf : (Array.find? (fun x => x.name == "Len") Tryz.t237.methods) = some { name := "Len", sig := 243, path := #[{ struct := 240, index := 0, deref := true }], func := some (163, false) } := by kernel_rfl
  simp [method, follow, receiverAt, hf, Place.get, go_sem, h]
theorem zaw (k B : Nat) (A : Option Addr) (n c : Nat) (w : World) (h : w.cell? ⟨B, 0, none⟩ = some (.slice A n c)) : (method (k + 1) 237 (.pointer (some ⟨B, 0, none⟩)) "Less").run Tryz.prog w = .ok (274, .slice A n c) w := by
  have hf : (Array.find? (fun x => x.name == "Less") Tryz.t237.methods) = some { name := "Less", sig := 108, path := #[{ struct := 240, index := 0, deref := true }], func := some (274, false) } := by kernel_rfl
  simp [method, follow, receiverAt, hf, Place.get, go_sem, h]
theorem zae (k B : Nat) (A : Option Addr) (n c : Nat) (w : World) (h : w.cell? ⟨B, 0, none⟩ = some (.slice A n c)) : (method (k + 1) 237 (.pointer (some ⟨B, 0, none⟩)) "Swap").run Tryz.prog w = .ok (278, .slice A n c) w := by
  have hf : (Array.find? (fun x => x.name == "Swap") Tryz.t237.methods) = some { name := "Swap", sig := 294, path := #[{ struct := 240, index := 0, deref := true }], func := some (278, false) } := by kernel_rfl
  simp [method, follow, receiverAt, hf, Place.get, go_sem, h]
theorem zlc (k B : Nat) (w : World) : (method (k + 1) 237 (.pointer (some ⟨B, 0, none⟩)) "Push").run Tryz.prog w = .ok (276, .pointer (some ⟨B, 0, none⟩)) w := by
  have hf : (Array.find? (fun x => x.name == "Push") Tryz.t237.methods) = some { name := "Push", sig := 292, path := #[], func := some (276, true) } := by kernel_rfl
  simp [method, follow, receiverAt, hf, Place.get, go_sem]
theorem znh (k B : Nat) (w : World) : (method (k + 1) 237 (.pointer (some ⟨B, 0, none⟩)) "Pop").run Tryz.prog w = .ok (275, .pointer (some ⟨B, 0, none⟩)) w := by
  have hf : (Array.find? (fun x => x.name == "Pop") Tryz.t237.methods) = some { name := "Pop", sig := 296, path := #[], func := some (275, true) } := by kernel_rfl
  simp [method, follow, receiverAt, hf, Place.get, go_sem]
theorem zda (N g c n i j:Nat) (l:List Int) (w:World) (ho:w.ownsRow N 3 1 (.slice (some ⟨g,0,none⟩) n c) n (ci9 l)) (hi:i<n) (hj:j<n):Calls Tryz.prog 278 #[.slice (some ⟨g,0,none⟩) n c,.int .i64 i,.int .i64 j] w fun e w'=>e=.returned (.tuple #[])∧w'.ownsRow N 3 1 (.slice (some ⟨g,0,none⟩) n c) n (ci9 (zcs l i j))∧zv (fun k=>k=g) w w':=by
 have hn:n=l.length:=(Rn.of_own ho).2;have hr:=(Rn.of_own ho).1;have hm9:n≤9223372036854775807:=by have:=hr.2.1;have:=hr.1;unfold maxLen at *;omega
 have y0:=(ho.cellAt i (by omega)).trans (show (ci9 l)[i]?=some (.int .i64 (g11 l i)) by simp [ci9,zbn (l:=l) (i:=i) (by omega)]);have y1:=(ho.cellAt j (by omega)).trans (show (ci9 l)[j]?=some (.int .i64 (g11 l j)) by simp [ci9,zbn (l:=l) (i:=j) (by omega)]);have f0:=ho.frozenAt i;have f1:=ho.frozenAt j
 obtain ⟨z,y2⟩:∃z,(w.setCell ⟨g,i,none⟩ (.int .i64 (g11 l j))).cell? ⟨g,j,none⟩=some z:=by
  have h:=((ho.stored i (.int .i64 (g11 l j))).1.cellAt j (by omega));exact ⟨_,h.trans (zg7 (by rw [List.length_set,ci9,List.length_map];omega))⟩
 have HO:=zhy ho
 have HS:Hid (((w.setCell ⟨g,i,none⟩ (.int .i64 (g11 l j))).setCell ⟨g,j,none⟩ (.int .i64 (g11 l i))).ownsRow N 3 1 (.slice (some ⟨g,0,none⟩) n c) n (ci9 (zcs l i j))):=by
  have:=((ho.stored i (.int .i64 (g11 l j))).1.stored j (.int .i64 (g11 l i))).1;simpa [Hid,zcs,ci9,List.map_set] using this
 have HF:Hid (zv (fun k=>k=g) w ((w.setCell ⟨g,i,none⟩ (.int .i64 (g11 l j))).setCell ⟨g,j,none⟩ (.int .i64 (g11 l i)))):=zhy (((zv.refl (fun k=>k=g) w).set (p:=⟨g,i,none⟩) (.inr rfl) _).set (p:=⟨g,j,none⟩) (.inr rfl) _);generalize g11 l i=x at y0 HS HF;generalize g11 l j=y at y1 y2 HS HF;clear hr hn ho;go_enter Tryz.func278,Tryz.ntmps278;go_wp2_with fail;go_region;go_wp2_with fail;go_end0;exact ⟨rfl,HS.o.drew,HF.o.drewN 1⟩
theorem qau (N B g c n j:Nat) (l:List Int) (w:World) (h:zc2 w N B (some ⟨g,0,none⟩) c l) (hn:l.length=n) (hm9:n≤1000000) (hu:zoi l n j):Calls Tryz.prog 201 #[.iface 237 (.pointer (some ⟨B,0,none⟩)),.int .i64 j] w fun e w'=>e=.returned (.tuple #[])∧∃l',zc2 w' N B (some ⟨g,0,none⟩) c l'∧l'.Perm l∧zgs l' n∧zv (fun k=>k=g) w w':=by
 have H0:=zhy h;have HN:=zhy hn;have HU:=zhy hu;clear h hn hu;go_enter Tryz.func201,Tryz.ntmps201;go_wp2_with fail;go_loopw [1] (fun jv wr=>∃(j:Nat) (l':List Int),jv=.int .i64 j∧j<n∧Hid (zc2 wr N B (some ⟨g,0,none⟩) c l')∧Hid (l'.Perm l)∧Hid (zoi l' n j)∧Hid (zv (fun k=>k=g) w wr)) (fun jv _=>(intOf jv).toNat)
 case atStart=>exact ⟨j,l,rfl,HU.o.1,H0,zhy (List.Perm.refl _),HU,zhy (zv.refl _ _)⟩
 case round =>
  clear HU H0;obtain ⟨j,l',rfl,hj,HB,HP,HU,HF⟩:=hrel;have HL:Hid (l'.length=n):=zhy (HP.o.length_eq.trans HN.o);by_cases h0:j=0
  ·subst h0;go_wp2_with fail;go_end0;exact ⟨rfl,l',HB.o,HP.o,HU.o.done (.inl rfl),HF.o⟩
  ·have hml:=fun k=>zaw k B _ _ _ wr HB.o.box.cell;have hms:=fun k=>zae k B _ _ _ wr HB.o.box.cell;rw [HL.o] at hml hms;obtain ⟨p,hp⟩:∃p,(j-1) / 2=p:=⟨_,rfl⟩;have HPP:=zhy hp;have ep:((j:Int)-1) / 2=(p:Int):=by omega
   have hpj:p<j:=by omega
   have eq:((p:Int)==(j:Int))=false:=by simp;omega
   have HO:=zhy HB.o.own;rw [HL.o] at HO;have HLE:=zhy (zc5 (some ⟨g,0,none⟩) c n j p l' wr (Rn.of_own HO.o).1 HL.o hj (by omega));clear hp;go_wp2_with fail;refine HLE.o.mono ?_;rintro r w2 ⟨rfl,q,rfl⟩;by_cases hlt:g11 l' j<g11 l' p
   ·have hd:decide (g11 l' j<g11 l' p)=true:=by simpa using hlt
    have HSW:=zhy (zda N g c n p j l' (wr.drewN q) ((zv.refl (fun _=>False) wr |>.drewN q).own HO.o fun _ _=>id) (by omega) hj);have HU2:Hid (zoi (zcs l' p j) n p):=zhy (by have:=HU.o.step HL.o.symm (by omega) (by rw [HPP.o];exact hlt);rwa [HPP.o] at this);have HP2:Hid ((zcs l' p j).Perm l):=zhy ((zbv (by rw [HL.o];omega) (by rw [HL.o];exact hj)).trans HP.o);have HL2:Hid ((zcs l' p j).length=n):=zhy (je.trans HL.o);have hms2:=fun k=>zae k B _ _ _ (wr.drewN q) (HB.o.drewN q).box.cell;rw [HL.o] at hms2;clear HLE hlt hms hml;go_wp2_with fail;refine HSW.o.mono ?_;rintro r w3 ⟨rfl,ho,hf⟩;have HB3:Hid (zc2 w3 N B (some ⟨g,0,none⟩) c (zcs l' p j)):=zhy ⟨by rw [je];exact hf.box (HB.o.drewN q).box (fun e=>Boxed.not_row HB.o.box (by decide) HB.o.own (by rw [e];rfl)),by rw [je,HL.o];exact ho⟩;have HF3:Hid (zv (fun k=>k=g) w w3):=zhy ((HF.o.drewN q).trans hf fun _ _ h=>h);clear ho hf HSW hms2;go_wp2_with fail;go_roundw
    case rel=>exact ⟨p,_,rfl,by omega,HB3,HP2,HU2,HF3⟩
    case measure=>simp [intOf];omega
   ·have hd:decide (g11 l' j<g11 l' p)=false:=by simpa using hlt
    have HD:=zhy (HU.o.done (.inr (by rw [HPP.o];exact hlt)));clear HLE hlt;go_wp2_with fail;go_end0;exact ⟨rfl,l',HB.o.drewN q,HP.o,HD.o,HF.o.drewN q⟩
theorem ztz (N B g c n m:Nat) (l:List Int) (w:World) (h:zc2 w N B (some ⟨g,0,none⟩) c l) (hm:l.length=m) (hnm:n<m) (hm9:m≤1000000) (hu:zke l n 0):Calls Tryz.prog 202 #[.iface 237 (.pointer (some ⟨B,0,none⟩)),.int .i64 0,.int .i64 n] w fun e w'=>∃b,e=.returned (.bool b)∧∃l',zc2 w' N B (some ⟨g,0,none⟩) c l'∧l'.Perm l∧zgs l' n∧(∀k,n≤k→g11 l' k=g11 l k)∧zv (fun k=>k=g) w w':=by
 have H0:=zhy h;have HN:=zhy hm;have HU:=zhy hu;clear h hm hu;go_enter Tryz.func202,Tryz.ntmps202;go_wp2_with fail;go_loopw [7] (fun jv wr=>∃(i:Nat) (l':List Int),jv=.int .i64 i∧i≤n∧Hid (zc2 wr N B (some ⟨g,0,none⟩) c l')∧Hid (l'.Perm l)∧Hid (zke l' n i)∧Hid (∀k,n≤k→g11 l' k=g11 l k)∧Hid (zv (fun k=>k=g) w wr)) (fun jv _=>n-(intOf jv).toNat)
 case atStart=>exact ⟨0,l,rfl,by omega,H0,zhy (List.Perm.refl _),HU,zhy (fun _ _=>rfl),zhy (zv.refl _ _)⟩
 case round =>
  clear HU H0;obtain ⟨i,l',rfl,hi,HB,HP,HU,HE,HF⟩:=hrel;have HL:Hid (l'.length=m):=zhy (HP.o.length_eq.trans HN.o);obtain ⟨x,hx⟩:∃x,2*i+1=x:=⟨_,rfl⟩;have ex:((2:Int)*(i:Int)+1)=(x:Int):=by omega
  have ex2:((i:Int)*2+1)=(x:Int):=by omega
  by_cases h0:n≤x
  ·have HD:=zhy (HU.o.none (by omega));clear hx;go_wp2_with fail;go_ret;exact ⟨_,rfl,l',HB.o,HP.o,HD.o,HE.o,HF.o⟩
  ·have hil:i<x:=by omega
   have HXX:=zhy hx;clear hx;by_cases h1:x+1<n
   ·have hml:=fun k=>zaw k B _ _ _ wr HB.o.box.cell;rw [HL.o] at hml;have HO:=zhy HB.o.own;rw [HL.o] at HO;have HLE:=zhy (zc5 (some ⟨g,0,none⟩) c m (x+1) x l' wr (Rn.of_own HO.o).1 HL.o (by omega) (by omega));go_wp2_with fail;refine HLE.o.mono ?_;rintro r w1 ⟨rfl,q1,hq1⟩;have HB1:Hid (zc2 w1 N B (some ⟨g,0,none⟩) c l'):=zhy (hq1▸HB.o.drewN q1);have HF1:Hid (zv (fun k=>k=g) w w1):=zhy (hq1▸HF.o.drewN q1);clear hq1 HO;by_cases hlt:g11 l' (x+1)<g11 l' x
    ·have hd:decide (g11 l' (x+1)<g11 l' x)=true:=by simpa using hlt
     obtain ⟨j,hj⟩:∃j,x+1=j:=⟨_,rfl⟩;have ejj:((x:Int)+1)=(j:Int):=by omega
     have hjn:j<n:=by omega
     have hij:i<j:=by omega
     have HC:Hid (qao l' n i j):=zhy ⟨by omega,by have:=HXX.o;omega,by omega,fun k k0 kn kp=>by
      have:=HXX.o;by_cases e:k=j
      ·rw [e];exact Int.le_refl _
      ·obtain rfl:k=x:=by omega
       rw [←hj];omega⟩
     clear HLE hml hj hlt;have hml2:=fun k=>zaw k B _ _ _ w1 HB1.o.box.cell;rw [HL.o] at hml2;have HO2:=zhy HB1.o.own;rw [HL.o] at HO2;have HLE2:=zhy (zc5 (some ⟨g,0,none⟩) c m j i l' w1 (Rn.of_own HO2.o).1 HL.o (by omega) (by omega));have hms:=fun k q=>zae k B _ _ _ (w1.drewN q) (HB1.o.drewN q).box.cell;rw [HL.o] at hms;go_wp2_with fail;refine HLE2.o.mono ?_;rintro r w2 ⟨rfl,q2,rfl⟩;by_cases hlt:g11 l' j<g11 l' i
     ·have hd:decide (g11 l' j<g11 l' i)=true:=by simpa using hlt
      have HSW:=zhy (zda N g c m i j l' (w1.drewN q2) ((zv.refl (fun _=>False) w1 |>.drewN q2).own HO2.o fun _ _=>id) (by omega) (by omega));have HU2:Hid (zke (zcs l' i j) n j):=zhy (HU.o.step HC.o (by rw [HL.o];omega) hlt);have HP2:Hid ((zcs l' i j).Perm l):=zhy ((zbv (by rw [HL.o];omega) (by rw [HL.o];omega)).trans HP.o);have HE2:Hid (∀k,n≤k→g11 (zcs l' i j) k=g11 l k):=zhy fun k hk=>by rw [zfh (by rw [HL.o];omega) (by rw [HL.o];omega),if_neg (by omega),if_neg (by omega)];exact HE.o k hk
      clear HLE2 hlt hml2;go_wp2_with fail;refine HSW.o.mono ?_;rintro r w3 ⟨rfl,ho,hf⟩;have HB3:Hid (zc2 w3 N B (some ⟨g,0,none⟩) c (zcs l' i j)):=zhy ⟨by rw [je];exact hf.box (HB1.o.drewN q2).box (fun e=>Boxed.not_row HB.o.box (by decide) HB.o.own (by rw [e];rfl)),by rw [je,HL.o];exact ho⟩;have HF3:Hid (zv (fun k=>k=g) w w3):=zhy ((HF1.o.drewN q2).trans hf fun _ _ h=>h);clear ho hf HSW hms;go_wp2_with fail;go_roundw
      case rel=>exact ⟨j,_,rfl,by omega,HB3,HP2,HU2,HE2,HF3⟩
      case measure=>simp [intOf];omega
     ·have hd:decide (g11 l' j<g11 l' i)=false:=by simpa using hlt
      have HD:=zhy (HU.o.done HC.o hlt);clear HLE2 hlt hms hml2;go_wp2_with fail;go_ret;exact ⟨_,rfl,l',HB1.o.drewN q2,HP.o,HD.o,HE.o,HF1.o.drewN q2⟩
    ·have hd:decide (g11 l' (x+1)<g11 l' x)=false:=by simpa using hlt
     obtain ⟨j,hj⟩:∃j,x=j:=⟨_,rfl⟩
     have HC:Hid (qao l' n i x):=zhy ⟨by omega,by have:=HXX.o;omega,by omega,fun k k0 kn kp=>by
      have:=HXX.o;by_cases e:k=x
      ·rw [e];exact Int.le_refl _
      ·obtain rfl:k=x+1:=by omega
       omega⟩
     subst hj;have hij:i<x:=hil;clear HLE hml hlt;have hml2:=fun k=>zaw k B _ _ _ w1 HB1.o.box.cell;rw [HL.o] at hml2;have HO2:=zhy HB1.o.own;rw [HL.o] at HO2;have HLE2:=zhy (zc5 (some ⟨g,0,none⟩) c m x i l' w1 (Rn.of_own HO2.o).1 HL.o (by omega) (by omega));have hms:=fun k q=>zae k B _ _ _ (w1.drewN q) (HB1.o.drewN q).box.cell;rw [HL.o] at hms;go_wp2_with fail;refine HLE2.o.mono ?_;rintro r w2 ⟨rfl,q2,rfl⟩;by_cases hlt:g11 l' x<g11 l' i
     ·have hd:decide (g11 l' x<g11 l' i)=true:=by simpa using hlt
      have HSW:=zhy (zda N g c m i x l' (w1.drewN q2) ((zv.refl (fun _=>False) w1 |>.drewN q2).own HO2.o fun _ _=>id) (by omega) (by omega));have HU2:Hid (zke (zcs l' i x) n x):=zhy (HU.o.step HC.o (by rw [HL.o];omega) hlt);have HP2:Hid ((zcs l' i x).Perm l):=zhy ((zbv (by rw [HL.o];omega) (by rw [HL.o];omega)).trans HP.o);have HE2:Hid (∀k,n≤k→g11 (zcs l' i x) k=g11 l k):=zhy fun k hk=>by rw [zfh (by rw [HL.o];omega) (by rw [HL.o];omega),if_neg (by omega),if_neg (by omega)];exact HE.o k hk
      clear HLE2 hlt hml2;go_wp2_with fail;refine HSW.o.mono ?_;rintro r w3 ⟨rfl,ho,hf⟩;have HB3:Hid (zc2 w3 N B (some ⟨g,0,none⟩) c (zcs l' i x)):=zhy ⟨by rw [je];exact hf.box (HB1.o.drewN q2).box (fun e=>Boxed.not_row HB.o.box (by decide) HB.o.own (by rw [e];rfl)),by rw [je,HL.o];exact ho⟩;have HF3:Hid (zv (fun k=>k=g) w w3):=zhy ((HF1.o.drewN q2).trans hf fun _ _ h=>h);clear ho hf HSW hms;go_wp2_with fail;go_roundw
      case rel=>exact ⟨x,_,rfl,by omega,HB3,HP2,HU2,HE2,HF3⟩
      case measure=>simp [intOf];omega
     ·have hd:decide (g11 l' x<g11 l' i)=false:=by simpa using hlt
      have HD:=zhy (HU.o.done HC.o hlt);clear HLE2 hlt hms hml2;go_wp2_with fail;go_ret;exact ⟨_,rfl,l',HB1.o.drewN q2,HP.o,HD.o,HE.o,HF1.o.drewN q2⟩
   ·have HC:Hid (qao l' n i x):=zhy ⟨by omega,by have:=HXX.o;omega,by omega,fun k k0 kn kp=>by
     have:=HXX.o;obtain rfl:k=x:=by omega
     exact Int.le_refl _⟩
    have hij:i<x:=hil;have hml2:=fun k=>zaw k B _ _ _ (wr) (HB.o).box.cell;rw [HL.o] at hml2;have HO2:=zhy (HB.o).own;rw [HL.o] at HO2;have HLE2:=zhy (zc5 (some ⟨g,0,none⟩) c m x i l' (wr) (Rn.of_own HO2.o).1 HL.o (by omega) (by omega));have hms:=fun k q=>zae k B _ _ _ ((wr).drewN q) ((HB.o).drewN q).box.cell;rw [HL.o] at hms;go_wp2_with fail;refine HLE2.o.mono ?_;rintro r w2 ⟨rfl,q2,rfl⟩;by_cases hlt:g11 l' x<g11 l' i
    ·have hd:decide (g11 l' x<g11 l' i)=true:=by simpa using hlt
     have HSW:=zhy (zda N g c m i x l' ((wr).drewN q2) ((zv.refl (fun _=>False) (wr) |>.drewN q2).own HO2.o fun _ _=>id) (by omega) (by omega));have HU2:Hid (zke (zcs l' i x) n x):=zhy (HU.o.step HC.o (by rw [HL.o];omega) hlt);have HP2:Hid ((zcs l' i x).Perm l):=zhy ((zbv (by rw [HL.o];omega) (by rw [HL.o];omega)).trans HP.o);have HE2:Hid (∀k,n≤k→g11 (zcs l' i x) k=g11 l k):=zhy fun k hk=>by rw [zfh (by rw [HL.o];omega) (by rw [HL.o];omega),if_neg (by omega),if_neg (by omega)];exact HE.o k hk
     clear HLE2 hlt hml2;go_wp2_with fail;refine HSW.o.mono ?_;rintro r w3 ⟨rfl,ho,hf⟩;have HB3:Hid (zc2 w3 N B (some ⟨g,0,none⟩) c (zcs l' i x)):=zhy ⟨by rw [je];exact hf.box ((HB.o).drewN q2).box (fun e=>Boxed.not_row HB.o.box (by decide) HB.o.own (by rw [e];rfl)),by rw [je,HL.o];exact ho⟩;have HF3:Hid (zv (fun k=>k=g) w w3):=zhy ((HF.o.drewN q2).trans hf fun _ _ h=>h);clear ho hf HSW hms;go_wp2_with fail;go_roundw
     case rel=>exact ⟨x,_,rfl,by omega,HB3,HP2,HU2,HE2,HF3⟩
     case measure=>simp [intOf];omega
    ·have hd:decide (g11 l' x<g11 l' i)=false:=by simpa using hlt
     have HD:=zhy (HU.o.done HC.o hlt);clear HLE2 hlt hms hml2;go_wp2_with fail;go_ret;exact ⟨_,rfl,l',(HB.o).drewN q2,HP.o,HD.o,HE.o,HF.o.drewN q2⟩
def clr {α:Type} (f:α→List Value) (L:List α):List Value:=L.flatMap f
section
variable {α : Type} {f : α → List Value} {m : Nat}
theorem za7 (hm:∀x,(f x).length=m):∀L:List α,(clr f L).length=L.length*m
 | []=>by simp [clr]
 | x::L=>by
  have:=za7 hm L;unfold clr at this ⊢;rw [List.flatMap_cons,List.length_append,this,hm,List.length_cons,Nat.add_mul];omega
theorem zn0 (L M:List α):clr f (L++M)=clr f L++clr f M:=by simp [clr]
theorem jb (hm:∀x,(f x).length=m) {j:Nat} (hj:j<m):∀{L:List α} {i:Nat} {x:α},L[i]?=some x→(clr f L)[i*m+j]?=(f x)[j]?
 | [],i,x,h=>by simp at h
 | y::L,0,x,h=>by
  simp at h;subst h;rw [clr,List.flatMap_cons,Nat.zero_mul,Nat.zero_add,List.getElem?_append_left (by rw [hm];exact hj)]
 | y::L,i+1,x,h=>by
  have:=jb hm hj (L:=L) (i:=i) (x:=x) (by simpa using h);rw [clr,List.flatMap_cons,List.getElem?_append_right (by rw [hm,Nat.add_mul];omega),hm,←clr,show (i+1)*m+j-m=i*m+j by rw [Nat.add_mul];omega];exact this
theorem zcl (hm:∀x,(f x).length=m) {L:List α} {i:Nat} {x y:α} (h:L[i]?=some x) {j:Nat} (hj:j<m) {u:Value} (hy:f y=(f x).set j u):(clr f L).set (i*m+j) u=clr f (L.set i y):=by
 have hi:=(zg8.1 h).1;apply List.ext_getElem?;intro k;by_cases hk:k<L.length*m
 ·have hm0:0<m:=by omega
  have hk2:k / m<L.length:=(Nat.div_lt_iff_lt_mul hm0).2 hk;have e:k=k / m*m+k % m:=by rw [Nat.mul_comm];exact (Nat.div_add_mod k m).symm
  have hr:=Nat.mod_lt k hm0;by_cases hki:k / m=i
  ·have h2:(L.set i y)[k / m]?=some y:=by rw [hki,List.getElem?_set_self hi]
   have h3:=jb hm hr h2;rw [←e] at h3;rw [h3,hy];by_cases hkj:k % m=j
   ·have:k=i*m+j:=by rw [←hki,←hkj];exact e
    rw [this,List.getElem?_set_self (by rw [za7 hm];omega),←this,hkj,List.getElem?_set_self (by rw [hm];exact hj)]
   ·have:i*m+j≠k:=fun h'=>hkj (by rw [←h',Nat.mul_comm i m,Nat.mul_add_mod,Nat.mod_eq_of_lt hj]);rw [List.getElem?_set_ne this,List.getElem?_set_ne (fun h'=>hkj h'.symm)];have h4:=jb hm hr (show L[k / m]?=some x by rw [hki];exact h);rw [←e] at h4;exact h4
  ·have h2:(L.set i y)[k / m]?=some L[k / m]:=by rw [List.getElem?_set_ne (fun h'=>hki h'.symm),zg7 hk2]
   have h3:=jb hm hr h2;have h4:=jb hm hr (zg7 hk2);rw [←e] at h3 h4;have:i*m+j≠k:=fun h'=>hki (by rw [←h',Nat.mul_comm i m,Nat.mul_add_div hm0,Nat.div_eq_of_lt hj,Nat.add_zero]);rw [List.getElem?_set_ne this,h4,h3]
 ·rw [List.getElem?_eq_none (by rw [List.length_set,za7 hm];omega),List.getElem?_eq_none (by rw [za7 hm,List.length_set];omega)]
def Rg (f:α→List Value) (m:Nat) (w:World) (A:Option Addr) (c:Nat) (L:List α):Prop:=L.length≤c∧c≤maxLen∧((A=none∧L=[])∨∃g,A=some ⟨g,0,none⟩∧g<w.heap.size∧∀j u,(clr f L)[j]?=some u→w.cell? ⟨g,j,none⟩=some u)
theorem Rg.keep {w w':World} {A:Option Addr} {c:Nat} {L:List α} (h:Rg f m w A c L) (hb:Below w.heap.size w w'):Rg f m w' A c L:=by
 refine ⟨h.1,h.2.1,?_⟩;rcases h.2.2 with h1 | ⟨g,hA,hg,hc⟩
 ·exact .inl h1
 ·exact .inr ⟨g,hA,Nat.lt_of_lt_of_le hg hb.size,fun j u hj=>(hb.cell (qi (hc j u hj))).trans (hc j u hj)⟩
theorem Rg.of_own {w:World} {A:Option Addr} {c base e:Nat} {n:Nat} {L:List α} (hm:∀x,(f x).length=m) (hm0:0<m) (h:w.ownsRow base e m (.slice A n c) n (clr f L)):Rg f m w A c L∧n=L.length:=by
 have hn:n=L.length:=by have:=h.1;rw [za7 hm] at this;exact (Nat.eq_of_mul_eq_mul_right hm0 this).symm
 have hc:=fun g (hg:A=some ⟨g,0,none⟩) j u (hj:(clr f L)[j]?=some u)=>(by subst hg;have:=h.cells (g:=g) rfl j u hj;exact this:w.cell? ((⟨g,0,none⟩:Addr).add j)=some u);refine ⟨?_,hn⟩;rcases h.2 with ⟨hv,h0⟩ | ⟨g,cap,cur,hv,_,hh,hcap,hmx,_⟩
 ·injection hv with e1 e2 e3;have:L=[]:=List.eq_nil_of_length_eq_zero (by omega);exact ⟨by omega,by unfold maxLen;omega,.inl ⟨e1,this⟩⟩
 ·injection hv with e1 e2 e3;refine ⟨by omega,by omega,.inr ⟨g,e1,(zg9.1 hh).1,fun j u hj=>?_⟩⟩;have:=hc g e1 j u hj;unfold Addr.add at this;split at this
  ·rename_i h0;subst h0;exact this
  ·simpa using this
theorem Rg.at_ {w:World} {A:Option Addr} {c:Nat} {L:List α} (hm:∀x,(f x).length=m) (h:Rg f m w A c L) {i:Nat} {x:α} (hx:L[i]?=some x):∃g,A=some ⟨g,0,none⟩∧g<w.heap.size∧∀j,j<m→w.cell? ⟨g,i*m+j,none⟩=(f x)[j]?:=by
 rcases h.2.2 with ⟨_,h1⟩ | ⟨g,hA,hg,hc⟩
 ·subst h1;simp at hx
 ·refine ⟨g,hA,hg,fun j hj=>?_⟩;have h1:=jb hm hj hx;have h2:(f x)[j]?=some ((f x)[j]'(by rw [hm];exact hj)):=zg7 _;rw [h2] at h1 ⊢;exact hc _ _ h1
end
def cl4 (x:zkd):List Value:=[.int .i64 x.1,.int .i64 x.2.1,.bool x.2.2.1,.int .i64 x.2.2.2]
theorem zkm (x:zkd):(cl4 x).length=4:=rfl
def ce3 (x:Ce):List Value:=[.int .i64 x.1,.int .i64 x.2.1,.int .i64 x.2.2]
theorem q9 (x:Ce):(ce3 x).length=3:=rfl
structure Az where
 c:Ce
 A:Option Addr
 k:Nat
 L:List zkd
def az4 (z:Az):List Value:=[.int .i64 z.c.1,.int .i64 z.c.2.1,.int .i64 z.c.2.2,.slice z.A z.L.length z.k]
theorem zaa (z:Az):(az4 z).length=4:=rfl
def Az.ok (w:World) (z:Az):Prop:=Rg cl4 4 w z.A z.k z.L
def Ax (w:World) (X:Nat) (c:Ce) (v:Value):Prop:=w.heap[X]?=some (.cells #[.int .i64 c.1,.int .i64 c.2.1,.int .i64 c.2.2,v] 105 (0,0))
section
variable {w w' : World} {X : Nat} {c : Ce} {v : Value}
theorem Ax.lt (h:Ax w X c v):X<w.heap.size:=(zg9.1 h).1
theorem Ax.keep (h:Ax w X c v) (hb:Below w.heap.size w w'):Ax w' X c v:=(hb.block X h.lt).trans h
theorem Ax.new (w:World) (c:Ce) (v:Value):Ax (w.alloc (.cells #[.int .i64 c.1,.int .i64 c.2.1,.int .i64 c.2.2,v] 105)) w.heap.size c v:=heap_alloc_last w _
theorem Ax.cells (h:Ax w X c v):w.cell? ⟨X,0,none⟩=some (.int .i64 c.1)∧w.cell? ⟨X,1,none⟩=some (.int .i64 c.2.1)∧w.cell? ⟨X,2,none⟩=some (.int .i64 c.2.2)∧w.cell? ⟨X,3,none⟩=some v ∧
  w.frozen? ⟨X,0,none⟩=false∧w.frozen? ⟨X,1,none⟩=false∧w.frozen? ⟨X,2,none⟩=false∧w.frozen? ⟨X,3,none⟩=false:=by
 refine ⟨?_,?_,?_,?_,frozen_of_row w X 0 _ _ h,frozen_of_row w X 1 _ _ h,frozen_of_row w X 2 _ _ h,frozen_of_row w X 3 _ _ h⟩<;>rw [cell_of_row w X _ _ _ (0,0) h]<;>rfl
theorem Ax.set0 (h:Ax w X c v) (n:Int):Ax (w.setCell ⟨X,0,none⟩ (.int .i64 n)) X (n,c.2) v:=by
 unfold Ax;rw [heap_setCell_same w X 0 _ _ _ h];rfl
theorem Ax.set1 (h:Ax w X c v) (n:Int):Ax (w.setCell ⟨X,1,none⟩ (.int .i64 n)) X (c.1,n,c.2.2) v:=by
 unfold Ax;rw [heap_setCell_same w X 1 _ _ _ h];rfl
theorem Ax.set2 (h:Ax w X c v) (n:Int):Ax (w.setCell ⟨X,2,none⟩ (.int .i64 n)) X (c.1,c.2.1,n) v:=by
 unfold Ax;rw [heap_setCell_same w X 2 _ _ _ h];rfl
theorem Ax.set3 (h:Ax w X c v) (u:Value):Ax (w.setCell ⟨X,3,none⟩ u) X c u:=by
 unfold Ax;rw [heap_setCell_same w X 3 _ _ _ h];rfl
theorem Ax.other (h:Ax w X c v) {p:Addr} (hp:p.block≠X) (u:Value):Ax (w.setCell p u) X c v:=(Below.heap_setCell w p u X (fun e=>hp e.symm)).trans h
end
abbrev Fx (X:Nat) (w w':World):Prop:=zv (·=X) w w'
theorem Fx.below {X:Nat} {w w':World} (h:Fx X w w') {B:Nat} (hB:B≤X) (hw:B≤w.heap.size):Below B w w':=zv.below h fun j hj=>⟨by omega,by omega⟩
theorem qm {x:Int} (h:-9223372036854775808≤x∧x≤9223372036854775807):IntKind.i64.wrap x=x:=by
 simp [IntKind.wrap,IntKind.signed,IntKind.bits,go_sem];omega
theorem zh5 (X:Nat) (c:Ce) (v:Value) (f s h n:Int) (w:World) (hx:Ax w X c v) (b1:0≤f*n∧f*n≤1000000000000000000) (b2:0≤h*n∧h*n≤1000000000000000000) (b3:0≤c.1∧c.1≤1000000000000000000) (b4:0≤c.2.2∧c.2.2≤1000000000000000000) :
  Calls Tryz.prog 103 #[.pointer (some ⟨X,0,none⟩),.agg #[.int .i64 f,.int .i64 s,.int .i64 h],.int .i64 n] w fun e w'=>e=.returned (.tuple #[])∧Ax w' X (c.1+f*n,c.2.1,c.2.2+h*n) v∧Fx X w w':=by
 have hlt:=hx.lt;have e1:IntKind.i64.wrap (f*n)=f*n:=qm (by omega);have e2:IntKind.i64.wrap (h*n)=h*n:=qm (by omega);have e3:IntKind.i64.wrap (c.1+f*n)=c.1+f*n:=qm (by omega);have e4:IntKind.i64.wrap (c.2.2+h*n)=c.2.2+h*n:=qm (by omega);have HX:=zhy hx;clear hx b1 b2 b3 b4;go_enter Tryz.func103,Tryz.ntmps103;go_upto_region 1 with (fail);have H1:=zhy (HX.o.keep (w':=w.alloc (.cells #[.int .i64 f,.int .i64 s,.int .i64 h] 39)) qh);have HB:Hid (Fx X w (w.alloc (.cells #[.int .i64 f,.int .i64 s,.int .i64 h] 39))):=zhy ((zv.refl _ _).alloc _);obtain ⟨B,hB⟩:∃B,w.heap.size=B:=⟨_,rfl⟩;have hlt2:X<B:=by omega
 have hc:(w.alloc (.cells #[.int .i64 f,.int .i64 s,.int .i64 h] 39)).cell? ⟨B,0,none⟩=some (.int .i64 f)∧(w.alloc (.cells #[.int .i64 f,.int .i64 s,.int .i64 h] 39)).cell? ⟨B,2,none⟩=some (.int .i64 h):=by
  rw [←hB];constructor<;>simp [go_sem]
 obtain ⟨c0,c2⟩:=hc;rw [hB] at *;generalize w.alloc (.cells #[.int .i64 f,.int .i64 s,.int .i64 h] 39)=w1 at H1 HB c0 c2 ⊢;obtain ⟨x0,x1,x2,x3,y0,y1,y2,y3⟩:=H1.o.cells;go_region;go_upto_region 2 with (fail);have H2:Hid (Ax (w1.setCell ⟨X,0,none⟩ (.int .i64 (c.1+f*n))).drew X (c.1+f*n,c.2) v):=zhy (H1.o.set0 _);have HB2:Hid (Fx X w (w1.setCell ⟨X,0,none⟩ (.int .i64 (c.1+f*n))).drew):=zhy ((HB.o.set (p:=⟨X,0,none⟩) (.inr rfl) _).drewN 1);have hBX:B≠X:=by omega
 have c3:(w1.setCell ⟨X,0,none⟩ (.int .i64 (c.1+f*n))).drew.cell? ⟨B,2,none⟩=some (.int .i64 h):=by
  have:(w1.setCell ⟨X,0,none⟩ (.int .i64 (c.1+f*n))).cell? ⟨B,2,none⟩=some (.int .i64 h):=by
   rw [World.cell?_setCell_other _ _ _ _ (fun e=>by injection e with e _;exact hBX e.symm)];exact c2
  exact this
 generalize (w1.setCell ⟨X,0,none⟩ (.int .i64 (c.1+f*n))).drew=w2 at H2 HB2 c3 ⊢;clear x0 x1 x2 x3 y0 y1 y2 y3 c0 c2 HB H1;obtain ⟨x0,x1,x2,x3,y0,y1,y2,y3⟩:=H2.o.cells;dsimp only at x0 x1 x2;go_region;go_wp2_with fail;go_end0;exact ⟨rfl,H2.o.set2 _,(HB2.o.set (p:=⟨X,2,none⟩) (.inr rfl) _).drewN 1⟩
theorem zmy (X:Nat) (c:Ce) (v:Value) (n:Int) (w:World) (hx:Ax w X c v) (hn:-9223372036854775808≤n∧n≤9223372036854775807) :
  Calls Tryz.prog 104 #[.pointer (some ⟨X,0,none⟩),.int .i64 n] w fun e w'=>e=.returned (.tuple #[])∧Ax w' X (c.1,max c.2.1 n,c.2.2) v∧Fx X w w':=by
 have HX:=zhy hx;have HB:Hid (Fx X w w):=zhy (zv.refl _ _);obtain ⟨x0,x1,x2,x3,y0,y1,y2,y3⟩:=hx.cells;clear hx;go_enter Tryz.func104,Tryz.ntmps104;go_wp2_with fail
 ·have h:=‹_<_›;have HM:Hid (max c.2.1 n=n):=zhy (by omega);go_end0;exact ⟨rfl,by rw [HM.o];exact HX.o.set1 n,HB.o.set (p:=⟨X,1,none⟩) (.inr rfl) _⟩
 ·have h:=‹n≤c.2.1›;have HM:Hid (max c.2.1 n=c.2.1):=zhy (by omega);go_end0;exact ⟨rfl,by rw [HM.o];exact HX.o.set1 c.2.1,HB.o.set (p:=⟨X,1,none⟩) (.inr rfl) _⟩
abbrev cv (c:Ce):Value:=.agg #[.int .i64 c.1,.int .i64 c.2.1,.int .i64 c.2.2]
theorem zd1 (n a b:Int) (w:World):Calls Tryz.prog 105 #[.int .i64 n,.int .i64 a,.int .i64 b] w fun e w'=>e=.returned (.bool (zma n a b))∧w'=w:=by
 by_cases h0:0≤n
 ·have e0:decide (0≤n)=true:=by simpa using h0
  obtain ⟨v,hv⟩:∃v,zma n a b=v:=⟨_,rfl⟩;have HV:Hid (zma n a b=v):=zhy hv;have HW:Hid (decide (n≤min a b)=v):=zhy (by rw [←hv,zma,e0,Bool.true_and]);rw [hv];clear hv;go_enter Tryz.func105,Tryz.ntmps105;go_wp2_with fail
  ·have h:=‹b<a›;have HD:Hid (decide (n≤b)=v):=zhy (by rw [←HW.o];congr 1;rw [Int.min_def,if_neg (by omega)]);go_ret;exact ⟨by rw [←HD.o];rfl,rfl⟩
  ·have h:=‹a≤b›;have HD:Hid (decide (n≤a)=v):=zhy (by rw [←HW.o];congr 1;rw [Int.min_def,if_pos h]);go_ret;exact ⟨by rw [←HD.o];rfl,rfl⟩
 ·have e0:decide (0≤n)=false:=by simpa using h0
  have HW:Hid (zma n a b=false):=zhy (by rw [zma,e0,Bool.false_and]);go_enter Tryz.func105,Tryz.ntmps105;go_wp2_with fail;go_ret;exact ⟨by rw [HW.o];rfl,rfl⟩
theorem ztr (c:Ce) (x:Mc) (m:Mh) (w:World):Calls Tryz.prog 59 #[cv c,mv x m] w fun e w'=>e=.returned (.bool (zew c m))∧Below w.heap.size w w':=by
 obtain ⟨cf,cs,ch⟩:=c;have HB:Hid (Below w.heap.size w ((w.alloc (.cells #[.int .i64 cf,.int .i64 cs,.int .i64 ch] 39)).alloc (zbk x m))):=zhy (qh.trans (qh.mono (by simp)));obtain ⟨v1,h1⟩:∃v,zma cf m.f 1048576=v:=⟨_,rfl⟩;obtain ⟨v2,h2⟩:∃v,zma cs m.s 256=v:=⟨_,rfl⟩;obtain ⟨v3,h3⟩:∃v,zma ch m.h 1024=v:=⟨_,rfl⟩;have HV:Hid (zew (cf,cs,ch) m=(v1&&(v2&&v3))):=zhy (by rw [zew,h1,h2,h3]);rw [HV.o];have H1:=fun w=>zhy (zd1 cf m.f 1048576 w);have H2:=fun w=>zhy (zd1 cs m.s 256 w);have H3:=fun w=>zhy (zd1 ch m.h 1024 w);rw [h1] at H1;rw [h2] at H2;rw [h3] at H3;clear h1 h2 h3;go_enter Tryz.func59,Tryz.ntmps59;go_upto_region 1 with (fail);go_wp2_with fail;refine (H1 _).o.mono ?_;rintro e w' ⟨rfl,rfl⟩;cases v1 with
 | false =>
  go_wp2_with fail;go_ret;exact ⟨rfl,HB.o⟩
 | true =>
  go_wp2_with fail;refine (H2 _).o.mono ?_;rintro e w' ⟨rfl,rfl⟩;cases v2 with
  | false =>
   go_wp2_with fail;go_ret;exact ⟨rfl,HB.o⟩
  | true =>
   go_wp2_with fail;refine (H3 _).o.mono ?_;rintro e w' ⟨rfl,rfl⟩;go_wp2_with fail;go_ret;exact ⟨by simp,HB.o⟩
theorem jd {c:Ce} {m:Mh} (h:¬((0≤c.1∧c.1≤m.f∧c.1≤1048576)∧(0≤c.2.1∧c.2.1≤m.s∧c.2.1≤256)∧(0≤c.2.2∧c.2.2≤m.h∧c.2.2≤1024))):zew c m=false:=by
 rw [←Bool.not_eq_true,zh7];exact h
theorem zq4 (cf cs ch:Int) (x:Mc) (m:Mh) (w:World):Calls Tryz.prog 80 #[cv (cf,cs,ch),mv x m] w fun e w'=>e=.returned (.bool (zew (cf,cs,ch) m))∧Below w.heap.size w w':=by
 have HB:Hid (Below w.heap.size w ((w.alloc (.cells #[.int .i64 cf,.int .i64 cs,.int .i64 ch] 39)).alloc (zbk x m))):=zhy (qh.trans (qh.mono (by simp)));by_cases a0:cf<0
 ·have e0:decide (cf<0)=true:=by simpa using a0
  have HF:Hid (zew (cf,cs,ch) m=false):=zhy (jd (by dsimp only;omega));rw [HF.o];go_enter Tryz.func80,Tryz.ntmps80;go_wp2_with fail;go_ret;exact ⟨rfl,HB.o⟩
 have e0:decide (cf<0)=false:=by simpa using a0
 by_cases a1:cs<0
 ·have e1:decide (cs<0)=true:=by simpa using a1
  have HF:Hid (zew (cf,cs,ch) m=false):=zhy (jd (by dsimp only;omega));rw [HF.o];go_enter Tryz.func80,Tryz.ntmps80;go_wp2_with fail;go_ret;exact ⟨rfl,HB.o⟩
 have e1:decide (cs<0)=false:=by simpa using a1
 by_cases a2:ch<0
 ·have e2:decide (ch<0)=true:=by simpa using a2
  have HF:Hid (zew (cf,cs,ch) m=false):=zhy (jd (by dsimp only;omega));rw [HF.o];go_enter Tryz.func80,Tryz.ntmps80;go_wp2_with fail;go_ret;exact ⟨rfl,HB.o⟩
 have e2:decide (ch<0)=false:=by simpa using a2
 by_cases a3:1048576<cf
 ·have e3:decide (1048576<cf)=true:=by simpa using a3
  have HF:Hid (zew (cf,cs,ch) m=false):=zhy (jd (by dsimp only;omega));rw [HF.o];go_enter Tryz.func80,Tryz.ntmps80;go_wp2_with fail;go_ret;exact ⟨rfl,HB.o⟩
 have e3:decide (1048576<cf)=false:=by simpa using a3
 by_cases a4:256<cs
 ·have e4:decide (256<cs)=true:=by simpa using a4
  have HF:Hid (zew (cf,cs,ch) m=false):=zhy (jd (by dsimp only;omega));rw [HF.o];go_enter Tryz.func80,Tryz.ntmps80;go_wp2_with fail;go_ret;exact ⟨rfl,HB.o⟩
 have e4:decide (256<cs)=false:=by simpa using a4
 by_cases a5:1024<ch
 ·have e5:decide (1024<ch)=true:=by simpa using a5
  have HF:Hid (zew (cf,cs,ch) m=false):=zhy (jd (by dsimp only;omega));rw [HF.o];go_enter Tryz.func80,Tryz.ntmps80;go_wp2_with fail;go_ret;exact ⟨rfl,HB.o⟩
 have e5:decide (1024<ch)=false:=by simpa using a5
 by_cases a6:¬cf≤m.f
 ·have e6:decide (cf≤m.f)=false:=by simpa using a6
  have HF:Hid (zew (cf,cs,ch) m=false):=zhy (jd (by dsimp only;omega));rw [HF.o];go_enter Tryz.func80,Tryz.ntmps80;go_wp2_with fail;go_ret;exact ⟨rfl,HB.o⟩
 have e6:decide (cf≤m.f)=true:=by simpa using a6
 by_cases a7:¬cs≤m.s
 ·have e7:decide (cs≤m.s)=false:=by simpa using a7
  have HF:Hid (zew (cf,cs,ch) m=false):=zhy (jd (by dsimp only;omega));rw [HF.o];go_enter Tryz.func80,Tryz.ntmps80;go_wp2_with fail;go_ret;exact ⟨rfl,HB.o⟩
 have e7:decide (cs≤m.s)=true:=by simpa using a7
 by_cases a8:¬ch≤m.h
 ·have e8:decide (ch≤m.h)=false:=by simpa using a8
  have HF:Hid (zew (cf,cs,ch) m=false):=zhy (jd (by dsimp only;omega));rw [HF.o];go_enter Tryz.func80,Tryz.ntmps80;go_wp2_with fail;go_ret;exact ⟨rfl,HB.o⟩
 have e8:decide (ch≤m.h)=true:=by simpa using a8
 have HF:Hid (zew (cf,cs,ch) m=true):=zhy (zh7.2 (by dsimp only;omega));rw [HF.o];go_enter Tryz.func80,Tryz.ntmps80;go_wp2_with fail;go_ret;exact ⟨rfl,HB.o⟩
end Go.Proofs.YtnjgkkoiamiaaaaGreatDoor
