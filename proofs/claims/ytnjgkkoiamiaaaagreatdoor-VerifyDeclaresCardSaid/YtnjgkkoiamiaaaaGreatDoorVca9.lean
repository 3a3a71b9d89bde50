import Derived.Test.YtnjgkkoiamiaaaaGreatDoorVca8
import Derived.Maps.OwnSet
import Derived.Maps.OwnOps
import Derived.RangeFuncBox
import Derived.BigQuiet
import Derived.Test.YtnjgkkoiamiaaaaGreatDoorVca6
import Derived.WalkSmall
import Derived.Test.YtnjgkkoiamiaaaaGreatDoorVca4
import Derived.Test.YtnjgkkoiamiaaaaGreatDoorVca3
import Derived.Test.YtnjgkkoiamiaaaaGreatDoorVca1
import Derived.Deep.WholeRow
set_option maxRecDepth 100000
set_option maxHeartbeats 16000000
set_option linter.unusedSimpArgs false
set_option linter.unusedVariables false
namespace Go.Proofs.YtnjgkkoiamiaaaaGreatDoor
open Go.RowKit
structure Fr11 (X:Nat→Prop) (w w':World):Prop where
 os:w'.os=w.os
 tape:w'.tape=w.tape
 output:w'.output=w.output
 size:w.heap.size≤w'.heap.size
 block:∀j,j<w.heap.size→¬X j→w'.heap[j]?=w.heap[j]?
section
variable {X Y : Nat → Prop} {w w' w2 : World}
theorem Fr11.refl (X:Nat→Prop) (w:World):Fr11 X w w:=⟨rfl,rfl,rfl,Nat.le_refl _,fun _ _ _=>rfl⟩
theorem Fr11.trans (h:Fr11 X w w') (k:Fr11 Y w' w2) (hY:∀j,j<w.heap.size→Y j→X j):Fr11 X w w2:=
 ⟨k.os.trans h.os,k.tape.trans h.tape,k.output.trans h.output,Nat.le_trans h.size k.size,fun j hj hx=>(k.block j (Nat.lt_of_lt_of_le hj h.size) fun hy=>hx (hY j hj hy)).trans (h.block j hj hx)⟩
theorem Fr11.mono (h:Fr11 X w w') (hX:∀j,X j→Y j):Fr11 Y w w':=⟨h.os,h.tape,h.output,h.size,fun j hj hy=>h.block j hj fun hx=>hy (hX j hx)⟩
theorem Fr11.drewN (h:Fr11 X w w') (q:Nat):Fr11 X w (w'.drewN q):=by
 refine ⟨?_,?_,?_,?_,fun j hj hx=>?_⟩<;>induction q with
 | zero=>first | exact h.os | exact h.tape | exact h.output | exact h.size | exact h.block j hj hx
 | succ q ih=>exact ih
theorem Fr11.alloc (h:Fr11 X w w') (o:Obj):Fr11 X w (w'.alloc o):=by
 refine ⟨h.os,h.tape,h.output,?_,fun j hj hx=>?_⟩
 ·rw [size1];exact Nat.le_succ_of_le h.size
 ·exact (Below.heap_alloc w' o j (Nat.lt_of_lt_of_le hj h.size)).trans (h.block j hj hx)
theorem Fr11.set (h:Fr11 X w w') {p:Addr} (hp:w.heap.size≤p.block∨X p.block) (u:Value):Fr11 X w (w'.setCell p u):=by
 refine ⟨h.os,h.tape,h.output,?_,fun j hj hx=>?_⟩
 ·simpa using h.size
 ·exact (Below.heap_setCell w' p u j (fun e=>by subst e;rcases hp with hp | hp;omega;exact hx hp)).trans (h.block j hj hx)
theorem Fr11.of_below {B:Nat} (h:Below B w w') (hB:∀j,B≤j→j<w.heap.size→X j):Fr11 X w w':=⟨h.os,h.tape,h.output,h.size,fun j hj hx=>h.block j (by
 by_cases e:B≤j
 ·exact absurd (hB j e hj) hx
 ·omega)⟩
theorem Fr11.of_grown {row:Option Nat} (h:w.grownBy w' row) (hX:∀j,some j=row→X j):Fr11 X w w':=⟨h.os,h.tape,h.output,h.size,fun j hj hx=>h.block j hj fun e=>hx (hX j e)⟩
theorem Fr11.below (h:Fr11 X w w') {B:Nat} (hB:∀j,j<B→j<w.heap.size∧¬X j):Below B w w':=⟨h.os,h.tape,h.output,h.size,fun j hj=>h.block j (hB j hj).1 (hB j hj).2⟩
theorem Fr11.own (h:Fr11 X w w') {base e size n:Nat} {v:Value} {xs:List Value} (ho:w.ownsRow base e size v n xs) (hv:∀g,v.ownBlock=some g→¬X g):w'.ownsRow base e size v n xs:=by
 obtain ⟨h1,h2⟩:=ho;refine ⟨h1,?_⟩;rcases h2 with h2 | ⟨g,cap,cur,rfl,hg,hh,r⟩
 ·exact .inl h2
 ·exact .inr ⟨g,cap,cur,rfl,hg,(h.block g (zg9.1 hh).1 (hv g rfl)).trans hh,r⟩
theorem Fr11.box (h:Fr11 X w w') {B t:Nat} {v:Value} (hb:Boxed w B t v) (hx:¬X B):Boxed w' B t v:=(h.block B hb.lt hx).trans hb
theorem Fr11.map {H:Type} (h:Fr11 X w w') {P:Program} {k:TypeId} {R:Value→Option (DataW H×List MemPlace)} {b n:Nat} {D:DataW H} (ho:w.ownsMap P k R b n D) (hx:¬X b):w'.ownsMap P k R b n D:=by
 obtain ⟨es,clock,hh,r⟩:=ho;exact ⟨es,clock,(h.block b (zg9.1 hh).1 hx).trans hh,r⟩
theorem Fr11.rn (h:Fr11 X w w') {A:Option Addr} {c:Nat} {l:List Int} (hr:Rn w A c l) (hx:∀ad,A=some ad→0<l.length→¬X ad.block):Rn w' A c l:=by
 refine ⟨hr.1,hr.2.1,?_⟩;rcases hr.2.2 with hn | ⟨ad,ha,hc⟩
 ·exact .inl hn
 ·refine .inr ⟨ad,ha,fun i x hi=>?_⟩;have h0:0<l.length:=by have:=(zg8.1 hi).1;omega
  have h1:=hc i x hi;have h2:=cell_lt h1;rw [add_block] at h2;refine (World.cell?_of_block ?_).trans h1;rw [add_block];exact h.block _ h2 (hx ad ha h0)
end
def g11 (l:List Int) (i:Nat):Int:=l[i]?.getD 0
def sw11 (l:List Int) (i j:Nat):List Int:=(l.set i (g11 l j)).set j (g11 l i)
def Hp11 (l:List Int) (n:Nat):Prop:=∀i,0<i→i<n→g11 l ((i-1) / 2)≤g11 l i
section
variable {l : List Int} {i j n : Nat}
theorem g11_some (h:i<l.length):l[i]?=some (g11 l i):=by rw [g11,zg7 h];rfl
theorem sw11_len:(sw11 l i j).length=l.length:=by simp [sw11]
theorem g11_sw (hi:i<l.length) (hj:j<l.length) (k:Nat):g11 (sw11 l i j) k=if k=j then g11 l i else if k=i then g11 l j else g11 l k:=by
 unfold sw11;by_cases h1:k=j
 ·subst h1;rw [if_pos rfl,g11,List.getElem?_set_self (by simpa using hj)];rfl
 ·rw [if_neg h1,g11,List.getElem?_set_ne (fun e=>h1 e.symm)];by_cases h2:k=i
  ·subst h2;rw [if_pos rfl,List.getElem?_set_self hi];rfl
  ·rw [if_neg h2,List.getElem?_set_ne (fun e=>h2 e.symm)];rfl
theorem sw11_perm (hi:i<l.length) (hj:j<l.length):(sw11 l i j).Perm l:=by
 have:=List.set_set_perm hi hj;have e1:g11 l i=l[i]:=by rw [g11,zg7 hi];rfl
 have e2:g11 l j=l[j]:=by rw [g11,zg7 hj];rfl
 rw [sw11,e1,e2];exact this
def Up11 (l:List Int) (n j:Nat):Prop:=j<n∧(∀i,0<i→i<n→i≠j→g11 l ((i-1) / 2)≤g11 l i)∧∀i,0<i→i<n→(i-1) / 2=j→0<j→g11 l ((j-1) / 2)≤g11 l i
theorem Up11.done (h:Up11 l n j) (hj:j=0∨¬g11 l j<g11 l ((j-1) / 2)):Hp11 l n:=by
 intro i h0 hi;by_cases e:i=j
 ·subst e;rcases hj with hj | hj
  ·omega
  ·omega
 ·exact h.2.1 i h0 hi e
theorem Up11.step (h:Up11 l n j) (hl:n=l.length) (hj:0<j) (hlt:g11 l j<g11 l ((j-1) / 2)):Up11 (sw11 l ((j-1) / 2) j) n ((j-1) / 2):=by
 obtain ⟨h1,h2,h3⟩:=h;have hp:(j-1) / 2<j:=by omega
 have G:=g11_sw (l:=l) (i:=(j-1) / 2) (j:=j) (by omega) (by omega);refine ⟨by omega,fun i h0 hi hne=>?_,fun i h0 hi hpi hp0=>?_⟩
 ·rw [G,G];have a1:=h2 i h0 hi;have a2:=h3 i h0 hi;by_cases e1:i=j
  ·subst e1;rw [if_neg (by omega),if_pos rfl,if_pos rfl];omega
  ·by_cases e2:(i-1) / 2=j
   ·rw [if_pos e2,if_neg e1,if_neg hne];exact a2 e2 hj
   ·by_cases e3:(i-1) / 2=(j-1) / 2
    ·rw [if_neg e2,if_pos e3,if_neg e1,if_neg hne];have:=a1 e1;rw [e3] at this;omega
    ·rw [if_neg e2,if_neg e3,if_neg e1,if_neg hne];exact a1 e1
 ·rw [G,G];have a1:=h2 i h0 hi;have a3:=h2 ((j-1) / 2) hp0 (by omega) (by omega);rw [if_neg (by omega),if_neg (by omega)];by_cases e1:i=j
  ·rw [if_pos e1];exact a3
  ·rw [if_neg e1,if_neg (by omega)];have:=a1 e1;rw [hpi] at this;omega
theorem Up11.start {x:Int} (h:Hp11 l l.length):Up11 (l++[x]) (l.length+1) l.length:=by
 have G:∀i,i<l.length→g11 (l++[x]) i=g11 l i:=fun i hi=>by rw [g11,List.getElem?_append_left hi];rfl
 refine ⟨by omega,fun i h0 hi hne=>?_,fun i h0 hi hp hj=>by omega⟩;rw [G i (by omega),G _ (by omega)];exact h i h0 (by omega)
def Dn11 (l:List Int) (n i:Nat):Prop:=(∀k,0<k→k<n→(k-1) / 2≠i→g11 l ((k-1) / 2)≤g11 l k)∧∀k,0<k→k<n→(k-1) / 2=i→0<i→g11 l ((i-1) / 2)≤g11 l k
def Ch11 (l:List Int) (n i j:Nat):Prop:=j<n∧(j-1) / 2=i∧0<j∧∀k,0<k→k<n→(k-1) / 2=i→g11 l j≤g11 l k
theorem Dn11.none (h:Dn11 l n i) (hi:n≤2*i+1):Hp11 l n:=fun k h0 hk=>h.1 k h0 hk (by omega)
theorem Dn11.done (h:Dn11 l n i) (hc:Ch11 l n i j) (hj:¬g11 l j<g11 l i):Hp11 l n:=by
 intro k h0 hk;by_cases e:(k-1) / 2=i
 ·have:=hc.2.2.2 k h0 hk e;rw [e];omega
 ·exact h.1 k h0 hk e
theorem Dn11.step (h:Dn11 l n i) (hc:Ch11 l n i j) (hn:n≤l.length) (hj:g11 l j<g11 l i):Dn11 (sw11 l i j) n j:=by
 obtain ⟨h1,h2⟩:=h;obtain ⟨c1,c2,c3,c4⟩:=hc;have hij:i<j:=by omega
 have G:=g11_sw (l:=l) (i:=i) (j:=j) (by omega) (by omega);refine ⟨fun k h0 hk hne=>?_,fun k h0 hk hpk hj0=>?_⟩
 ·rw [G,G,if_neg hne];by_cases e1:(k-1) / 2=i
  ·rw [if_pos e1];by_cases e2:k=j
   ·rw [if_pos e2];omega
   ·rw [if_neg e2,if_neg (by omega)];exact c4 k h0 hk e1
  ·rw [if_neg e1,if_neg (by intro e;subst e;exact e1 c2)];by_cases e3:k=i
   ·subst e3;rw [if_pos rfl];exact h2 j c3 c1 c2 h0
   ·rw [if_neg e3];exact h1 k h0 hk e1
 ·rw [G,G,c2,if_neg (by omega),if_pos rfl,if_neg (by omega),if_neg (by omega)];have:=h1 k h0 hk (by omega);rw [hpk] at this;exact this
theorem Hp11.least (h:Hp11 l n):∀k,k<n→g11 l 0≤g11 l k:=by
 intro k;induction k using Nat.strongRecOn with
 | _ k ih =>
  intro hk;by_cases h0:k=0
  ·subst h0;omega
  ·have a:=h k (by omega) hk;have b:=ih ((k-1) / 2) (by omega) (by omega);omega
theorem Dn11.start (h:Hp11 l l.length) (hl:l.length=n+1):Dn11 (sw11 l 0 n) n 0:=by
 have G:=g11_sw (l:=l) (i:=0) (j:=n) (by omega) (by omega);refine ⟨fun k h0 hk hne=>?_,fun k h0 hk hp hj=>by omega⟩;rw [G,G,if_neg (by omega),if_neg hne,if_neg (by omega),if_neg (by omega)];exact h k h0 (by omega)
end
structure Hb11 (w:World) (N B:Nat) (A:Option Addr) (c:Nat) (l:List Int):Prop where
 box:Boxed w B 240 (.slice A l.length c)
 own:w.ownsRow N 3 1 (.slice A l.length c) l.length (ci9 l)
theorem Hb11.drewN {w:World} {N B c:Nat} {A:Option Addr} {l:List Int} (h:Hb11 w N B A c l) (q:Nat):Hb11 (w.drewN q) N B A c l:=⟨(Fr11.refl (fun _=>False) w |>.drewN q).box h.box id,(Fr11.refl (fun _=>False) w |>.drewN q).own h.own fun _ _=>id⟩
def Xr11 (A:Option Addr) (j:Nat):Prop:=∃ad,A=some ad∧j=ad.block
theorem len11_v (A:Option Addr) (n c:Nat) (w:World):Calls Tryz.prog 163 #[.slice A n c] w fun e w'=>e=.returned (.int .i64 n)∧w=w':=by
 go_enter Tryz.func163,Tryz.ntmps163;go_wp2_with fail;go_ret;exact ⟨rfl,rfl⟩
theorem less11_v (A:Option Addr) (c n i j:Nat) (l:List Int) (w:World) (hr:Rn w A c l) (hn:l.length=n) (hi:i<n) (hj:j<n):Calls Tryz.prog 274 #[.slice A n c,.int .i64 i,.int .i64 j] w fun e w'=>e=.returned (.bool (decide (g11 l i<g11 l j)))∧∃q,w'=w.drewN q:=by
 obtain ⟨ad,hA,y0⟩:=hr.at_ (g11_some (l:=l) (i:=i) (by omega));obtain ⟨ad',hA',y1⟩:=hr.at_ (g11_some (l:=l) (i:=j) (by omega));subst hA;injection hA' with hA';subst hA';have hm9:n≤9223372036854775807:=by have:=hr.2.1;have:=hr.1;unfold maxLen at *;omega
 generalize g11 l i=x at y0 ⊢;generalize g11 l j=y at y1 ⊢;clear hr hn;go_enter Tryz.func274,Tryz.ntmps274;go_wp2_with fail;go_quiet (fail);go_wp2_with fail;go_ret;exact ⟨rfl,_,rfl⟩
theorem meth_len11 (k B : Nat) (A : Option Addr) (n c : Nat) (w : World) (h : w.cell? ⟨B, 0, none⟩ = some (.slice A n c)) : (method (k + 1) 237 (.pointer (some ⟨B, 0, none⟩)) "Len").run Tryz.prog w = .ok (163, .slice A n c) w := by
  have hf : (Array.find? (fun x => x.name == "Len") Tryz.t237.methods) = some { name := "Len", sig := 243, path := #[{ struct := 240, index := 0, deref := true }], func := some (163, false) } := by kernel_rfl
  simp [method, follow, receiverAt, hf, Place.get, go_sem, h]
theorem meth_less11 (k B : Nat) (A : Option Addr) (n c : Nat) (w : World) (h : w.cell? ⟨B, 0, none⟩ = some (.slice A n c)) : (method (k + 1) 237 (.pointer (some ⟨B, 0, none⟩)) "Less").run Tryz.prog w = .ok (274, .slice A n c) w := by
  have hf : (Array.find? (fun x => x.name == "Less") Tryz.t237.methods) = some { name := "Less", sig := 108, path := #[{ struct := 240, index := 0, deref := true }], func := some (274, false) } := by kernel_rfl
  simp [method, follow, receiverAt, hf, Place.get, go_sem, h]
theorem meth_swap11 (k B : Nat) (A : Option Addr) (n c : Nat) (w : World) (h : w.cell? ⟨B, 0, none⟩ = some (.slice A n c)) : (method (k + 1) 237 (.pointer (some ⟨B, 0, none⟩)) "Swap").run Tryz.prog w = .ok (278, .slice A n c) w := by
  have hf : (Array.find? (fun x => x.name == "Swap") Tryz.t237.methods) = some { name := "Swap", sig := 294, path := #[{ struct := 240, index := 0, deref := true }], func := some (278, false) } := by kernel_rfl
  simp [method, follow, receiverAt, hf, Place.get, go_sem, h]
theorem meth_push11 (k B : Nat) (w : World) : (method (k + 1) 237 (.pointer (some ⟨B, 0, none⟩)) "Push").run Tryz.prog w = .ok (276, .pointer (some ⟨B, 0, none⟩)) w := by
  have hf : (Array.find? (fun x => x.name == "Push") Tryz.t237.methods) = some { name := "Push", sig := 292, path := #[], func := some (276, true) } := by kernel_rfl
  simp [method, follow, receiverAt, hf, Place.get, go_sem]
theorem meth_pop11 (k B : Nat) (w : World) : (method (k + 1) 237 (.pointer (some ⟨B, 0, none⟩)) "Pop").run Tryz.prog w = .ok (275, .pointer (some ⟨B, 0, none⟩)) w := by
  have hf : (Array.find? (fun x => x.name == "Pop") Tryz.t237.methods) = some { name := "Pop", sig := 296, path := #[], func := some (275, true) } := by kernel_rfl
  simp [method, follow, receiverAt, hf, Place.get, go_sem]
theorem swap11_v (N g c n i j:Nat) (l:List Int) (w:World) (ho:w.ownsRow N 3 1 (.slice (some ⟨g,0,none⟩) n c) n (ci9 l)) (hi:i<n) (hj:j<n):Calls Tryz.prog 278 #[.slice (some ⟨g,0,none⟩) n c,.int .i64 i,.int .i64 j] w fun e w'=>e=.returned (.tuple #[])∧w'.ownsRow N 3 1 (.slice (some ⟨g,0,none⟩) n c) n (ci9 (sw11 l i j))∧Fr11 (fun k=>k=g) w w':=by
 have hn:n=l.length:=(Rn.of_own ho).2;have hr:=(Rn.of_own ho).1;have hm9:n≤9223372036854775807:=by have:=hr.2.1;have:=hr.1;unfold maxLen at *;omega
 have y0:=(ho.cellAt i (by omega)).trans (show (ci9 l)[i]?=some (.int .i64 (g11 l i)) by simp [ci9,g11_some (l:=l) (i:=i) (by omega)]);have y1:=(ho.cellAt j (by omega)).trans (show (ci9 l)[j]?=some (.int .i64 (g11 l j)) by simp [ci9,g11_some (l:=l) (i:=j) (by omega)]);have f0:=ho.frozenAt i;have f1:=ho.frozenAt j
 obtain ⟨z,y2⟩:∃z,(w.setCell ⟨g,i,none⟩ (.int .i64 (g11 l j))).cell? ⟨g,j,none⟩=some z:=by
  have h:=((ho.stored i (.int .i64 (g11 l j))).1.cellAt j (by omega));exact ⟨_,h.trans (zg7 (by rw [List.length_set,ci9,List.length_map];omega))⟩
 have HO:=zhy ho
 have HS:Hid (((w.setCell ⟨g,i,none⟩ (.int .i64 (g11 l j))).setCell ⟨g,j,none⟩ (.int .i64 (g11 l i))).ownsRow N 3 1 (.slice (some ⟨g,0,none⟩) n c) n (ci9 (sw11 l i j))):=by
  have:=((ho.stored i (.int .i64 (g11 l j))).1.stored j (.int .i64 (g11 l i))).1;simpa [Hid,sw11,ci9,List.map_set] using this
 have HF:Hid (Fr11 (fun k=>k=g) w ((w.setCell ⟨g,i,none⟩ (.int .i64 (g11 l j))).setCell ⟨g,j,none⟩ (.int .i64 (g11 l i)))):=zhy (((Fr11.refl (fun k=>k=g) w).set (p:=⟨g,i,none⟩) (.inr rfl) _).set (p:=⟨g,j,none⟩) (.inr rfl) _);generalize g11 l i=x at y0 HS HF;generalize g11 l j=y at y1 y2 HS HF;clear hr hn ho;go_enter Tryz.func278,Tryz.ntmps278;go_wp2_with fail;go_region;go_wp2_with fail;go_end0;exact ⟨rfl,HS.out.drew,HF.out.drewN 1⟩
theorem up11_v (N B g c n j:Nat) (l:List Int) (w:World) (h:Hb11 w N B (some ⟨g,0,none⟩) c l) (hn:l.length=n) (hm9:n≤1000000) (hu:Up11 l n j):Calls Tryz.prog 201 #[.iface 237 (.pointer (some ⟨B,0,none⟩)),.int .i64 j] w fun e w'=>e=.returned (.tuple #[])∧∃l',Hb11 w' N B (some ⟨g,0,none⟩) c l'∧l'.Perm l∧Hp11 l' n∧Fr11 (fun k=>k=g) w w':=by
 have H0:=zhy h;have HN:=zhy hn;have HU:=zhy hu;clear h hn hu;go_enter Tryz.func201,Tryz.ntmps201;go_wp2_with fail;go_loopw [1] (fun jv wr=>∃(j:Nat) (l':List Int),jv=.int .i64 j∧j<n∧Hid (Hb11 wr N B (some ⟨g,0,none⟩) c l')∧Hid (l'.Perm l)∧Hid (Up11 l' n j)∧Hid (Fr11 (fun k=>k=g) w wr)) (fun jv _=>(intOf jv).toNat)
 case atStart=>exact ⟨j,l,rfl,HU.out.1,H0,zhy (List.Perm.refl _),HU,zhy (Fr11.refl _ _)⟩
 case round =>
  clear HU H0;obtain ⟨j,l',rfl,hj,HB,HP,HU,HF⟩:=hrel;have HL:Hid (l'.length=n):=zhy (HP.out.length_eq.trans HN.out);by_cases h0:j=0
  ·subst h0;go_wp2_with fail;go_end0;exact ⟨rfl,l',HB.out,HP.out,HU.out.done (.inl rfl),HF.out⟩
  ·have hml:=fun k=>meth_less11 k B _ _ _ wr HB.out.box.cell;have hms:=fun k=>meth_swap11 k B _ _ _ wr HB.out.box.cell;rw [HL.out] at hml hms;obtain ⟨p,hp⟩:∃p,(j-1) / 2=p:=⟨_,rfl⟩;have HPP:=zhy hp;have ep:((j:Int)-1) / 2=(p:Int):=by omega
   have hpj:p<j:=by omega
   have eq:((p:Int)==(j:Int))=false:=by simp;omega
   have HO:=zhy HB.out.own;rw [HL.out] at HO;have HLE:=zhy (less11_v (some ⟨g,0,none⟩) c n j p l' wr (Rn.of_own HO.out).1 HL.out hj (by omega));clear hp;go_wp2_with fail;refine HLE.out.mono ?_;rintro r w2 ⟨rfl,q,rfl⟩;by_cases hlt:g11 l' j<g11 l' p
   ·have hd:decide (g11 l' j<g11 l' p)=true:=by simpa using hlt
    have HSW:=zhy (swap11_v N g c n p j l' (wr.drewN q) ((Fr11.refl (fun _=>False) wr |>.drewN q).own HO.out fun _ _=>id) (by omega) hj);have HU2:Hid (Up11 (sw11 l' p j) n p):=zhy (by have:=HU.out.step HL.out.symm (by omega) (by rw [HPP.out];exact hlt);rwa [HPP.out] at this);have HP2:Hid ((sw11 l' p j).Perm l):=zhy ((sw11_perm (by rw [HL.out];omega) (by rw [HL.out];exact hj)).trans HP.out);have HL2:Hid ((sw11 l' p j).length=n):=zhy (sw11_len.trans HL.out);have hms2:=fun k=>meth_swap11 k B _ _ _ (wr.drewN q) (HB.out.drewN q).box.cell;rw [HL.out] at hms2;clear HLE hlt hms hml;go_wp2_with fail;refine HSW.out.mono ?_;rintro r w3 ⟨rfl,ho,hf⟩;have HB3:Hid (Hb11 w3 N B (some ⟨g,0,none⟩) c (sw11 l' p j)):=zhy ⟨by rw [sw11_len];exact hf.box (HB.out.drewN q).box (fun e=>Boxed.not_row HB.out.box (by decide) HB.out.own (by rw [e];rfl)),by rw [sw11_len,HL.out];exact ho⟩;have HF3:Hid (Fr11 (fun k=>k=g) w w3):=zhy ((HF.out.drewN q).trans hf fun _ _ h=>h);clear ho hf HSW hms2;go_wp2_with fail;go_roundw
    case rel=>exact ⟨p,_,rfl,by omega,HB3,HP2,HU2,HF3⟩
    case measure=>simp [intOf];omega
   ·have hd:decide (g11 l' j<g11 l' p)=false:=by simpa using hlt
    have HD:=zhy (HU.out.done (.inr (by rw [HPP.out];exact hlt)));clear HLE hlt;go_wp2_with fail;go_end0;exact ⟨rfl,l',HB.out.drewN q,HP.out,HD.out,HF.out.drewN q⟩
theorem down11_v (N B g c n m:Nat) (l:List Int) (w:World) (h:Hb11 w N B (some ⟨g,0,none⟩) c l) (hm:l.length=m) (hnm:n<m) (hm9:m≤1000000) (hu:Dn11 l n 0):Calls Tryz.prog 202 #[.iface 237 (.pointer (some ⟨B,0,none⟩)),.int .i64 0,.int .i64 n] w fun e w'=>∃b,e=.returned (.bool b)∧∃l',Hb11 w' N B (some ⟨g,0,none⟩) c l'∧l'.Perm l∧Hp11 l' n∧(∀k,n≤k→g11 l' k=g11 l k)∧Fr11 (fun k=>k=g) w w':=by
 have H0:=zhy h;have HN:=zhy hm;have HU:=zhy hu;clear h hm hu;go_enter Tryz.func202,Tryz.ntmps202;go_wp2_with fail;go_loopw [7] (fun jv wr=>∃(i:Nat) (l':List Int),jv=.int .i64 i∧i≤n∧Hid (Hb11 wr N B (some ⟨g,0,none⟩) c l')∧Hid (l'.Perm l)∧Hid (Dn11 l' n i)∧Hid (∀k,n≤k→g11 l' k=g11 l k)∧Hid (Fr11 (fun k=>k=g) w wr)) (fun jv _=>n-(intOf jv).toNat)
 case atStart=>exact ⟨0,l,rfl,by omega,H0,zhy (List.Perm.refl _),HU,zhy (fun _ _=>rfl),zhy (Fr11.refl _ _)⟩
 case round =>
  clear HU H0;obtain ⟨i,l',rfl,hi,HB,HP,HU,HE,HF⟩:=hrel;have HL:Hid (l'.length=m):=zhy (HP.out.length_eq.trans HN.out);obtain ⟨x,hx⟩:∃x,2*i+1=x:=⟨_,rfl⟩;have ex:((2:Int)*(i:Int)+1)=(x:Int):=by omega
  have ex2:((i:Int)*2+1)=(x:Int):=by omega
  by_cases h0:n≤x
  ·have HD:=zhy (HU.out.none (by omega));clear hx;go_wp2_with fail;go_ret;exact ⟨_,rfl,l',HB.out,HP.out,HD.out,HE.out,HF.out⟩
  ·have hil:i<x:=by omega
   have HXX:=zhy hx;clear hx;by_cases h1:x+1<n
   ·have hml:=fun k=>meth_less11 k B _ _ _ wr HB.out.box.cell;rw [HL.out] at hml;have HO:=zhy HB.out.own;rw [HL.out] at HO;have HLE:=zhy (less11_v (some ⟨g,0,none⟩) c m (x+1) x l' wr (Rn.of_own HO.out).1 HL.out (by omega) (by omega));go_wp2_with fail;refine HLE.out.mono ?_;rintro r w1 ⟨rfl,q1,hq1⟩;have HB1:Hid (Hb11 w1 N B (some ⟨g,0,none⟩) c l'):=zhy (hq1▸HB.out.drewN q1);have HF1:Hid (Fr11 (fun k=>k=g) w w1):=zhy (hq1▸HF.out.drewN q1);clear hq1 HO;by_cases hlt:g11 l' (x+1)<g11 l' x
    ·have hd:decide (g11 l' (x+1)<g11 l' x)=true:=by simpa using hlt
     obtain ⟨j,hj⟩:∃j,x+1=j:=⟨_,rfl⟩;have ejj:((x:Int)+1)=(j:Int):=by omega
     have hjn:j<n:=by omega
     have hij:i<j:=by omega
     have HC:Hid (Ch11 l' n i j):=zhy ⟨by omega,by have:=HXX.out;omega,by omega,fun k k0 kn kp=>by
      have:=HXX.out;by_cases e:k=j
      ·rw [e];exact Int.le_refl _
      ·obtain rfl:k=x:=by omega
       rw [←hj];omega⟩
     clear HLE hml hj hlt;have hml2:=fun k=>meth_less11 k B _ _ _ w1 HB1.out.box.cell;rw [HL.out] at hml2;have HO2:=zhy HB1.out.own;rw [HL.out] at HO2;have HLE2:=zhy (less11_v (some ⟨g,0,none⟩) c m j i l' w1 (Rn.of_own HO2.out).1 HL.out (by omega) (by omega));have hms:=fun k q=>meth_swap11 k B _ _ _ (w1.drewN q) (HB1.out.drewN q).box.cell;rw [HL.out] at hms;go_wp2_with fail;refine HLE2.out.mono ?_;rintro r w2 ⟨rfl,q2,rfl⟩;by_cases hlt:g11 l' j<g11 l' i
     ·have hd:decide (g11 l' j<g11 l' i)=true:=by simpa using hlt
      have HSW:=zhy (swap11_v N g c m i j l' (w1.drewN q2) ((Fr11.refl (fun _=>False) w1 |>.drewN q2).own HO2.out fun _ _=>id) (by omega) (by omega));have HU2:Hid (Dn11 (sw11 l' i j) n j):=zhy (HU.out.step HC.out (by rw [HL.out];omega) hlt);have HP2:Hid ((sw11 l' i j).Perm l):=zhy ((sw11_perm (by rw [HL.out];omega) (by rw [HL.out];omega)).trans HP.out);have HE2:Hid (∀k,n≤k→g11 (sw11 l' i j) k=g11 l k):=zhy fun k hk=>by rw [g11_sw (by rw [HL.out];omega) (by rw [HL.out];omega),if_neg (by omega),if_neg (by omega)];exact HE.out k hk
      clear HLE2 hlt hml2;go_wp2_with fail;refine HSW.out.mono ?_;rintro r w3 ⟨rfl,ho,hf⟩;have HB3:Hid (Hb11 w3 N B (some ⟨g,0,none⟩) c (sw11 l' i j)):=zhy ⟨by rw [sw11_len];exact hf.box (HB1.out.drewN q2).box (fun e=>Boxed.not_row HB.out.box (by decide) HB.out.own (by rw [e];rfl)),by rw [sw11_len,HL.out];exact ho⟩;have HF3:Hid (Fr11 (fun k=>k=g) w w3):=zhy ((HF1.out.drewN q2).trans hf fun _ _ h=>h);clear ho hf HSW hms;go_wp2_with fail;go_roundw
      case rel=>exact ⟨j,_,rfl,by omega,HB3,HP2,HU2,HE2,HF3⟩
      case measure=>simp [intOf];omega
     ·have hd:decide (g11 l' j<g11 l' i)=false:=by simpa using hlt
      have HD:=zhy (HU.out.done HC.out hlt);clear HLE2 hlt hms hml2;go_wp2_with fail;go_ret;exact ⟨_,rfl,l',HB1.out.drewN q2,HP.out,HD.out,HE.out,HF1.out.drewN q2⟩
    ·have hd:decide (g11 l' (x+1)<g11 l' x)=false:=by simpa using hlt
     obtain ⟨j,hj⟩:∃j,x=j:=⟨_,rfl⟩
     have HC:Hid (Ch11 l' n i x):=zhy ⟨by omega,by have:=HXX.out;omega,by omega,fun k k0 kn kp=>by
      have:=HXX.out;by_cases e:k=x
      ·rw [e];exact Int.le_refl _
      ·obtain rfl:k=x+1:=by omega
       omega⟩
     subst hj;have hij:i<x:=hil;clear HLE hml hlt;have hml2:=fun k=>meth_less11 k B _ _ _ w1 HB1.out.box.cell;rw [HL.out] at hml2;have HO2:=zhy HB1.out.own;rw [HL.out] at HO2;have HLE2:=zhy (less11_v (some ⟨g,0,none⟩) c m x i l' w1 (Rn.of_own HO2.out).1 HL.out (by omega) (by omega));have hms:=fun k q=>meth_swap11 k B _ _ _ (w1.drewN q) (HB1.out.drewN q).box.cell;rw [HL.out] at hms;go_wp2_with fail;refine HLE2.out.mono ?_;rintro r w2 ⟨rfl,q2,rfl⟩;by_cases hlt:g11 l' x<g11 l' i
     ·have hd:decide (g11 l' x<g11 l' i)=true:=by simpa using hlt
      have HSW:=zhy (swap11_v N g c m i x l' (w1.drewN q2) ((Fr11.refl (fun _=>False) w1 |>.drewN q2).own HO2.out fun _ _=>id) (by omega) (by omega));have HU2:Hid (Dn11 (sw11 l' i x) n x):=zhy (HU.out.step HC.out (by rw [HL.out];omega) hlt);have HP2:Hid ((sw11 l' i x).Perm l):=zhy ((sw11_perm (by rw [HL.out];omega) (by rw [HL.out];omega)).trans HP.out);have HE2:Hid (∀k,n≤k→g11 (sw11 l' i x) k=g11 l k):=zhy fun k hk=>by rw [g11_sw (by rw [HL.out];omega) (by rw [HL.out];omega),if_neg (by omega),if_neg (by omega)];exact HE.out k hk
      clear HLE2 hlt hml2;go_wp2_with fail;refine HSW.out.mono ?_;rintro r w3 ⟨rfl,ho,hf⟩;have HB3:Hid (Hb11 w3 N B (some ⟨g,0,none⟩) c (sw11 l' i x)):=zhy ⟨by rw [sw11_len];exact hf.box (HB1.out.drewN q2).box (fun e=>Boxed.not_row HB.out.box (by decide) HB.out.own (by rw [e];rfl)),by rw [sw11_len,HL.out];exact ho⟩;have HF3:Hid (Fr11 (fun k=>k=g) w w3):=zhy ((HF1.out.drewN q2).trans hf fun _ _ h=>h);clear ho hf HSW hms;go_wp2_with fail;go_roundw
      case rel=>exact ⟨x,_,rfl,by omega,HB3,HP2,HU2,HE2,HF3⟩
      case measure=>simp [intOf];omega
     ·have hd:decide (g11 l' x<g11 l' i)=false:=by simpa using hlt
      have HD:=zhy (HU.out.done HC.out hlt);clear HLE2 hlt hms hml2;go_wp2_with fail;go_ret;exact ⟨_,rfl,l',HB1.out.drewN q2,HP.out,HD.out,HE.out,HF1.out.drewN q2⟩
   ·have HC:Hid (Ch11 l' n i x):=zhy ⟨by omega,by have:=HXX.out;omega,by omega,fun k k0 kn kp=>by
     have:=HXX.out;obtain rfl:k=x:=by omega
     exact Int.le_refl _⟩
    have hij:i<x:=hil;have hml2:=fun k=>meth_less11 k B _ _ _ (wr) (HB.out).box.cell;rw [HL.out] at hml2;have HO2:=zhy (HB.out).own;rw [HL.out] at HO2;have HLE2:=zhy (less11_v (some ⟨g,0,none⟩) c m x i l' (wr) (Rn.of_own HO2.out).1 HL.out (by omega) (by omega));have hms:=fun k q=>meth_swap11 k B _ _ _ ((wr).drewN q) ((HB.out).drewN q).box.cell;rw [HL.out] at hms;go_wp2_with fail;refine HLE2.out.mono ?_;rintro r w2 ⟨rfl,q2,rfl⟩;by_cases hlt:g11 l' x<g11 l' i
    ·have hd:decide (g11 l' x<g11 l' i)=true:=by simpa using hlt
     have HSW:=zhy (swap11_v N g c m i x l' ((wr).drewN q2) ((Fr11.refl (fun _=>False) (wr) |>.drewN q2).own HO2.out fun _ _=>id) (by omega) (by omega));have HU2:Hid (Dn11 (sw11 l' i x) n x):=zhy (HU.out.step HC.out (by rw [HL.out];omega) hlt);have HP2:Hid ((sw11 l' i x).Perm l):=zhy ((sw11_perm (by rw [HL.out];omega) (by rw [HL.out];omega)).trans HP.out);have HE2:Hid (∀k,n≤k→g11 (sw11 l' i x) k=g11 l k):=zhy fun k hk=>by rw [g11_sw (by rw [HL.out];omega) (by rw [HL.out];omega),if_neg (by omega),if_neg (by omega)];exact HE.out k hk
     clear HLE2 hlt hml2;go_wp2_with fail;refine HSW.out.mono ?_;rintro r w3 ⟨rfl,ho,hf⟩;have HB3:Hid (Hb11 w3 N B (some ⟨g,0,none⟩) c (sw11 l' i x)):=zhy ⟨by rw [sw11_len];exact hf.box ((HB.out).drewN q2).box (fun e=>Boxed.not_row HB.out.box (by decide) HB.out.own (by rw [e];rfl)),by rw [sw11_len,HL.out];exact ho⟩;have HF3:Hid (Fr11 (fun k=>k=g) w w3):=zhy ((HF.out.drewN q2).trans hf fun _ _ h=>h);clear ho hf HSW hms;go_wp2_with fail;go_roundw
     case rel=>exact ⟨x,_,rfl,by omega,HB3,HP2,HU2,HE2,HF3⟩
     case measure=>simp [intOf];omega
    ·have hd:decide (g11 l' x<g11 l' i)=false:=by simpa using hlt
     have HD:=zhy (HU.out.done HC.out hlt);clear HLE2 hlt hms hml2;go_wp2_with fail;go_ret;exact ⟨_,rfl,l',(HB.out).drewN q2,HP.out,HD.out,HE.out,HF.out.drewN q2⟩
def clr {α:Type} (f:α→List Value) (L:List α):List Value:=L.flatMap f
section
variable {α : Type} {f : α → List Value} {m : Nat}
theorem clr_len (hm:∀x,(f x).length=m):∀L:List α,(clr f L).length=L.length*m
 | []=>by simp [clr]
 | x::L=>by
  have:=clr_len hm L;unfold clr at this ⊢;rw [List.flatMap_cons,List.length_append,this,hm,List.length_cons,Nat.add_mul];omega
theorem clr_append (L M:List α):clr f (L++M)=clr f L++clr f M:=by simp [clr]
theorem clr_at (hm:∀x,(f x).length=m) {j:Nat} (hj:j<m):∀{L:List α} {i:Nat} {x:α},L[i]?=some x→(clr f L)[i*m+j]?=(f x)[j]?
 | [],i,x,h=>by simp at h
 | y::L,0,x,h=>by
  simp at h;subst h;rw [clr,List.flatMap_cons,Nat.zero_mul,Nat.zero_add,List.getElem?_append_left (by rw [hm];exact hj)]
 | y::L,i+1,x,h=>by
  have:=clr_at hm hj (L:=L) (i:=i) (x:=x) (by simpa using h);rw [clr,List.flatMap_cons,List.getElem?_append_right (by rw [hm,Nat.add_mul];omega),hm,←clr,show (i+1)*m+j-m=i*m+j by rw [Nat.add_mul];omega];exact this
theorem clr_set (hm:∀x,(f x).length=m) {L:List α} {i:Nat} {x y:α} (h:L[i]?=some x) {j:Nat} (hj:j<m) {u:Value} (hy:f y=(f x).set j u):(clr f L).set (i*m+j) u=clr f (L.set i y):=by
 have hi:=(zg8.1 h).1;apply List.ext_getElem?;intro k;by_cases hk:k<L.length*m
 ·have hm0:0<m:=by omega
  have hk2:k / m<L.length:=(Nat.div_lt_iff_lt_mul hm0).2 hk;have e:k=k / m*m+k % m:=by rw [Nat.mul_comm];exact (Nat.div_add_mod k m).symm
  have hr:=Nat.mod_lt k hm0;by_cases hki:k / m=i
  ·have h2:(L.set i y)[k / m]?=some y:=by rw [hki,List.getElem?_set_self hi]
   have h3:=clr_at hm hr h2;rw [←e] at h3;rw [h3,hy];by_cases hkj:k % m=j
   ·have:k=i*m+j:=by rw [←hki,←hkj];exact e
    rw [this,List.getElem?_set_self (by rw [clr_len hm];omega),←this,hkj,List.getElem?_set_self (by rw [hm];exact hj)]
   ·have:i*m+j≠k:=fun h'=>hkj (by rw [←h',Nat.mul_comm i m,Nat.mul_add_mod,Nat.mod_eq_of_lt hj]);rw [List.getElem?_set_ne this,List.getElem?_set_ne (fun h'=>hkj h'.symm)];have h4:=clr_at hm hr (show L[k / m]?=some x by rw [hki];exact h);rw [←e] at h4;exact h4
  ·have h2:(L.set i y)[k / m]?=some L[k / m]:=by rw [List.getElem?_set_ne (fun h'=>hki h'.symm),zg7 hk2]
   have h3:=clr_at hm hr h2;have h4:=clr_at hm hr (zg7 hk2);rw [←e] at h3 h4;have:i*m+j≠k:=fun h'=>hki (by rw [←h',Nat.mul_comm i m,Nat.mul_add_div hm0,Nat.div_eq_of_lt hj,Nat.add_zero]);rw [List.getElem?_set_ne this,h4,h3]
 ·rw [List.getElem?_eq_none (by rw [List.length_set,clr_len hm];omega),List.getElem?_eq_none (by rw [clr_len hm,List.length_set];omega)]
def Rg (f:α→List Value) (m:Nat) (w:World) (A:Option Addr) (c:Nat) (L:List α):Prop:=L.length≤c∧c≤maxLen∧((A=none∧L=[])∨∃g,A=some ⟨g,0,none⟩∧g<w.heap.size∧∀j u,(clr f L)[j]?=some u→w.cell? ⟨g,j,none⟩=some u)
theorem Rg.keep {w w':World} {A:Option Addr} {c:Nat} {L:List α} (h:Rg f m w A c L) (hb:Below w.heap.size w w'):Rg f m w' A c L:=by
 refine ⟨h.1,h.2.1,?_⟩;rcases h.2.2 with h1 | ⟨g,hA,hg,hc⟩
 ·exact .inl h1
 ·exact .inr ⟨g,hA,Nat.lt_of_lt_of_le hg hb.size,fun j u hj=>(hb.cell (cell_lt (hc j u hj))).trans (hc j u hj)⟩
theorem Rg.of_own {w:World} {A:Option Addr} {c base e:Nat} {n:Nat} {L:List α} (hm:∀x,(f x).length=m) (hm0:0<m) (h:w.ownsRow base e m (.slice A n c) n (clr f L)):Rg f m w A c L∧n=L.length:=by
 have hn:n=L.length:=by have:=h.1;rw [clr_len hm] at this;exact (Nat.eq_of_mul_eq_mul_right hm0 this).symm
 have hc:=fun g (hg:A=some ⟨g,0,none⟩) j u (hj:(clr f L)[j]?=some u)=>(by subst hg;have:=h.cells (g:=g) rfl j u hj;exact this:w.cell? ((⟨g,0,none⟩:Addr).add j)=some u);refine ⟨?_,hn⟩;rcases h.2 with ⟨hv,h0⟩ | ⟨g,cap,cur,hv,_,hh,hcap,hmx,_⟩
 ·injection hv with e1 e2 e3;have:L=[]:=List.eq_nil_of_length_eq_zero (by omega);exact ⟨by omega,by unfold maxLen;omega,.inl ⟨e1,this⟩⟩
 ·injection hv with e1 e2 e3;refine ⟨by omega,by omega,.inr ⟨g,e1,(zg9.1 hh).1,fun j u hj=>?_⟩⟩;have:=hc g e1 j u hj;unfold Addr.add at this;split at this
  ·rename_i h0;subst h0;exact this
  ·simpa using this
theorem Rg.at_ {w:World} {A:Option Addr} {c:Nat} {L:List α} (hm:∀x,(f x).length=m) (h:Rg f m w A c L) {i:Nat} {x:α} (hx:L[i]?=some x):∃g,A=some ⟨g,0,none⟩∧g<w.heap.size∧∀j,j<m→w.cell? ⟨g,i*m+j,none⟩=(f x)[j]?:=by
 rcases h.2.2 with ⟨_,h1⟩ | ⟨g,hA,hg,hc⟩
 ·subst h1;simp at hx
 ·refine ⟨g,hA,hg,fun j hj=>?_⟩;have h1:=clr_at hm hj hx;have h2:(f x)[j]?=some ((f x)[j]'(by rw [hm];exact hj)):=zg7 _;rw [h2] at h1 ⊢;exact hc _ _ h1
end
def cl4 (x:Kl12):List Value:=[.int .i64 x.1,.int .i64 x.2.1,.bool x.2.2.1,.int .i64 x.2.2.2]
theorem cl4_len (x:Kl12):(cl4 x).length=4:=rfl
def ce3 (x:Ce):List Value:=[.int .i64 x.1,.int .i64 x.2.1,.int .i64 x.2.2]
theorem ce3_len (x:Ce):(ce3 x).length=3:=rfl
structure Az where
 c:Ce
 A:Option Addr
 k:Nat
 L:List Kl12
def az4 (z:Az):List Value:=[.int .i64 z.c.1,.int .i64 z.c.2.1,.int .i64 z.c.2.2,.slice z.A z.L.length z.k]
theorem az4_len (z:Az):(az4 z).length=4:=rfl
def Az.ok (w:World) (z:Az):Prop:=Rg cl4 4 w z.A z.k z.L
def Ax (w:World) (X:Nat) (c:Ce) (v:Value):Prop:=w.heap[X]?=some (.cells #[.int .i64 c.1,.int .i64 c.2.1,.int .i64 c.2.2,v] 105 (0,0))
section
variable {w w' : World} {X : Nat} {c : Ce} {v : Value}
theorem Ax.lt (h:Ax w X c v):X<w.heap.size:=(zg9.1 h).1
theorem Ax.keep (h:Ax w X c v) (hb:Below w.heap.size w w'):Ax w' X c v:=(hb.block X h.lt).trans h
theorem Ax.new (w:World) (c:Ce) (v:Value):Ax (w.alloc (.cells #[.int .i64 c.1,.int .i64 c.2.1,.int .i64 c.2.2,v] 105)) w.heap.size c v:=heap_alloc_last w _
theorem Ax.cells (h:Ax w X c v):w.cell? ⟨X,0,none⟩=some (.int .i64 c.1)∧w.cell? ⟨X,1,none⟩=some (.int .i64 c.2.1)∧w.cell? ⟨X,2,none⟩=some (.int .i64 c.2.2)∧w.cell? ⟨X,3,none⟩=some v ∧
  w.frozen? ⟨X,0,none⟩=false∧w.frozen? ⟨X,1,none⟩=false∧w.frozen? ⟨X,2,none⟩=false∧w.frozen? ⟨X,3,none⟩=false:=by
 refine ⟨?_,?_,?_,?_,frozen_of_row w X 0 _ _ h,frozen_of_row w X 1 _ _ h,frozen_of_row w X 2 _ _ h,frozen_of_row w X 3 _ _ h⟩<;>rw [cell_of_row w X _ _ _ (0,0) h]<;>rfl
theorem Ax.set0 (h:Ax w X c v) (n:Int):Ax (w.setCell ⟨X,0,none⟩ (.int .i64 n)) X (n,c.2) v:=by
 unfold Ax;rw [heap_setCell_same w X 0 _ _ _ h];rfl
theorem Ax.set1 (h:Ax w X c v) (n:Int):Ax (w.setCell ⟨X,1,none⟩ (.int .i64 n)) X (c.1,n,c.2.2) v:=by
 unfold Ax;rw [heap_setCell_same w X 1 _ _ _ h];rfl
theorem Ax.set2 (h:Ax w X c v) (n:Int):Ax (w.setCell ⟨X,2,none⟩ (.int .i64 n)) X (c.1,c.2.1,n) v:=by
 unfold Ax;rw [heap_setCell_same w X 2 _ _ _ h];rfl
theorem Ax.set3 (h:Ax w X c v) (u:Value):Ax (w.setCell ⟨X,3,none⟩ u) X c u:=by
 unfold Ax;rw [heap_setCell_same w X 3 _ _ _ h];rfl
theorem Ax.other (h:Ax w X c v) {p:Addr} (hp:p.block≠X) (u:Value):Ax (w.setCell p u) X c v:=(Below.heap_setCell w p u X (fun e=>hp e.symm)).trans h
end
abbrev Fx (X:Nat) (w w':World):Prop:=Fr11 (·=X) w w'
theorem Fx.below {X:Nat} {w w':World} (h:Fx X w w') {B:Nat} (hB:B≤X) (hw:B≤w.heap.size):Below B w w':=Fr11.below h fun j hj=>⟨by omega,by omega⟩
theorem wrap_small {x:Int} (h:-9223372036854775808≤x∧x≤9223372036854775807):IntKind.i64.wrap x=x:=by
 simp [IntKind.wrap,IntKind.signed,IntKind.bits,go_sem];omega
theorem add12_v (X:Nat) (c:Ce) (v:Value) (f s h n:Int) (w:World) (hx:Ax w X c v) (b1:0≤f*n∧f*n≤1000000000000000000) (b2:0≤h*n∧h*n≤1000000000000000000) (b3:0≤c.1∧c.1≤1000000000000000000) (b4:0≤c.2.2∧c.2.2≤1000000000000000000) :
  Calls Tryz.prog 103 #[.pointer (some ⟨X,0,none⟩),.agg #[.int .i64 f,.int .i64 s,.int .i64 h],.int .i64 n] w fun e w'=>e=.returned (.tuple #[])∧Ax w' X (c.1+f*n,c.2.1,c.2.2+h*n) v∧Fx X w w':=by
 have hlt:=hx.lt
 have e1:IntKind.i64.wrap (f*n)=f*n:=wrap_small (by omega)
 have e2:IntKind.i64.wrap (h*n)=h*n:=wrap_small (by omega)
 have e3:IntKind.i64.wrap (c.1+f*n)=c.1+f*n:=wrap_small (by omega)
 have e4:IntKind.i64.wrap (c.2.2+h*n)=c.2.2+h*n:=wrap_small (by omega)
 have HX:=zhy hx
 clear hx b1 b2 b3 b4
 go_enter Tryz.func103,Tryz.ntmps103
 go_upto_region 1 with (fail)
 have H1:=zhy (HX.out.keep (w':=w.alloc (.cells #[.int .i64 f,.int .i64 s,.int .i64 h] 39)) new1)
 have HB:Hid (Fx X w (w.alloc (.cells #[.int .i64 f,.int .i64 s,.int .i64 h] 39))):=zhy ((Fr11.refl _ _).alloc _)
 obtain ⟨B,hB⟩:∃B,w.heap.size=B:=⟨_,rfl⟩
 have hlt2:X<B:=by omega
 have hc:(w.alloc (.cells #[.int .i64 f,.int .i64 s,.int .i64 h] 39)).cell? ⟨B,0,none⟩=some (.int .i64 f)∧(w.alloc (.cells #[.int .i64 f,.int .i64 s,.int .i64 h] 39)).cell? ⟨B,2,none⟩=some (.int .i64 h):=by
  rw [←hB];constructor<;>simp [go_sem]
 obtain ⟨c0,c2⟩:=hc
 rw [hB] at *
 generalize w.alloc (.cells #[.int .i64 f,.int .i64 s,.int .i64 h] 39)=w1 at H1 HB c0 c2 ⊢
 obtain ⟨x0,x1,x2,x3,y0,y1,y2,y3⟩:=H1.out.cells
 go_region
 go_upto_region 2 with (fail)
 have H2:Hid (Ax (w1.setCell ⟨X,0,none⟩ (.int .i64 (c.1+f*n))).drew X (c.1+f*n,c.2) v):=zhy (H1.out.set0 _)
 have HB2:Hid (Fx X w (w1.setCell ⟨X,0,none⟩ (.int .i64 (c.1+f*n))).drew):=zhy ((HB.out.set (p:=⟨X,0,none⟩) (.inr rfl) _).drewN 1)
 have hBX:B≠X:=by omega
 have c3:(w1.setCell ⟨X,0,none⟩ (.int .i64 (c.1+f*n))).drew.cell? ⟨B,2,none⟩=some (.int .i64 h):=by
  have:(w1.setCell ⟨X,0,none⟩ (.int .i64 (c.1+f*n))).cell? ⟨B,2,none⟩=some (.int .i64 h):=by
   rw [World.cell?_setCell_other _ _ _ _ (fun e=>by injection e with e _;exact hBX e.symm)];exact c2
  exact this
 generalize (w1.setCell ⟨X,0,none⟩ (.int .i64 (c.1+f*n))).drew=w2 at H2 HB2 c3 ⊢
 clear x0 x1 x2 x3 y0 y1 y2 y3 c0 c2 HB H1
 obtain ⟨x0,x1,x2,x3,y0,y1,y2,y3⟩:=H2.out.cells
 dsimp only at x0 x1 x2
 go_region
 go_wp2_with fail
 go_end0
 exact ⟨rfl,H2.out.set2 _,(HB2.out.set (p:=⟨X,2,none⟩) (.inr rfl) _).drewN 1⟩
theorem rise12_v (X:Nat) (c:Ce) (v:Value) (n:Int) (w:World) (hx:Ax w X c v) (hn:-9223372036854775808≤n∧n≤9223372036854775807) :
  Calls Tryz.prog 104 #[.pointer (some ⟨X,0,none⟩),.int .i64 n] w fun e w'=>e=.returned (.tuple #[])∧Ax w' X (c.1,max c.2.1 n,c.2.2) v∧Fx X w w':=by
 have HX:=zhy hx
 have HB:Hid (Fx X w w):=zhy (Fr11.refl _ _)
 obtain ⟨x0,x1,x2,x3,y0,y1,y2,y3⟩:=hx.cells
 clear hx
 go_enter Tryz.func104,Tryz.ntmps104
 go_wp2_with fail
 ·have h:=‹_<_›
  have HM:Hid (max c.2.1 n=n):=zhy (by omega)
  go_end0
  exact ⟨rfl,by rw [HM.out];exact HX.out.set1 n,HB.out.set (p:=⟨X,1,none⟩) (.inr rfl) _⟩
 ·have h:=‹n≤c.2.1›
  have HM:Hid (max c.2.1 n=c.2.1):=zhy (by omega)
  go_end0
  exact ⟨rfl,by rw [HM.out];exact HX.out.set1 c.2.1,HB.out.set (p:=⟨X,1,none⟩) (.inr rfl) _⟩
abbrev cv (c:Ce):Value:=.agg #[.int .i64 c.1,.int .i64 c.2.1,.int .i64 c.2.2]
theorem within12_v (n a b:Int) (w:World):Calls Tryz.prog 105 #[.int .i64 n,.int .i64 a,.int .i64 b] w fun e w'=>e=.returned (.bool (wi12 n a b))∧w'=w:=by
 by_cases h0:0≤n
 ·have e0:decide (0≤n)=true:=by simpa using h0
  obtain ⟨v,hv⟩:∃v,wi12 n a b=v:=⟨_,rfl⟩;have HV:Hid (wi12 n a b=v):=zhy hv;have HW:Hid (decide (n≤min a b)=v):=zhy (by rw [←hv,wi12,e0,Bool.true_and]);rw [hv];clear hv;go_enter Tryz.func105,Tryz.ntmps105;go_wp2_with fail
  ·have h:=‹b<a›;have HD:Hid (decide (n≤b)=v):=zhy (by rw [←HW.out];congr 1;rw [Int.min_def,if_neg (by omega)]);go_ret;exact ⟨by rw [←HD.out];rfl,rfl⟩
  ·have h:=‹a≤b›;have HD:Hid (decide (n≤a)=v):=zhy (by rw [←HW.out];congr 1;rw [Int.min_def,if_pos h]);go_ret;exact ⟨by rw [←HD.out];rfl,rfl⟩
 ·have e0:decide (0≤n)=false:=by simpa using h0
  have HW:Hid (wi12 n a b=false):=zhy (by rw [wi12,e0,Bool.false_and]);go_enter Tryz.func105,Tryz.ntmps105;go_wp2_with fail;go_ret;exact ⟨by rw [HW.out];rfl,rfl⟩
theorem fits12_v (c:Ce) (x:Mc) (m:Mh) (w:World):Calls Tryz.prog 59 #[cv c,mv x m] w fun e w'=>e=.returned (.bool (fi12 c m))∧Below w.heap.size w w':=by
 obtain ⟨cf,cs,ch⟩:=c;have HB:Hid (Below w.heap.size w ((w.alloc (.cells #[.int .i64 cf,.int .i64 cs,.int .i64 ch] 39)).alloc (hcel x m))):=zhy (new1.trans (new1.mono (by simp)));obtain ⟨v1,h1⟩:∃v,wi12 cf m.f 1048576=v:=⟨_,rfl⟩;obtain ⟨v2,h2⟩:∃v,wi12 cs m.s 256=v:=⟨_,rfl⟩;obtain ⟨v3,h3⟩:∃v,wi12 ch m.h 1024=v:=⟨_,rfl⟩;have HV:Hid (fi12 (cf,cs,ch) m=(v1&&(v2&&v3))):=zhy (by rw [fi12,h1,h2,h3]);rw [HV.out];have H1:=fun w=>zhy (within12_v cf m.f 1048576 w);have H2:=fun w=>zhy (within12_v cs m.s 256 w);have H3:=fun w=>zhy (within12_v ch m.h 1024 w);rw [h1] at H1;rw [h2] at H2;rw [h3] at H3;clear h1 h2 h3;go_enter Tryz.func59,Tryz.ntmps59;go_upto_region 1 with (fail);go_wp2_with fail;refine (H1 _).out.mono ?_;rintro e w' ⟨rfl,rfl⟩;cases v1 with
 | false =>
  go_wp2_with fail;go_ret;exact ⟨rfl,HB.out⟩
 | true =>
  go_wp2_with fail;refine (H2 _).out.mono ?_;rintro e w' ⟨rfl,rfl⟩;cases v2 with
  | false =>
   go_wp2_with fail;go_ret;exact ⟨rfl,HB.out⟩
  | true =>
   go_wp2_with fail;refine (H3 _).out.mono ?_;rintro e w' ⟨rfl,rfl⟩;go_wp2_with fail;go_ret;exact ⟨by simp,HB.out⟩
structure Rx where
 r:Bool
 A:Option Addr
 c:Nat
 K:List Int
abbrev rz (z:Rx):Rz:=(z.r,z.K)
def At2 (w:World) (p:Addr) (z:Rx):Prop:=w.cell? p=some (.bool z.r)∧w.cell? ⟨p.block,p.off+1,none⟩=some (.slice z.A z.K.length z.c)
def Rw (w:World) (A:Option Addr) (c:Nat) (Z:List Rx):Prop:=(∀z∈Z,Rd w z.A z.c z.K)∧Z.length≤c∧c≤maxLen∧((A=none∧c=0)∨∃ad:Addr,A=some ad∧∀i z,Z[i]?=some z→At2 w (ad.add (i*2)) z)
theorem At2.keep {w w':World} {p:Addr} {z:Rx} (h:At2 w p z) (hb:Below w.heap.size w w'):At2 w' p z:=⟨(hb.cell (cell_lt h.1)).trans h.1,(hb.cell (cell_lt h.2)).trans h.2⟩
theorem Rw.keep {w w':World} {A:Option Addr} {c:Nat} {Z:List Rx} (h:Rw w A c Z) (hb:Below w.heap.size w w'):Rw w' A c Z:=by
 refine ⟨fun z hz=>(h.1 z hz).keep hb,h.2.1,h.2.2.1,?_⟩;rcases h.2.2.2 with hn | ⟨ad,ha,hc⟩
 ·exact .inl hn
 ·exact .inr ⟨ad,ha,fun i z hz=>(hc i z hz).keep hb⟩
theorem Rw.at_ {w:World} {A:Option Addr} {c:Nat} {Z:List Rx} (h:Rw w A c Z) {i:Nat} {z:Rx} (hz:Z[i]?=some z):∃ad:Addr,A=some ad∧At2 w (ad.add (i*2)) z∧Rd w z.A z.c z.K:=by
 rcases h.2.2.2 with ⟨_,hc⟩ | ⟨ad,ha,hc⟩
 ·have:=h.2.1;have:=(zg8.1 hz).1;omega
 ·exact ⟨ad,ha,hc i z hz,h.1 z (List.mem_of_getElem? hz)⟩
abbrev fRw (A:Option Addr) (c:Nat) (Z:List Rx):Fct:=⟨fun w=>Rw w A c Z,fun _ _ h hb=>h.keep hb⟩
theorem hg10_take {Z:List Rx} {i:Nat} {z:Rx} (h:Z[i]?=some z):hg10 ((Z.take (i+1)).map rz)=max (hg10 ((Z.take i).map rz)) z.K.length:=by
 rw [List.take_add_one,h];simp [hg10]
def cer (Z:List Rx):List Value:=Z.flatMap fun z=>[.bool z.r,.slice z.A z.K.length z.c]
theorem cer_cons (z:Rx) (Z:List Rx):cer (z::Z)=.bool z.r::.slice z.A z.K.length z.c::cer Z:=by simp [cer]
theorem length_cer (Z:List Rx):(cer Z).length=Z.length*2:=by
 induction Z with
 | nil=>rfl
 | cons z Z ih=>rw [cer_cons];simp [ih];omega
theorem cer_at:∀{Z:List Rx} {i:Nat} {z:Rx},Z[i]?=some z→(cer Z)[i*2]?=some (.bool z.r)∧(cer Z)[i*2+1]?=some (.slice z.A z.K.length z.c)
 | y::Z,0,z,h=>by
  simp at h;subst h;rw [cer_cons];exact ⟨rfl,rfl⟩
 | y::Z,i+1,z,h=>by
  obtain ⟨h1,h2⟩:=cer_at (Z:=Z) (i:=i) (by simpa using h);rw [cer_cons,show (i+1)*2=i*2+1+1 by omega,show i*2+1+1+1=(i*2+1)+1+1 by omega];simp only [List.getElem?_cons_succ];exact ⟨h1,h2⟩
theorem cer_setr:∀{Z:List Rx} {i:Nat} {z:Rx} (r:Bool),Z[i]?=some z→(cer Z).set (i*2) (.bool r)=cer (Z.set i { z with r:=r })
 | y::Z,0,z,r,h=>by
  simp at h;subst h;rw [List.set_cons_zero,cer_cons,cer_cons];rfl
 | y::Z,i+1,z,r,h=>by
  have ih:=cer_setr (Z:=Z) (i:=i) (z:=z) r (by simpa using h);rw [List.set_cons_succ,cer_cons,cer_cons,←ih,show (i+1)*2=i*2+1+1 by omega];rfl
theorem cer_setk:∀{Z:List Rx} {i:Nat} {z:Rx} (A:Option Addr) (c:Nat) (K:List Int),Z[i]?=some z→(cer Z).set (i*2+1) (.slice A K.length c)=cer (Z.set i ⟨z.r,A,c,K⟩)
 | y::Z,0,z,A,c,K,h=>by
  simp at h;subst h;rw [List.set_cons_zero,cer_cons,cer_cons];rfl
 | y::Z,i+1,z,A,c,K,h=>by
  have ih:=cer_setk (Z:=Z) (i:=i) (z:=z) A c K (by simpa using h);rw [List.set_cons_succ,cer_cons,cer_cons,←ih,show (i+1)*2+1=i*2+1+1+1 by omega];rfl
def Wr (w:World) (t g:Nat) (Z:List Rx):Prop:=w.heap[g]?=some (.cells (cer Z).toArray t (0,0))∧∀z∈Z,Rd w z.A z.c z.K
theorem cer_no (Z:List Rx):∀u∈cer Z,∀kd x,u≠.int kd x:=by
 intro u hu kd x e;simp only [cer,List.mem_flatMap] at hu;obtain ⟨z,-,hz⟩:=hu;subst e;simp at hz
section
variable {w w' : World} {t g : Nat} {Z : List Rx}
theorem Wr.lt (h:Wr w t g Z):g<w.heap.size:=(zg9.1 h.1).1
theorem Wr.keep (h:Wr w t g Z) (hb:Below w.heap.size w w'):Wr w' t g Z:=⟨(hb.block g h.lt).trans h.1,fun z hz=>(h.2 z hz).keep hb⟩
theorem Wr.cell0 (h:Wr w t g Z) {i:Nat} {z:Rx} (hz:Z[i]?=some z):w.cell? ⟨g,i*2,none⟩=some (.bool z.r):=by
 rw [cell_of_row w g _ _ _ (0,0) h.1,List.getElem?_toArray];exact (cer_at hz).1
theorem Wr.cell1 (h:Wr w t g Z) {i:Nat} {z:Rx} (hz:Z[i]?=some z):w.cell? ⟨g,i*2+1,none⟩=some (.slice z.A z.K.length z.c):=by
 rw [cell_of_row w g _ _ _ (0,0) h.1,List.getElem?_toArray];exact (cer_at hz).2
theorem Wr.froz (h:Wr w t g Z) (i:Nat):w.frozen? ⟨g,i,none⟩=false:=frozen_of_row w g i _ _ h.1
theorem Wr.no_int (h:Wr w t g Z) {p:Addr} {kd:IntKind} {x:Int} (hp:w.cell? p=some (.int kd x)):p.block≠g:=by
 intro e;obtain ⟨b,o,sp⟩:=p;subst e
 have hc:sp=none→(cer Z)[o]?=some (.int kd x):=fun e=>by
  subst e;rw [cell_of_row w _ _ _ _ (0,0) h.1,List.getElem?_toArray] at hp;exact hp
 cases sp with
 | none=>exact cer_no Z _ (List.mem_of_getElem? (hc rfl)) kd x rfl
 | some s=>simp [World.cell?,h.1] at hp
theorem Rd.past {A:Option Addr} {c:Nat} {K:List Int} (h:Rd w A c K) (hw:Wr w t g Z) (j:Nat) (v:Value):Rd (w.setCell ⟨g,j,none⟩ v) A c K:=by
 refine ⟨h.1,h.2.1,h.2.2.1,?_⟩;rcases h.2.2.2 with hn | ⟨ad,ha,hc⟩
 ·exact .inl hn
 ·refine .inr ⟨ad,ha,fun i x hx=>?_⟩;have:=hc i x hx;rw [World.cell?_setCell_other _ _ _ _ (fun e=>hw.no_int this (by rw [←e]))];exact this
theorem Wr.setr (h:Wr w t g Z) {i:Nat} {z:Rx} (hz:Z[i]?=some z) (r:Bool):Wr (w.setCell ⟨g,i*2,none⟩ (.bool r)) t g (Z.set i { z with r:=r }):=by
 refine ⟨?_,fun u hu=>?_⟩
 ·rw [heap_setCell_same w g _ _ _ _ h.1,←cer_setr r hz];simp
 ·rcases List.mem_or_eq_of_mem_set hu with hu | rfl
  ·exact (h.2 u hu).past h _ _
  ·exact (h.2 z (List.mem_of_getElem? hz)).past h _ _
theorem Wr.setk (h:Wr w t g Z) {i:Nat} {z:Rx} (hz:Z[i]?=some z) {A:Option Addr} {c:Nat} {K:List Int} (hk:Rd w A c K):Wr (w.setCell ⟨g,i*2+1,none⟩ (.slice A K.length c)) t g (Z.set i ⟨z.r,A,c,K⟩):=by
 refine ⟨?_,fun u hu=>?_⟩
 ·rw [heap_setCell_same w g _ _ _ _ h.1,←cer_setk A c K hz];simp
 ·rcases List.mem_or_eq_of_mem_set hu with hu | rfl
  ·exact (h.2 u hu).past h _ _
  ·exact hk.past h _ _
theorem Wr.rw (h:Wr w t g Z) {m:Nat} (hm:Z.length=m) (hl:m≤1000000):Rw w (some ⟨g,0,none⟩) m Z:=by
 refine ⟨h.2,by omega,by unfold maxLen;omega,.inr ⟨_,rfl,fun i z hz=>?_⟩⟩
 have e:∀k,(⟨g,0,none⟩:Addr).add k=⟨g,k,none⟩:=fun k=>by
  unfold Addr.add;split
  ·rename_i h0;simp [h0]
  ·simp
 rw [At2,e];exact ⟨h.cell0 hz,h.cell1 hz⟩
end
abbrev fWr (t g:Nat) (Z:List Rx):Fct:=⟨fun w=>Wr w t g Z,fun _ _ h hb=>h.keep hb⟩
abbrev fC1 (p:Addr) (v:Value):Fct:=⟨fun w=>w.cell? p=some v,fun _ _ h hb=>(hb.cell (cell_lt h)).trans h⟩
def zx10:Rx:=⟨false,none,0,[]⟩
theorem sequal_v (A B:Option Addr) (c d n m:Nat) (l k:List Int) (v:Bool) (w:World) (hr:Rd w A c l) (hs:Rd w B d k) (hn:l.length=n) (hm:k.length=m) (hv:(l==k)=v) :
  Calls Tryz.prog 200 #[.slice A n c,.slice B m d] w fun e w'=>e=.returned (.bool v)∧Below w.heap.size w w':=by
 subst hn hm
 have hlen:=hr.len
 have hlen2:=hs.len
 have HR:=zhy hr
 have HS:=zhy hs
 have HV:=zhy hv
 clear hr hs hv
 by_cases hl:l.length=k.length
 ·go_enter Tryz.func200,Tryz.ntmps200
  go_wp2_with fail
  go_loopw [13] (fun i wr=>∃j:Nat,j≤l.length∧i=.int .i64 j∧Hid (l.take j=k.take j)∧Hid (Below w.heap.size w wr)) (fun i _=>l.length-(intOf i).toNat)
  case atStart=>exact ⟨0,by omega,rfl,rfl,Below.refl _ _⟩
  case round =>
   obtain ⟨j,hj,rfl,HT,HB⟩:=hrel
   by_cases h1:j<l.length
   ·have h2:j<k.length:=by omega
    obtain ⟨ad,rfl,hc⟩:=(HR.out.keep HB.out).at_ h1
    obtain ⟨bd,rfl,hd⟩:=(HS.out.keep HB.out).at_ h2
    rw [zg7 h1] at hc
    rw [zg7 h2] at hd
    simp only [Option.getD_some] at hc hd
    by_cases hx:l[j]=k[j]
    ·have HN:=zhy (take_eq h1 h2 hx HT.out)
     clear HT
     rw [←hx] at hd
     clear hx
     generalize l[j]=x at *
     go_wp2_with fail
     go_quiet (fail)
     go_wp2_with fail
     go_roundw
     case rel=>exact ⟨j+1,by omega,by go_num,HN,zhy (below_draws HB.out _)⟩
     case measure=>simp [intOf];omega
    ·have HN:Hid (v=false):=by rw [Hid,←HV.out];exact beq_no (take_ne h1 h2 hx)
     clear HT
     generalize l[j]=x at *
     generalize k[j]=y at *
     go_wp2_with fail
     go_quiet (fail)
     go_wp2_with fail
     go_ret
     exact ⟨by rw [HN.out];rfl,below_draws HB.out _⟩
   ·obtain rfl:j=l.length:=by omega
    have HN:Hid (v=true):=by
     rw [Hid,←HV.out];have:=HT.out;rw [List.take_length,hl,List.take_length] at this;simpa using this
    clear HT
    go_wp2_with fail
    go_ret
    exact ⟨by rw [HN.out];rfl,HB.out⟩
 ·have HN:Hid (v=false):=by rw [Hid,←HV.out];exact beq_no (fun e=>hl (by rw [e]))
  go_enter Tryz.func200,Tryz.ntmps200
  go_wp2_with fail
  go_ret
  exact ⟨by rw [HN.out];rfl,Below.refl _ _⟩
theorem Ri.at9 {w:World} {A:Option Addr} {c:Nat} {L:List Ins} (h:Ri w A c L) {i:Nat} {o a z:Int} (hx:L[i]?=some (o,a,z)):∃ad:Addr,A=some ad∧w.cell? (ad.add (i*3))=some (.int .u8 o)∧w.cell? ⟨(ad.add (i*3)).block,(ad.add (i*3)).off+1,none⟩=some (.int .i64 a)∧w.cell? ⟨(ad.add (i*3)).block,(ad.add (i*3)).off+2,none⟩=some (.int .i64 z):=by
 obtain ⟨hi,he⟩:=zg8.1 hx;obtain ⟨ad,hA,h1,h2,h3⟩:=h.at_ hi;rw [he] at h1 h2 h3;exact ⟨ad,hA,h1,h2,h3⟩
end Go.Proofs.YtnjgkkoiamiaaaaGreatDoor
