import Derived.Test.YtnjgkkoiamiaaaaGreatDoorVma1
import Derived.Test.YtnjgkkoiamiaaaaGreatDoorVma10
import Derived.Maps.OwnSet
import Derived.Maps.OwnOps
import Derived.RangeFuncBox
import Derived.BigQuiet
set_option maxRecDepth 100000
set_option maxHeartbeats 16000000
set_option linter.unusedSimpArgs false
set_option linter.unusedVariables false
namespace Go.Proofs.YtnjgkkoiamiaaaaGreatDoor
open Go.RowKit
structure Fr11 (X:Nat→Prop) (w w':World):Prop where
 os:w'.os=w.os
 tape:w'.tape=w.tape
 output:w'.output=w.output
 size:w.heap.size≤w'.heap.size
 block:∀j,j<w.heap.size→¬X j→w'.heap[j]?=w.heap[j]?
section
variable {X Y : Nat → Prop} {w w' w2 : World}
theorem Fr11.refl (X:Nat→Prop) (w:World):Fr11 X w w:=⟨rfl,rfl,rfl,Nat.le_refl _,fun _ _ _=>rfl⟩
theorem Fr11.trans (h:Fr11 X w w') (k:Fr11 Y w' w2) (hY:∀j,j<w.heap.size→Y j→X j):Fr11 X w w2:=
 ⟨k.os.trans h.os,k.tape.trans h.tape,k.output.trans h.output,Nat.le_trans h.size k.size,fun j hj hx=>(k.block j (Nat.lt_of_lt_of_le hj h.size) fun hy=>hx (hY j hj hy)).trans (h.block j hj hx)⟩
theorem Fr11.mono (h:Fr11 X w w') (hX:∀j,X j→Y j):Fr11 Y w w':=⟨h.os,h.tape,h.output,h.size,fun j hj hy=>h.block j hj fun hx=>hy (hX j hx)⟩
theorem Fr11.drewN (h:Fr11 X w w') (q:Nat):Fr11 X w (w'.drewN q):=by
 refine ⟨?_,?_,?_,?_,fun j hj hx=>?_⟩<;>induction q with
 | zero=>first | exact h.os | exact h.tape | exact h.output | exact h.size | exact h.block j hj hx
 | succ q ih=>exact ih
theorem Fr11.alloc (h:Fr11 X w w') (o:Obj):Fr11 X w (w'.alloc o):=by
 refine ⟨h.os,h.tape,h.output,?_,fun j hj hx=>?_⟩
 ·rw [size1];exact Nat.le_succ_of_le h.size
 ·exact (Below.heap_alloc w' o j (Nat.lt_of_lt_of_le hj h.size)).trans (h.block j hj hx)
theorem Fr11.set (h:Fr11 X w w') {p:Addr} (hp:w.heap.size≤p.block∨X p.block) (u:Value):Fr11 X w (w'.setCell p u):=by
 refine ⟨h.os,h.tape,h.output,?_,fun j hj hx=>?_⟩
 ·simpa using h.size
 ·exact (Below.heap_setCell w' p u j (fun e=>by subst e;rcases hp with hp | hp;omega;exact hx hp)).trans (h.block j hj hx)
theorem Fr11.of_below {B:Nat} (h:Below B w w') (hB:∀j,B≤j→j<w.heap.size→X j):Fr11 X w w':=⟨h.os,h.tape,h.output,h.size,fun j hj hx=>h.block j (by
 by_cases e:B≤j
 ·exact absurd (hB j e hj) hx
 ·omega)⟩
theorem Fr11.of_grown {row:Option Nat} (h:w.grownBy w' row) (hX:∀j,some j=row→X j):Fr11 X w w':=⟨h.os,h.tape,h.output,h.size,fun j hj hx=>h.block j hj fun e=>hx (hX j e)⟩
theorem Fr11.below (h:Fr11 X w w') {B:Nat} (hB:∀j,j<B→j<w.heap.size∧¬X j):Below B w w':=⟨h.os,h.tape,h.output,h.size,fun j hj=>h.block j (hB j hj).1 (hB j hj).2⟩
theorem Fr11.own (h:Fr11 X w w') {base e size n:Nat} {v:Value} {xs:List Value} (ho:w.ownsRow base e size v n xs) (hv:∀g,v.ownBlock=some g→¬X g):w'.ownsRow base e size v n xs:=by
 obtain ⟨h1,h2⟩:=ho;refine ⟨h1,?_⟩;rcases h2 with h2 | ⟨g,cap,cur,rfl,hg,hh,r⟩
 ·exact .inl h2
 ·exact .inr ⟨g,cap,cur,rfl,hg,(h.block g (zg9.1 hh).1 (hv g rfl)).trans hh,r⟩
theorem Fr11.box (h:Fr11 X w w') {B t:Nat} {v:Value} (hb:Boxed w B t v) (hx:¬X B):Boxed w' B t v:=(h.block B hb.lt hx).trans hb
theorem Fr11.map {H:Type} (h:Fr11 X w w') {P:Program} {k:TypeId} {R:Value→Option (DataW H×List MemPlace)} {b n:Nat} {D:DataW H} (ho:w.ownsMap P k R b n D) (hx:¬X b):w'.ownsMap P k R b n D:=by
 obtain ⟨es,clock,hh,r⟩:=ho;exact ⟨es,clock,(h.block b (zg9.1 hh).1 hx).trans hh,r⟩
theorem Fr11.rn (h:Fr11 X w w') {A:Option Addr} {c:Nat} {l:List Int} (hr:Rn w A c l) (hx:∀ad,A=some ad→0<l.length→¬X ad.block):Rn w' A c l:=by
 refine ⟨hr.1,hr.2.1,?_⟩;rcases hr.2.2 with hn | ⟨ad,ha,hc⟩
 ·exact .inl hn
 ·refine .inr ⟨ad,ha,fun i x hi=>?_⟩;have h0:0<l.length:=by have:=(zg8.1 hi).1;omega
  have h1:=hc i x hi;have h2:=cell_lt h1;rw [add_block] at h2;refine (World.cell?_of_block ?_).trans h1;rw [add_block];exact h.block _ h2 (hx ad ha h0)
end
def g11 (l:List Int) (i:Nat):Int:=l[i]?.getD 0
def sw11 (l:List Int) (i j:Nat):List Int:=(l.set i (g11 l j)).set j (g11 l i)
def Hp11 (l:List Int) (n:Nat):Prop:=∀i,0<i→i<n→g11 l ((i-1) / 2)≤g11 l i
section
variable {l : List Int} {i j n : Nat}
theorem g11_some (h:i<l.length):l[i]?=some (g11 l i):=by rw [g11,zg7 h];rfl
theorem sw11_len:(sw11 l i j).length=l.length:=by simp [sw11]
theorem g11_sw (hi:i<l.length) (hj:j<l.length) (k:Nat):g11 (sw11 l i j) k=if k=j then g11 l i else if k=i then g11 l j else g11 l k:=by
 unfold sw11;by_cases h1:k=j
 ·subst h1;rw [if_pos rfl,g11,List.getElem?_set_self (by simpa using hj)];rfl
 ·rw [if_neg h1,g11,List.getElem?_set_ne (fun e=>h1 e.symm)];by_cases h2:k=i
  ·subst h2;rw [if_pos rfl,List.getElem?_set_self hi];rfl
  ·rw [if_neg h2,List.getElem?_set_ne (fun e=>h2 e.symm)];rfl
theorem sw11_perm (hi:i<l.length) (hj:j<l.length):(sw11 l i j).Perm l:=by
 have:=List.set_set_perm hi hj;have e1:g11 l i=l[i]:=by rw [g11,zg7 hi];rfl
 have e2:g11 l j=l[j]:=by rw [g11,zg7 hj];rfl
 rw [sw11,e1,e2];exact this
def Up11 (l:List Int) (n j:Nat):Prop:=j<n∧(∀i,0<i→i<n→i≠j→g11 l ((i-1) / 2)≤g11 l i)∧∀i,0<i→i<n→(i-1) / 2=j→0<j→g11 l ((j-1) / 2)≤g11 l i
theorem Up11.done (h:Up11 l n j) (hj:j=0∨¬g11 l j<g11 l ((j-1) / 2)):Hp11 l n:=by
 intro i h0 hi;by_cases e:i=j
 ·subst e;rcases hj with hj | hj
  ·omega
  ·omega
 ·exact h.2.1 i h0 hi e
theorem Up11.step (h:Up11 l n j) (hl:n=l.length) (hj:0<j) (hlt:g11 l j<g11 l ((j-1) / 2)):Up11 (sw11 l ((j-1) / 2) j) n ((j-1) / 2):=by
 obtain ⟨h1,h2,h3⟩:=h;have hp:(j-1) / 2<j:=by omega
 have G:=g11_sw (l:=l) (i:=(j-1) / 2) (j:=j) (by omega) (by omega);refine ⟨by omega,fun i h0 hi hne=>?_,fun i h0 hi hpi hp0=>?_⟩
 ·rw [G,G];have a1:=h2 i h0 hi;have a2:=h3 i h0 hi;by_cases e1:i=j
  ·subst e1;rw [if_neg (by omega),if_pos rfl,if_pos rfl];omega
  ·by_cases e2:(i-1) / 2=j
   ·rw [if_pos e2,if_neg e1,if_neg hne];exact a2 e2 hj
   ·by_cases e3:(i-1) / 2=(j-1) / 2
    ·rw [if_neg e2,if_pos e3,if_neg e1,if_neg hne];have:=a1 e1;rw [e3] at this;omega
    ·rw [if_neg e2,if_neg e3,if_neg e1,if_neg hne];exact a1 e1
 ·rw [G,G];have a1:=h2 i h0 hi;have a3:=h2 ((j-1) / 2) hp0 (by omega) (by omega);rw [if_neg (by omega),if_neg (by omega)];by_cases e1:i=j
  ·rw [if_pos e1];exact a3
  ·rw [if_neg e1,if_neg (by omega)];have:=a1 e1;rw [hpi] at this;omega
theorem Up11.start {x:Int} (h:Hp11 l l.length):Up11 (l++[x]) (l.length+1) l.length:=by
 have G:∀i,i<l.length→g11 (l++[x]) i=g11 l i:=fun i hi=>by rw [g11,List.getElem?_append_left hi];rfl
 refine ⟨by omega,fun i h0 hi hne=>?_,fun i h0 hi hp hj=>by omega⟩;rw [G i (by omega),G _ (by omega)];exact h i h0 (by omega)
def Dn11 (l:List Int) (n i:Nat):Prop:=(∀k,0<k→k<n→(k-1) / 2≠i→g11 l ((k-1) / 2)≤g11 l k)∧∀k,0<k→k<n→(k-1) / 2=i→0<i→g11 l ((i-1) / 2)≤g11 l k
def Ch11 (l:List Int) (n i j:Nat):Prop:=j<n∧(j-1) / 2=i∧0<j∧∀k,0<k→k<n→(k-1) / 2=i→g11 l j≤g11 l k
theorem Dn11.none (h:Dn11 l n i) (hi:n≤2*i+1):Hp11 l n:=fun k h0 hk=>h.1 k h0 hk (by omega)
theorem Dn11.done (h:Dn11 l n i) (hc:Ch11 l n i j) (hj:¬g11 l j<g11 l i):Hp11 l n:=by
 intro k h0 hk;by_cases e:(k-1) / 2=i
 ·have:=hc.2.2.2 k h0 hk e;rw [e];omega
 ·exact h.1 k h0 hk e
theorem Dn11.step (h:Dn11 l n i) (hc:Ch11 l n i j) (hn:n≤l.length) (hj:g11 l j<g11 l i):Dn11 (sw11 l i j) n j:=by
 obtain ⟨h1,h2⟩:=h;obtain ⟨c1,c2,c3,c4⟩:=hc;have hij:i<j:=by omega
 have G:=g11_sw (l:=l) (i:=i) (j:=j) (by omega) (by omega);refine ⟨fun k h0 hk hne=>?_,fun k h0 hk hpk hj0=>?_⟩
 ·rw [G,G,if_neg hne];by_cases e1:(k-1) / 2=i
  ·rw [if_pos e1];by_cases e2:k=j
   ·rw [if_pos e2];omega
   ·rw [if_neg e2,if_neg (by omega)];exact c4 k h0 hk e1
  ·rw [if_neg e1,if_neg (by intro e;subst e;exact e1 c2)];by_cases e3:k=i
   ·subst e3;rw [if_pos rfl];exact h2 j c3 c1 c2 h0
   ·rw [if_neg e3];exact h1 k h0 hk e1
 ·rw [G,G,c2,if_neg (by omega),if_pos rfl,if_neg (by omega),if_neg (by omega)];have:=h1 k h0 hk (by omega);rw [hpk] at this;exact this
theorem Hp11.least (h:Hp11 l n):∀k,k<n→g11 l 0≤g11 l k:=by
 intro k;induction k using Nat.strongRecOn with
 | _ k ih =>
  intro hk;by_cases h0:k=0
  ·subst h0;omega
  ·have a:=h k (by omega) hk;have b:=ih ((k-1) / 2) (by omega) (by omega);omega
theorem Dn11.start (h:Hp11 l l.length) (hl:l.length=n+1):Dn11 (sw11 l 0 n) n 0:=by
 have G:=g11_sw (l:=l) (i:=0) (j:=n) (by omega) (by omega);refine ⟨fun k h0 hk hne=>?_,fun k h0 hk hp hj=>by omega⟩;rw [G,G,if_neg (by omega),if_neg hne,if_neg (by omega),if_neg (by omega)];exact h k h0 (by omega)
end
structure Hb11 (w:World) (N B:Nat) (A:Option Addr) (c:Nat) (l:List Int):Prop where
 box:Boxed w B 240 (.slice A l.length c)
 own:w.ownsRow N 3 1 (.slice A l.length c) l.length (ci9 l)
theorem Hb11.drewN {w:World} {N B c:Nat} {A:Option Addr} {l:List Int} (h:Hb11 w N B A c l) (q:Nat):Hb11 (w.drewN q) N B A c l:=⟨(Fr11.refl (fun _=>False) w |>.drewN q).box h.box id,(Fr11.refl (fun _=>False) w |>.drewN q).own h.own fun _ _=>id⟩
def Xr11 (A:Option Addr) (j:Nat):Prop:=∃ad,A=some ad∧j=ad.block
theorem len11_v (A:Option Addr) (n c:Nat) (w:World):Calls Tryz.prog 163 #[.slice A n c] w fun e w'=>e=.returned (.int .i64 n)∧w=w':=by
 go_enter Tryz.func163,Tryz.ntmps163;go_wp2_with fail;go_ret;exact ⟨rfl,rfl⟩
theorem less11_v (A:Option Addr) (c n i j:Nat) (l:List Int) (w:World) (hr:Rn w A c l) (hn:l.length=n) (hi:i<n) (hj:j<n):Calls Tryz.prog 274 #[.slice A n c,.int .i64 i,.int .i64 j] w fun e w'=>e=.returned (.bool (decide (g11 l i<g11 l j)))∧∃q,w'=w.drewN q:=by
 obtain ⟨ad,hA,y0⟩:=hr.at_ (g11_some (l:=l) (i:=i) (by omega));obtain ⟨ad',hA',y1⟩:=hr.at_ (g11_some (l:=l) (i:=j) (by omega));subst hA;injection hA' with hA';subst hA';have hm9:n≤9223372036854775807:=by have:=hr.2.1;have:=hr.1;unfold maxLen at *;omega
 generalize g11 l i=x at y0 ⊢;generalize g11 l j=y at y1 ⊢;clear hr hn;go_enter Tryz.func274,Tryz.ntmps274;go_wp2_with fail;go_quiet (fail);go_wp2_with fail;go_ret;exact ⟨rfl,_,rfl⟩
theorem meth_len11 (k B : Nat) (A : Option Addr) (n c : Nat) (w : World) (h : w.cell? ⟨B, 0, none⟩ = some (.slice A n c)) : (method (k + 1) 237 (.pointer (some ⟨B, 0, none⟩)) "Len").run Tryz.prog w = .ok (163, .slice A n c) w := by
  have hf : (Array.find? (fun x => x.name == "Len") Tryz.t237.methods) = some { name := "Len", sig := 243, path := #[{ struct := 240, index := 0, deref := true }], func := some (163, false) } := by kernel_rfl
  simp [method, follow, receiverAt, hf, Place.get, go_sem, h]
theorem meth_less11 (k B : Nat) (A : Option Addr) (n c : Nat) (w : World) (h : w.cell? ⟨B, 0, none⟩ = some (.slice A n c)) : (method (k + 1) 237 (.pointer (some ⟨B, 0, none⟩)) "Less").run Tryz.prog w = .ok (274, .slice A n c) w := by
  have hf : (Array.find? (fun x => x.name == "Less") Tryz.t237.methods) = some { name := "Less", sig := 108, path := #[{ struct := 240, index := 0, deref := true }], func := some (274, false) } := by kernel_rfl
  simp [method, follow, receiverAt, hf, Place.get, go_sem, h]
theorem meth_swap11 (k B : Nat) (A : Option Addr) (n c : Nat) (w : World) (h : w.cell? ⟨B, 0, none⟩ = some (.slice A n c)) : (method (k + 1) 237 (.pointer (some ⟨B, 0, none⟩)) "Swap").run Tryz.prog w = .ok (278, .slice A n c) w := by
  have hf : (Array.find? (fun x => x.name == "Swap") Tryz.t237.methods) = some { name := "Swap", sig := 294, path := #[{ struct := 240, index := 0, deref := true }], func := some (278, false) } := by kernel_rfl
  simp [method, follow, receiverAt, hf, Place.get, go_sem, h]
theorem meth_push11 (k B : Nat) (w : World) : (method (k + 1) 237 (.pointer (some ⟨B, 0, none⟩)) "Push").run Tryz.prog w = .ok (276, .pointer (some ⟨B, 0, none⟩)) w := by
  have hf : (Array.find? (fun x => x.name == "Push") Tryz.t237.methods) = some { name := "Push", sig := 292, path := #[], func := some (276, true) } := by kernel_rfl
  simp [method, follow, receiverAt, hf, Place.get, go_sem]
theorem meth_pop11 (k B : Nat) (w : World) : (method (k + 1) 237 (.pointer (some ⟨B, 0, none⟩)) "Pop").run Tryz.prog w = .ok (275, .pointer (some ⟨B, 0, none⟩)) w := by
  have hf : (Array.find? (fun x => x.name == "Pop") Tryz.t237.methods) = some { name := "Pop", sig := 296, path := #[], func := some (275, true) } := by kernel_rfl
  simp [method, follow, receiverAt, hf, Place.get, go_sem]
theorem swap11_v (N g c n i j:Nat) (l:List Int) (w:World) (ho:w.ownsRow N 3 1 (.slice (some ⟨g,0,none⟩) n c) n (ci9 l)) (hi:i<n) (hj:j<n):Calls Tryz.prog 278 #[.slice (some ⟨g,0,none⟩) n c,.int .i64 i,.int .i64 j] w fun e w'=>e=.returned (.tuple #[])∧w'.ownsRow N 3 1 (.slice (some ⟨g,0,none⟩) n c) n (ci9 (sw11 l i j))∧Fr11 (fun k=>k=g) w w':=by
 have hn:n=l.length:=(Rn.of_own ho).2;have hr:=(Rn.of_own ho).1;have hm9:n≤9223372036854775807:=by have:=hr.2.1;have:=hr.1;unfold maxLen at *;omega
 have y0:=(ho.cellAt i (by omega)).trans (show (ci9 l)[i]?=some (.int .i64 (g11 l i)) by simp [ci9,g11_some (l:=l) (i:=i) (by omega)]);have y1:=(ho.cellAt j (by omega)).trans (show (ci9 l)[j]?=some (.int .i64 (g11 l j)) by simp [ci9,g11_some (l:=l) (i:=j) (by omega)]);have f0:=ho.frozenAt i;have f1:=ho.frozenAt j
 obtain ⟨z,y2⟩:∃z,(w.setCell ⟨g,i,none⟩ (.int .i64 (g11 l j))).cell? ⟨g,j,none⟩=some z:=by
  have h:=((ho.stored i (.int .i64 (g11 l j))).1.cellAt j (by omega));exact ⟨_,h.trans (zg7 (by rw [List.length_set,ci9,List.length_map];omega))⟩
 have HO:=zhy ho
 have HS:Hid (((w.setCell ⟨g,i,none⟩ (.int .i64 (g11 l j))).setCell ⟨g,j,none⟩ (.int .i64 (g11 l i))).ownsRow N 3 1 (.slice (some ⟨g,0,none⟩) n c) n (ci9 (sw11 l i j))):=by
  have:=((ho.stored i (.int .i64 (g11 l j))).1.stored j (.int .i64 (g11 l i))).1;simpa [Hid,sw11,ci9,List.map_set] using this
 have HF:Hid (Fr11 (fun k=>k=g) w ((w.setCell ⟨g,i,none⟩ (.int .i64 (g11 l j))).setCell ⟨g,j,none⟩ (.int .i64 (g11 l i)))):=zhy (((Fr11.refl (fun k=>k=g) w).set (p:=⟨g,i,none⟩) (.inr rfl) _).set (p:=⟨g,j,none⟩) (.inr rfl) _);generalize g11 l i=x at y0 HS HF;generalize g11 l j=y at y1 y2 HS HF;clear hr hn ho;go_enter Tryz.func278,Tryz.ntmps278;go_wp2_with fail;go_region;go_wp2_with fail;go_end0;exact ⟨rfl,HS.out.drew,HF.out.drewN 1⟩
theorem up11_v (N B g c n j:Nat) (l:List Int) (w:World) (h:Hb11 w N B (some ⟨g,0,none⟩) c l) (hn:l.length=n) (hm9:n≤1000000) (hu:Up11 l n j):Calls Tryz.prog 201 #[.iface 237 (.pointer (some ⟨B,0,none⟩)),.int .i64 j] w fun e w'=>e=.returned (.tuple #[])∧∃l',Hb11 w' N B (some ⟨g,0,none⟩) c l'∧l'.Perm l∧Hp11 l' n∧Fr11 (fun k=>k=g) w w':=by
 have H0:=zhy h;have HN:=zhy hn;have HU:=zhy hu;clear h hn hu;go_enter Tryz.func201,Tryz.ntmps201;go_wp2_with fail;go_loopw [1] (fun jv wr=>∃(j:Nat) (l':List Int),jv=.int .i64 j∧j<n∧Hid (Hb11 wr N B (some ⟨g,0,none⟩) c l')∧Hid (l'.Perm l)∧Hid (Up11 l' n j)∧Hid (Fr11 (fun k=>k=g) w wr)) (fun jv _=>(intOf jv).toNat)
 case atStart=>exact ⟨j,l,rfl,HU.out.1,H0,zhy (List.Perm.refl _),HU,zhy (Fr11.refl _ _)⟩
 case round =>
  clear HU H0;obtain ⟨j,l',rfl,hj,HB,HP,HU,HF⟩:=hrel;have HL:Hid (l'.length=n):=zhy (HP.out.length_eq.trans HN.out);by_cases h0:j=0
  ·subst h0;go_wp2_with fail;go_end0;exact ⟨rfl,l',HB.out,HP.out,HU.out.done (.inl rfl),HF.out⟩
  ·have hml:=fun k=>meth_less11 k B _ _ _ wr HB.out.box.cell;have hms:=fun k=>meth_swap11 k B _ _ _ wr HB.out.box.cell;rw [HL.out] at hml hms;obtain ⟨p,hp⟩:∃p,(j-1) / 2=p:=⟨_,rfl⟩;have HPP:=zhy hp;have ep:((j:Int)-1) / 2=(p:Int):=by omega
   have hpj:p<j:=by omega
   have eq:((p:Int)==(j:Int))=false:=by simp;omega
   have HO:=zhy HB.out.own;rw [HL.out] at HO;have HLE:=zhy (less11_v (some ⟨g,0,none⟩) c n j p l' wr (Rn.of_own HO.out).1 HL.out hj (by omega));clear hp;go_wp2_with fail;refine HLE.out.mono ?_;rintro r w2 ⟨rfl,q,rfl⟩;by_cases hlt:g11 l' j<g11 l' p
   ·have hd:decide (g11 l' j<g11 l' p)=true:=by simpa using hlt
    have HSW:=zhy (swap11_v N g c n p j l' (wr.drewN q) ((Fr11.refl (fun _=>False) wr |>.drewN q).own HO.out fun _ _=>id) (by omega) hj);have HU2:Hid (Up11 (sw11 l' p j) n p):=zhy (by have:=HU.out.step HL.out.symm (by omega) (by rw [HPP.out];exact hlt);rwa [HPP.out] at this);have HP2:Hid ((sw11 l' p j).Perm l):=zhy ((sw11_perm (by rw [HL.out];omega) (by rw [HL.out];exact hj)).trans HP.out);have HL2:Hid ((sw11 l' p j).length=n):=zhy (sw11_len.trans HL.out);have hms2:=fun k=>meth_swap11 k B _ _ _ (wr.drewN q) (HB.out.drewN q).box.cell;rw [HL.out] at hms2;clear HLE hlt hms hml;go_wp2_with fail;refine HSW.out.mono ?_;rintro r w3 ⟨rfl,ho,hf⟩;have HB3:Hid (Hb11 w3 N B (some ⟨g,0,none⟩) c (sw11 l' p j)):=zhy ⟨by rw [sw11_len];exact hf.box (HB.out.drewN q).box (fun e=>Boxed.not_row HB.out.box (by decide) HB.out.own (by rw [e];rfl)),by rw [sw11_len,HL.out];exact ho⟩;have HF3:Hid (Fr11 (fun k=>k=g) w w3):=zhy ((HF.out.drewN q).trans hf fun _ _ h=>h);clear ho hf HSW hms2;go_wp2_with fail;go_roundw
    case rel=>exact ⟨p,_,rfl,by omega,HB3,HP2,HU2,HF3⟩
    case measure=>simp [intOf];omega
   ·have hd:decide (g11 l' j<g11 l' p)=false:=by simpa using hlt
    have HD:=zhy (HU.out.done (.inr (by rw [HPP.out];exact hlt)));clear HLE hlt;go_wp2_with fail;go_end0;exact ⟨rfl,l',HB.out.drewN q,HP.out,HD.out,HF.out.drewN q⟩
theorem down11_v (N B g c n m:Nat) (l:List Int) (w:World) (h:Hb11 w N B (some ⟨g,0,none⟩) c l) (hm:l.length=m) (hnm:n<m) (hm9:m≤1000000) (hu:Dn11 l n 0):Calls Tryz.prog 202 #[.iface 237 (.pointer (some ⟨B,0,none⟩)),.int .i64 0,.int .i64 n] w fun e w'=>∃b,e=.returned (.bool b)∧∃l',Hb11 w' N B (some ⟨g,0,none⟩) c l'∧l'.Perm l∧Hp11 l' n∧(∀k,n≤k→g11 l' k=g11 l k)∧Fr11 (fun k=>k=g) w w':=by
 have H0:=zhy h;have HN:=zhy hm;have HU:=zhy hu;clear h hm hu;go_enter Tryz.func202,Tryz.ntmps202;go_wp2_with fail;go_loopw [7] (fun jv wr=>∃(i:Nat) (l':List Int),jv=.int .i64 i∧i≤n∧Hid (Hb11 wr N B (some ⟨g,0,none⟩) c l')∧Hid (l'.Perm l)∧Hid (Dn11 l' n i)∧Hid (∀k,n≤k→g11 l' k=g11 l k)∧Hid (Fr11 (fun k=>k=g) w wr)) (fun jv _=>n-(intOf jv).toNat)
 case atStart=>exact ⟨0,l,rfl,by omega,H0,zhy (List.Perm.refl _),HU,zhy (fun _ _=>rfl),zhy (Fr11.refl _ _)⟩
 case round =>
  clear HU H0;obtain ⟨i,l',rfl,hi,HB,HP,HU,HE,HF⟩:=hrel;have HL:Hid (l'.length=m):=zhy (HP.out.length_eq.trans HN.out);obtain ⟨x,hx⟩:∃x,2*i+1=x:=⟨_,rfl⟩;have ex:((2:Int)*(i:Int)+1)=(x:Int):=by omega
  have ex2:((i:Int)*2+1)=(x:Int):=by omega
  by_cases h0:n≤x
  ·have HD:=zhy (HU.out.none (by omega));clear hx;go_wp2_with fail;go_ret;exact ⟨_,rfl,l',HB.out,HP.out,HD.out,HE.out,HF.out⟩
  ·have hil:i<x:=by omega
   have HXX:=zhy hx;clear hx;by_cases h1:x+1<n
   ·have hml:=fun k=>meth_less11 k B _ _ _ wr HB.out.box.cell;rw [HL.out] at hml;have HO:=zhy HB.out.own;rw [HL.out] at HO;have HLE:=zhy (less11_v (some ⟨g,0,none⟩) c m (x+1) x l' wr (Rn.of_own HO.out).1 HL.out (by omega) (by omega));go_wp2_with fail;refine HLE.out.mono ?_;rintro r w1 ⟨rfl,q1,hq1⟩;have HB1:Hid (Hb11 w1 N B (some ⟨g,0,none⟩) c l'):=zhy (hq1▸HB.out.drewN q1);have HF1:Hid (Fr11 (fun k=>k=g) w w1):=zhy (hq1▸HF.out.drewN q1);clear hq1 HO;by_cases hlt:g11 l' (x+1)<g11 l' x
    ·have hd:decide (g11 l' (x+1)<g11 l' x)=true:=by simpa using hlt
     obtain ⟨j,hj⟩:∃j,x+1=j:=⟨_,rfl⟩;have ejj:((x:Int)+1)=(j:Int):=by omega
     have hjn:j<n:=by omega
     have hij:i<j:=by omega
     have HC:Hid (Ch11 l' n i j):=zhy ⟨by omega,by have:=HXX.out;omega,by omega,fun k k0 kn kp=>by
      have:=HXX.out;by_cases e:k=j
      ·rw [e];exact Int.le_refl _
      ·obtain rfl:k=x:=by omega
       rw [←hj];omega⟩
     clear HLE hml hj hlt;have hml2:=fun k=>meth_less11 k B _ _ _ w1 HB1.out.box.cell;rw [HL.out] at hml2;have HO2:=zhy HB1.out.own;rw [HL.out] at HO2;have HLE2:=zhy (less11_v (some ⟨g,0,none⟩) c m j i l' w1 (Rn.of_own HO2.out).1 HL.out (by omega) (by omega));have hms:=fun k q=>meth_swap11 k B _ _ _ (w1.drewN q) (HB1.out.drewN q).box.cell;rw [HL.out] at hms;go_wp2_with fail;refine HLE2.out.mono ?_;rintro r w2 ⟨rfl,q2,rfl⟩;by_cases hlt:g11 l' j<g11 l' i
     ·have hd:decide (g11 l' j<g11 l' i)=true:=by simpa using hlt
      have HSW:=zhy (swap11_v N g c m i j l' (w1.drewN q2) ((Fr11.refl (fun _=>False) w1 |>.drewN q2).own HO2.out fun _ _=>id) (by omega) (by omega));have HU2:Hid (Dn11 (sw11 l' i j) n j):=zhy (HU.out.step HC.out (by rw [HL.out];omega) hlt);have HP2:Hid ((sw11 l' i j).Perm l):=zhy ((sw11_perm (by rw [HL.out];omega) (by rw [HL.out];omega)).trans HP.out);have HE2:Hid (∀k,n≤k→g11 (sw11 l' i j) k=g11 l k):=zhy fun k hk=>by rw [g11_sw (by rw [HL.out];omega) (by rw [HL.out];omega),if_neg (by omega),if_neg (by omega)];exact HE.out k hk
      clear HLE2 hlt hml2;go_wp2_with fail;refine HSW.out.mono ?_;rintro r w3 ⟨rfl,ho,hf⟩;have HB3:Hid (Hb11 w3 N B (some ⟨g,0,none⟩) c (sw11 l' i j)):=zhy ⟨by rw [sw11_len];exact hf.box (HB1.out.drewN q2).box (fun e=>Boxed.not_row HB.out.box (by decide) HB.out.own (by rw [e];rfl)),by rw [sw11_len,HL.out];exact ho⟩;have HF3:Hid (Fr11 (fun k=>k=g) w w3):=zhy ((HF1.out.drewN q2).trans hf fun _ _ h=>h);clear ho hf HSW hms;go_wp2_with fail;go_roundw
      case rel=>exact ⟨j,_,rfl,by omega,HB3,HP2,HU2,HE2,HF3⟩
      case measure=>simp [intOf];omega
     ·have hd:decide (g11 l' j<g11 l' i)=false:=by simpa using hlt
      have HD:=zhy (HU.out.done HC.out hlt);clear HLE2 hlt hms hml2;go_wp2_with fail;go_ret;exact ⟨_,rfl,l',HB1.out.drewN q2,HP.out,HD.out,HE.out,HF1.out.drewN q2⟩
    ·have hd:decide (g11 l' (x+1)<g11 l' x)=false:=by simpa using hlt
     obtain ⟨j,hj⟩:∃j,x=j:=⟨_,rfl⟩
     have HC:Hid (Ch11 l' n i x):=zhy ⟨by omega,by have:=HXX.out;omega,by omega,fun k k0 kn kp=>by
      have:=HXX.out;by_cases e:k=x
      ·rw [e];exact Int.le_refl _
      ·obtain rfl:k=x+1:=by omega
       omega⟩
     subst hj;have hij:i<x:=hil;clear HLE hml hlt;have hml2:=fun k=>meth_less11 k B _ _ _ w1 HB1.out.box.cell;rw [HL.out] at hml2;have HO2:=zhy HB1.out.own;rw [HL.out] at HO2;have HLE2:=zhy (less11_v (some ⟨g,0,none⟩) c m x i l' w1 (Rn.of_own HO2.out).1 HL.out (by omega) (by omega));have hms:=fun k q=>meth_swap11 k B _ _ _ (w1.drewN q) (HB1.out.drewN q).box.cell;rw [HL.out] at hms;go_wp2_with fail;refine HLE2.out.mono ?_;rintro r w2 ⟨rfl,q2,rfl⟩;by_cases hlt:g11 l' x<g11 l' i
     ·have hd:decide (g11 l' x<g11 l' i)=true:=by simpa using hlt
      have HSW:=zhy (swap11_v N g c m i x l' (w1.drewN q2) ((Fr11.refl (fun _=>False) w1 |>.drewN q2).own HO2.out fun _ _=>id) (by omega) (by omega));have HU2:Hid (Dn11 (sw11 l' i x) n x):=zhy (HU.out.step HC.out (by rw [HL.out];omega) hlt);have HP2:Hid ((sw11 l' i x).Perm l):=zhy ((sw11_perm (by rw [HL.out];omega) (by rw [HL.out];omega)).trans HP.out);have HE2:Hid (∀k,n≤k→g11 (sw11 l' i x) k=g11 l k):=zhy fun k hk=>by rw [g11_sw (by rw [HL.out];omega) (by rw [HL.out];omega),if_neg (by omega),if_neg (by omega)];exact HE.out k hk
      clear HLE2 hlt hml2;go_wp2_with fail;refine HSW.out.mono ?_;rintro r w3 ⟨rfl,ho,hf⟩;have HB3:Hid (Hb11 w3 N B (some ⟨g,0,none⟩) c (sw11 l' i x)):=zhy ⟨by rw [sw11_len];exact hf.box (HB1.out.drewN q2).box (fun e=>Boxed.not_row HB.out.box (by decide) HB.out.own (by rw [e];rfl)),by rw [sw11_len,HL.out];exact ho⟩;have HF3:Hid (Fr11 (fun k=>k=g) w w3):=zhy ((HF1.out.drewN q2).trans hf fun _ _ h=>h);clear ho hf HSW hms;go_wp2_with fail;go_roundw
      case rel=>exact ⟨x,_,rfl,by omega,HB3,HP2,HU2,HE2,HF3⟩
      case measure=>simp [intOf];omega
     ·have hd:decide (g11 l' x<g11 l' i)=false:=by simpa using hlt
      have HD:=zhy (HU.out.done HC.out hlt);clear HLE2 hlt hms hml2;go_wp2_with fail;go_ret;exact ⟨_,rfl,l',HB1.out.drewN q2,HP.out,HD.out,HE.out,HF1.out.drewN q2⟩
   ·have HC:Hid (Ch11 l' n i x):=zhy ⟨by omega,by have:=HXX.out;omega,by omega,fun k k0 kn kp=>by
     have:=HXX.out;obtain rfl:k=x:=by omega
     exact Int.le_refl _⟩
    have hij:i<x:=hil;have hml2:=fun k=>meth_less11 k B _ _ _ (wr) (HB.out).box.cell;rw [HL.out] at hml2;have HO2:=zhy (HB.out).own;rw [HL.out] at HO2;have HLE2:=zhy (less11_v (some ⟨g,0,none⟩) c m x i l' (wr) (Rn.of_own HO2.out).1 HL.out (by omega) (by omega));have hms:=fun k q=>meth_swap11 k B _ _ _ ((wr).drewN q) ((HB.out).drewN q).box.cell;rw [HL.out] at hms;go_wp2_with fail;refine HLE2.out.mono ?_;rintro r w2 ⟨rfl,q2,rfl⟩;by_cases hlt:g11 l' x<g11 l' i
    ·have hd:decide (g11 l' x<g11 l' i)=true:=by simpa using hlt
     have HSW:=zhy (swap11_v N g c m i x l' ((wr).drewN q2) ((Fr11.refl (fun _=>False) (wr) |>.drewN q2).own HO2.out fun _ _=>id) (by omega) (by omega));have HU2:Hid (Dn11 (sw11 l' i x) n x):=zhy (HU.out.step HC.out (by rw [HL.out];omega) hlt);have HP2:Hid ((sw11 l' i x).Perm l):=zhy ((sw11_perm (by rw [HL.out];omega) (by rw [HL.out];omega)).trans HP.out);have HE2:Hid (∀k,n≤k→g11 (sw11 l' i x) k=g11 l k):=zhy fun k hk=>by rw [g11_sw (by rw [HL.out];omega) (by rw [HL.out];omega),if_neg (by omega),if_neg (by omega)];exact HE.out k hk
     clear HLE2 hlt hml2;go_wp2_with fail;refine HSW.out.mono ?_;rintro r w3 ⟨rfl,ho,hf⟩;have HB3:Hid (Hb11 w3 N B (some ⟨g,0,none⟩) c (sw11 l' i x)):=zhy ⟨by rw [sw11_len];exact hf.box ((HB.out).drewN q2).box (fun e=>Boxed.not_row HB.out.box (by decide) HB.out.own (by rw [e];rfl)),by rw [sw11_len,HL.out];exact ho⟩;have HF3:Hid (Fr11 (fun k=>k=g) w w3):=zhy ((HF.out.drewN q2).trans hf fun _ _ h=>h);clear ho hf HSW hms;go_wp2_with fail;go_roundw
     case rel=>exact ⟨x,_,rfl,by omega,HB3,HP2,HU2,HE2,HF3⟩
     case measure=>simp [intOf];omega
    ·have hd:decide (g11 l' x<g11 l' i)=false:=by simpa using hlt
     have HD:=zhy (HU.out.done HC.out hlt);clear HLE2 hlt hms hml2;go_wp2_with fail;go_ret;exact ⟨_,rfl,l',(HB.out).drewN q2,HP.out,HD.out,HE.out,HF.out.drewN q2⟩
end Go.Proofs.YtnjgkkoiamiaaaaGreatDoor
