import Derived.Test.YtnjgkkoiamiaaaaGreatDoorVma1
import Derived.Test.YtnjgkkoiamiaaaaGreatDoorVma10
import Derived.Test.YtnjgkkoiamiaaaaGreatDoorVma24
import Derived.Test.YtnjgkkoiamiaaaaGreatDoorVma17
import Derived.Test.YtnjgkkoiamiaaaaGreatDoorVma22
import Derived.Test.YtnjgkkoiamiaaaaGreatDoorVma27
import Derived.Test.YtnjgkkoiamiaaaaGreatDoorVma16
import Derived.Laws.EntriesVeiled
import Derived.BigQuiet
import Derived.Test.YtnjgkkoiamiaaaaGreatDoorVma7
import Derived.Test.YtnjgkkoiamiaaaaGreatDoorVma5
set_option maxRecDepth 100000
set_option maxHeartbeats 16000000
set_option linter.unusedSimpArgs false
set_option linter.unusedVariables false
namespace Go.Proofs.YtnjgkkoiamiaaaaGreatDoor
open Go.RowKit
def Ck14 (w:World) (K V:Nat):Prop:=K<w.heap.size ∧
 (w.cell? ⟨K,0,none⟩=some (.func (.func 21) #[] #[])∧w.cell? ⟨K,1,none⟩=some Value.nilFunc) ∧
 (w.cell? ⟨K,2,none⟩=some (.func (.func 132) #[] #[])∧w.cell? ⟨K,3,none⟩=some Value.nilFunc) ∧
 (w.cell? ⟨K,4,none⟩=some Value.nilFunc∧w.cell? ⟨K,5,none⟩=some (.func (.func 24) #[] #[])) ∧
 (w.cell? ⟨K,6,none⟩=some (.func (.func 25) #[] #[])∧w.cell? ⟨K,7,none⟩=some Value.nilFunc) ∧
 (w.cell? ⟨K,8,none⟩=some (.func (.func 133) #[.pointer (some ⟨V,0,none⟩)] #[])∧w.cell? ⟨K,9,none⟩=some Value.nilFunc) ∧
 (w.cell? ⟨K,10,none⟩=some (.func (.func 27) #[] #[])∧w.cell? ⟨K,11,none⟩=some Value.nilFunc)
theorem Ck14.keep {w w':World} {K V:Nat} (h:Ck14 w K V) (hb:Below w.heap.size w w'):Ck14 w' K V:=by
 obtain ⟨h0,⟨a0,b0⟩,⟨a1,b1⟩,⟨a2,b2⟩,⟨a3,b3⟩,⟨a4,b4⟩,a5,b5⟩:=h;obtain ⟨hc,-⟩:=bcell hb;have k:∀{i:Nat} {v:Value},w.cell? ⟨K,i,none⟩=some v→w'.cell? ⟨K,i,none⟩=some v:=fun hv=>(hc _ _ h0).trans hv;exact ⟨Nat.lt_of_lt_of_le h0 hb.size,⟨k a0,k b0⟩,⟨k a1,k b1⟩,⟨k a2,k b2⟩,⟨k a3,k b3⟩,⟨k a4,k b4⟩,k a5,k b5⟩
theorem Ck14.other {w w':World} {K V:Nat} (h:Ck14 w K V) (hs:w.heap.size≤w'.heap.size) (hk:w'.heap[K]?=w.heap[K]?):Ck14 w' K V:=by
 obtain ⟨h0,⟨a0,b0⟩,⟨a1,b1⟩,⟨a2,b2⟩,⟨a3,b3⟩,⟨a4,b4⟩,a5,b5⟩:=h;have k:∀{i:Nat} {v:Value},w.cell? ⟨K,i,none⟩=some v→w'.cell? ⟨K,i,none⟩=some v:=fun hv=>(World.cell?_of_block (a:=⟨K,_,none⟩) hk).trans hv;exact ⟨by omega,⟨k a0,k b0⟩,⟨k a1,k b1⟩,⟨k a2,k b2⟩,⟨k a3,k b3⟩,⟨k a4,k b4⟩,k a5,k b5⟩
theorem checks14_v (V:Nat) (w:World):Calls Tryz.prog 82 #[.pointer (some ⟨V,0,none⟩)] w fun r w'=>r=.returned (.slice (some ⟨w.heap.size,0,none⟩) 6 6)∧Ck14 w' w.heap.size V∧Below w.heap.size w w':=by
 go_enter Tryz.func82,Tryz.ntmps82;go_wp2_with fail;go_ret;refine ⟨rfl,?_,new1⟩;refine ⟨by simp,⟨?_,?_⟩,⟨?_,?_⟩,⟨?_,?_⟩,⟨?_,?_⟩,⟨?_,?_⟩,?_,?_⟩<;>simp [go_sem]
def Vx (w:World) (V:Nat) (e b:Int) (v:Value):Prop:=w.heap[V]?=some (.cells #[.int .i64 e,.int .i64 b,v] 71 (0,0))
section
variable {w w' : World} {V : Nat} {e b : Int} {v : Value}
theorem Vx.lt (h:Vx w V e b v):V<w.heap.size:=(zg9.1 h).1
theorem Vx.keep (h:Vx w V e b v) (hb:Below w.heap.size w w'):Vx w' V e b v:=(hb.block V h.lt).trans h
theorem Vx.new (w:World) (e b:Int) (v:Value):Vx (w.alloc (.cells #[.int .i64 e,.int .i64 b,v] 71)) w.heap.size e b v:=heap_alloc_last w _
theorem Vx.cells (h:Vx w V e b v):w.cell? ⟨V,0,none⟩=some (.int .i64 e)∧w.cell? ⟨V,1,none⟩=some (.int .i64 b)∧w.cell? ⟨V,2,none⟩=some v ∧
  w.frozen? ⟨V,0,none⟩=false∧w.frozen? ⟨V,1,none⟩=false∧w.frozen? ⟨V,2,none⟩=false:=by
 refine ⟨?_,?_,?_,frozen_of_row w V 0 _ _ h,frozen_of_row w V 1 _ _ h,frozen_of_row w V 2 _ _ h⟩<;>rw [cell_of_row w V _ _ _ (0,0) h]<;>rfl
theorem Vx.set0 (h:Vx w V e b v) (n:Int):Vx (w.setCell ⟨V,0,none⟩ (.int .i64 n)) V n b v:=by
 unfold Vx;rw [heap_setCell_same w V 0 _ _ _ h];rfl
theorem Vx.set1 (h:Vx w V e b v) (n:Int):Vx (w.setCell ⟨V,1,none⟩ (.int .i64 n)) V e n v:=by
 unfold Vx;rw [heap_setCell_same w V 1 _ _ _ h];rfl
theorem Vx.set2 (h:Vx w V e b v) (u:Value):Vx (w.setCell ⟨V,2,none⟩ u) V e b u:=by
 unfold Vx;rw [heap_setCell_same w V 2 _ _ _ h];rfl
end
abbrev fVx (V:Nat) (e b:Int) (v:Value):Fct:=⟨fun w=>Vx w V e b v,fun _ _ h hb=>h.keep hb⟩
def mg14 (d:Md):Int:=match mi14 d with | true=>70 | false=>0
theorem migration14_v (y:Ma) (d:Md) (w:World) (hq:Hq w y d) (h0:-1≤d.i) (h1:d.i<d.s.length):Calls Tryz.prog 132 #[dv y d] w fun r w'=>r=.returned (.int .i64 (mg14 d))∧Below w.heap.size w w':=by
 have S0:=zhy ((((Sx.start w).add (fQm y d) hq).mkD y d));by_cases hi:d.i=-1
 ·have HM:Hid (mi14 d=false):=by rw [Hid,mi14,hi];rfl
  obtain ⟨B,hB⟩:∃B,w.heap.size=B:=⟨_,rfl⟩;rw [hB] at S0;have E:(d.i != (-1:Int))=false:=by simp [hi]
  clear hq h0 h1 hi;go_enter Tryz.func132,Tryz.ntmps132;go_upto_region 1 with (fail);change Code.wp _ _ _ _ (w.alloc (dcel y d));clear hB;generalize w.alloc (dcel y d)=w1 at S0 ⊢;obtain ⟨-,⟨d0,d1,d2,d3,d4⟩,-⟩:=S0.out;go_wp2_with fail;go_ret;exact ⟨by rw [mg14,HM.out];rfl,S0.out.1⟩
 ·obtain ⟨i,hii⟩:∃i:Nat,d.i=i:=⟨d.i.toNat,by omega⟩;have hil:i<d.s.length:=by omega
  have hzl:=hq.zlen;have hiz:i<y.Z.length:=by omega
  obtain ⟨ad,hA,hat,hok⟩:=hq.2.2.1.at_ hiz;have hza:=hq.zat hiz hil
  have HM:Hid (mi14 d=(y.Z[i]).m.a.contains 3):=by
   have e1:me10 d i=(y.Z[i]).m:=by rw [me10,zg7 hil,Option.getD_some,hza]
   have e2:(d.i==-1)=false:=by simp;omega
   rw [Hid,mi14,e2,hii,Int.toNat_natCast,e1];rfl
  have HR:Hid (Rd (w.alloc (dcel y d)) (y.Z[i]).x.A (y.Z[i]).x.c (y.Z[i]).m.a):=zhy (hok.1.1.keep new1);have HAT:Hid (At8 (w.alloc (dcel y d)) (ad.add (i*8)) (y.Z[i])):=zhy (hat.keep new1);generalize y.Z[i]=z at HM HR HAT;obtain ⟨⟨XA,xc,XB,xd,XD,xk,xe⟩,m,K⟩:=z;obtain ⟨B,hB⟩:∃B,w.heap.size=B:=⟨_,rfl⟩;rw [hB] at S0;have E:((i:Int) != (-1:Int))=true:=by simp
  have hsl:=hq.2.2.1.len;have hslen:(i:Int)<(d.s.length:Int):=by omega
  have HII:=zhy hii;clear hq h0 h1 hi hat hok hza hzl hiz hii;obtain ⟨G,gc,P,pc,A,c,Z⟩:=y;dsimp only at hA hsl;subst hA;go_enter Tryz.func132,Tryz.ntmps132;go_upto_region 1 with (fail);change Code.wp _ _ _ _ (w.alloc (dcel ⟨G,gc,P,pc,some ad,c,Z⟩ d));clear hB;generalize w.alloc (dcel ⟨G,gc,P,pc,some ad,c,Z⟩ d)=w1 at S0 HR HAT ⊢;obtain ⟨-,⟨d0,d1,d2,d3,d4⟩,-⟩:=S0.out;rw [HII.out] at d4;dsimp only at d3;obtain ⟨a0,-⟩:=HAT.out;dsimp only at a0;have HC:=zhy (u8has_v XA xc _ m.a 3 (m.a.contains 3) w1 HR.out rfl rfl);go_wp2_with fail;refine HC.out.mono ?_;rintro e w2 ⟨rfl,hb2⟩;have HB:=zhy (S0.out.call hb2).1;clear hb2 HC S0 HR HAT d0 d1 d2 d3 d4 a0;generalize m.a.contains 3=v at HM ⊢;cases v with
  | true =>
   go_wp2_with fail;go_ret;exact ⟨by rw [mg14,HM.out];rfl,HB.out⟩
  | false =>
   go_wp2_with fail;go_ret;exact ⟨by rw [mg14,HM.out];rfl,HB.out⟩
theorem costs14_v (V:Nat) (e b:Int) (v:Value) (y:Ma) (d:Md) (w:World) (hx:Vx w V e b v) (hq:Hq w y d) (hg:qG d=false) :
  Calls Tryz.prog 133 #[.pointer (some ⟨V,0,none⟩),dv y d] w fun r w'=>∃A c,r=.returned (.int .i64 (co12 d).2)∧Vx w' V e b (.slice A (co12 d).1.length c) ∧
   w'.ownsRow w.heap.size 39 3 (.slice A (co12 d).1.length c) (co12 d).1.length (clr ce3 (co12 d).1)∧Fx V w w':=by
 have S0:=zhy (((Sx.start w).add (fQm y d) hq).add (fVx V e b v) hx |>.mkD y d)
 obtain ⟨X,hX⟩:∃X,co12 d=X:=⟨_,rfl⟩
 obtain ⟨L,E⟩:=X
 have HX:=zhy hX
 rw [hX]
 clear hX
 dsimp only
 have HG:=zhy hg
 have HF:Hid (Fx V w (w.alloc (dcel y d))):=zhy ((Fr11.refl _ _).alloc _)
 have HSZ:Hid ((w.alloc (dcel y d)).heap.size=w.heap.size+1):=zhy (size1 _ _)
 have hlt:=hx.lt
 obtain ⟨B,hB⟩:∃B,w.heap.size=B:=⟨_,rfl⟩
 rw [hB] at S0 HSZ hlt
 have HBB:=zhy hB
 clear hq hg hx
 go_enter Tryz.func133,Tryz.ntmps133
 go_upto_region 1 with (fail)
 change Code.wp _ _ _ _ (w.alloc (dcel y d))
 clear hB
 generalize w.alloc (dcel y d)=w1 at S0 HF HSZ ⊢
 obtain ⟨-,⟨d0,d1,d2,d3,d4⟩,-⟩:=S0.out
 have HC:Hid (Calls Tryz.prog 28 #[dv y d] w1 fun r w'=>∃A c,r=.returned (.tuple #[.slice A L.length c,.int .i64 E])∧w'.ownsRow w1.heap.size 39 3 (.slice A L.length c) L.length (clr ce3 L)∧Below w1.heap.size w1 w'):=by
  have h:=costs12_v y d w1 S0.out.2.2.2.1 HG.out;unfold Co12 at h;rw [HX.out] at h;exact h
 go_wp2_with fail
 refine HC.out.mono ?_
 rintro r w2 ⟨A,c,rfl,ho,hb⟩
 have HO:=zhy ho
 have HV:=zhy (S0.out.2.2.1.keep hb)
 have HF2:Hid (Fx V w w2):=zhy (HF.out.trans (Fr11.of_below (X:=(·=V)) hb fun j h1 h2=>by omega) fun _ _ h=>h)
 clear HC ho hb S0 HF d0 d1 d2 d3 d4
 obtain ⟨x0,x1,x2,x3,x4,x5⟩:=HV.out.cells
 go_wp2_with fail
 go_ret
 have hVB:V<w1.heap.size:=by rw [HSZ.out];omega
 exact ⟨A,c,rfl,HV.out.set2 _,own_base (ownsRow_setCell_below HO.out hVB _) (by rw [HSZ.out,HBB.out];omega),HF2.out.set (.inr rfl) _⟩
def Js14 (w1 w:World) (K V:Nat) (e b:Int) (A:Option Addr) (c:Nat) (L:List Ce):Prop:=
 Below w1.heap.size w1 w∧Vx w V e b (.slice A L.length c)∧Ck14 w K V∧w.ownsRow (V+1) 39 3 (.slice A L.length c) L.length (clr ce3 L)∧w1.heap.size≤V∧V<K
section
variable {w1 w w' : World} {K V c : Nat} {e b : Int} {A : Option Addr} {L : List Ce}
theorem Js14.call (h:Js14 w1 w K V e b A c L) (hb:Below w.heap.size w w'):Js14 w1 w' K V e b A c L:=by
 obtain ⟨h1,h2,h3,h4,h5,h6⟩:=h;exact ⟨below_on h1 hb,h2.keep hb,h3.keep hb,own_below h4 hb (Nat.le_refl _),h5,h6⟩
theorem Js14.set0 (h:Js14 w1 w K V e b A c L) (n:Int):Js14 w1 (w.setCell ⟨V,0,none⟩ (.int .i64 n)) K V n b A c L:=by
 obtain ⟨h1,h2,h3,h4,h5,h6⟩:=h;exact ⟨h1.setCell h5 _,h2.set0 n,h3.other (by simp) (Below.heap_setCell w ⟨V,0,none⟩ _ K (by show K≠V;omega)),ownsRow_setCell_below h4 (show V<V+1 by omega) _,h5,h6⟩
theorem Js14.set1 (h:Js14 w1 w K V e b A c L) (n:Int):Js14 w1 (w.setCell ⟨V,1,none⟩ (.int .i64 n)) K V e n A c L:=by
 obtain ⟨h1,h2,h3,h4,h5,h6⟩:=h;exact ⟨h1.setCell h5 _,h2.set1 n,h3.other (by simp) (Below.heap_setCell w ⟨V,1,none⟩ _ K (by show K≠V;omega)),ownsRow_setCell_below h4 (show V<V+1 by omega) _,h5,h6⟩
theorem Js14.certs (h:Js14 w1 w K V e b A c L) {A':Option Addr} {c':Nat} {L':List Ce} (hx:Vx w' V e b (.slice A' L'.length c')) (ho:w'.ownsRow w.heap.size 39 3 (.slice A' L'.length c') L'.length (clr ce3 L')) (hf:Fx V w w'):Js14 w1 w' K V e b A' c' L':=by
 obtain ⟨h1,h2,h3,h4,h5,h6⟩:=h;have hl:=h2.lt;refine ⟨h1.trans (Fr11.below hf fun j hj=>⟨by have:=h1.size;omega,fun e=>by omega⟩),hx,h3.other hf.size (hf.block K h3.1 (by omega)),own_base ho (by omega),h5,h6⟩
end
def Jk14 (d:Md):Nat→Prop
 | 0=>True
 | 1=>qE d=0
 | 2=>qE d=0∧mi14 d=false
 | 3=>qE d=0∧mi14 d=false∧er12 d d.s.length=0
 | 4=>qE d=0∧mi14 d=false∧er12 d d.s.length=0∧(ro11 d).2=0
 | 5=>qE d=0∧mi14 d=false∧er12 d d.s.length=0∧(ro11 d).2=0∧(co12 d).2=0
 | _=>(ve14 d).1=0
def Ju14 (w w':World) (d:Md) (r:Ending):Prop:=∃A c L,r=.returned (.agg #[.int .i64 (ve14 d).1,.int .i64 (ve14 d).2.1,.slice A L.length c])∧((ve14 d).1=0→L=(ve14 d).2.2) ∧
 w'.ownsRow w.heap.size 39 3 (.slice A L.length c) L.length (clr ce3 L)∧Below w.heap.size w w'
theorem judge14_end (tm:Array Value) (w':World) (R:Nat) (e b:Int) (v:Value) (hT:tm[2]?.getD undef=.pointer (some ⟨R,0,none⟩)) (hR:Vx w' R e b v) (Q:Ending→World→Prop) (hQ:Q (.returned (.agg #[.int .i64 e,.int .i64 b,v])) w') :
  bodyPost Tryz.prog Tryz.f40 Q .ret { tmps:=tm,defers:=[]} w':=by
 obtain ⟨c0,c1,c2,-⟩:=hR.cells
 exact bodyPost_ret (v:=.agg #[.int .i64 e,.int .i64 b,v]) (by simp [results,Tryz.results40,go_sem,hT,c0,c1,c2]) rfl hQ
theorem Js14.end_ {w0 w1 w:World} {K V R c:Nat} {e b:Int} {A:Option Addr} {L:List Ce} {d:Md} (h:Js14 w1 w K V e b A c L) (hR:∃u1 u2 u3,Vx w1 R u1 u2 u3) (h0:Below w0.heap.size w0 w1) (hRV:w0.heap.size≤R∧R<V) (he:(ve14 d).1=e) (hb:(ve14 d).2.1=b) (hL:e=0→L=(ve14 d).2.2) :
  Vx (((w.setCell ⟨R,0,none⟩ (.int .i64 e)).setCell ⟨R,1,none⟩ (.int .i64 b)).setCell ⟨R,2,none⟩ (.slice A L.length c)) R e b (.slice A L.length c) ∧
  Ju14 w0 (((w.setCell ⟨R,0,none⟩ (.int .i64 e)).setCell ⟨R,1,none⟩ (.int .i64 b)).setCell ⟨R,2,none⟩ (.slice A L.length c)) d (.returned (.agg #[.int .i64 e,.int .i64 b,.slice A L.length c])):=by
 obtain ⟨h1,h2,h3,h4,h5,h6⟩:=h
 obtain ⟨u1,u2,u3,hR⟩:=hR
 have hr:Vx w R u1 u2 u3:=hR.keep h1
 refine ⟨((hr.set0 e).set1 b).set2 _,A,c,L,by rw [he,hb],fun h=>hL (by rw [←he];exact h),?_,?_⟩
 ·have k:=ownsRow_setCell_below (ownsRow_setCell_below (ownsRow_setCell_below h4 (show (⟨R,0,none⟩:Addr).block<V+1 by show R<V+1;omega) (.int .i64 e)) (show (⟨R,1,none⟩:Addr).block<V+1 by show R<V+1;omega) (.int .i64 b)) (show (⟨R,2,none⟩:Addr).block<V+1 by show R<V+1;omega) (.slice A L.length c)
  exact own_base k (by omega)
 ·have hw:=h0.size
  exact (((below_on h0 h1).setCell hRV.1 _).setCell hRV.1 _).setCell hRV.1 _
theorem ve14_1 {d:Md} (h:qE d≠0):ve14 d=(qE d,-1,[]):=by rw [ve14,if_neg h]
theorem ve14_2 {d:Md} (h:qE d=0) (h2:mi14 d=true):ve14 d=(70,-1,[]):=by rw [ve14,if_pos h,if_pos h2]
theorem ve14_3 {d:Md} (h:qE d=0∧mi14 d=false) {k:Nat} (hk:k<d.s.length) (ha:∀j,j<k→(rw10s d j).2=0) (he:(rw10s d k).2≠0):ve14 d=((rw10s d k).2,(k:Int),[]):=by
 have h0:=er12_all (d:=d) ha;have h1:=er12_stop h0 he d.s.length hk;have h2:er12 d d.s.length≠0:=by rw [h1];exact he
 obtain ⟨k2,a1,a2,a3,a4⟩:=bl14_at h2
 have:k2=k:=by
  rcases Nat.lt_trichotomy k2 k with hl | hl | hl
  ·have:=ha k2 hl;rw [a3,h1] at this;exact absurd this he
  ·exact hl
  ·exact absurd (a4 k hl) he
 rw [ve14,if_pos h.1,if_neg (by rw [h.2];decide),if_neg h2,h1,a1,this]
theorem ve14_4 {d:Md} (h:qE d=0∧mi14 d=false∧er12 d d.s.length=0) (he:(ro11 d).2≠0):ve14 d=((ro11 d).2,-1,[]):=by
 rw [ve14,if_pos h.1,if_neg (by rw [h.2.1];decide),if_pos h.2.2,if_neg he]
theorem ve14_5 {d:Md} (h:qE d=0∧mi14 d=false∧er12 d d.s.length=0∧(ro11 d).2=0) (he:(co12 d).2≠0):ve14 d=((co12 d).2,-1,[]):=by
 rw [ve14,if_pos h.1,if_neg (by rw [h.2.1];decide),if_pos h.2.2.1,if_pos h.2.2.2,if_neg he]
theorem ve14_6 {d:Md} (h:qE d=0∧mi14 d=false∧er12 d d.s.length=0∧(ro11 d).2=0∧(co12 d).2=0) (he:ch13 d≠0):ve14 d=(ch13 d,-1,[]):=by
 rw [ve14,if_pos h.1,if_neg (by rw [h.2.1];decide),if_pos h.2.2.1,if_pos h.2.2.2.1,if_pos h.2.2.2.2,if_neg he]
theorem mg14_0 {d:Md} (h:mg14 d=0):mi14 d=false:=by
 unfold mg14 at h;cases hm:mi14 d with
 | true=>rw [hm] at h;cases h
 | false=>rfl
theorem mg14_70 {d:Md} (h:mg14 d≠0):mi14 d=true∧mg14 d=70:=by
 unfold mg14 at h ⊢;cases hm:mi14 d with
 | true=>exact ⟨rfl,rfl⟩
 | false=>rw [hm] at h;exact absurd rfl h
def Cc14 (w:World) (C:Nat) (f g:Value):Prop:=C<w.heap.size∧w.cell? ⟨C,0,none⟩=some f∧w.cell? ⟨C,1,none⟩=some g
theorem Cc14.keep {w w':World} {C:Nat} {f g:Value} (h:Cc14 w C f g) (hb:Below w.heap.size w w'):Cc14 w' C f g:=by
 obtain ⟨hc,-⟩:=bcell hb;exact ⟨Nat.lt_of_lt_of_le h.1 hb.size,(hc _ _ h.1).trans h.2.1,(hc _ _ h.1).trans h.2.2⟩
theorem Cc14.other {w:World} {C:Nat} {f g:Value} (h:Cc14 w C f g) {p:Addr} (hp:p.block≠C) (v:Value):Cc14 (w.setCell p v) C f g:=by
 obtain ⟨h0,h1,h2⟩:=h;have ne:∀i,p≠(⟨C,i,none⟩:Addr):=fun i e=>hp (by rw [e]);refine ⟨by simpa using h0,?_,?_⟩<;>(rw [World.cell?_setCell_other _ _ _ _ (ne _)];assumption)
theorem Cc14.new (w:World) (f g:Value) (t:Nat):Cc14 (w.alloc (.cells #[f,g] t)) w.heap.size f g:=by
 refine ⟨by simp,?_,?_⟩<;>simp [go_sem]
theorem eqin14 (d:Nat) (f:Fn) (a b:Array Value) (w:World):(Op.equalIn (d+1) 52 (.func f a b) .nilFunc).run Tryz.prog w=.ok false w:=by
 simp [Op.equalIn,run_underlying Tryz.underlying52]
theorem eqnl14 (d:Nat) (w:World):(Op.equalIn (d+1) 52 .nilFunc .nilFunc).run Tryz.prog w=.ok true w:=by
 simp [Op.equalIn,run_underlying Tryz.underlying52]
theorem eq14_func (f:Fn) (a b:Array Value) (w:World):(binOp .eql 52 (.func f a b) Value.nilFunc).run Tryz.prog w=.ok (.bool false) w:=by
 simp only [binOp];simp [show (Op.equal 52 (.func f a b) .nilFunc).run Tryz.prog w=.ok false w from eqin14 9999 f a b w]
theorem eq14_nil (w:World):(binOp .eql 52 Value.nilFunc Value.nilFunc).run Tryz.prog w=.ok (.bool true) w:=by
 simp only [binOp];simp [show (Op.equal 52 .nilFunc .nilFunc).run Tryz.prog w=.ok true w from eqnl14 9999 w]
theorem judge14_v (y:Ma) (d:Md) (w:World) (hw:fWM.p w) (hq:Hq w y d) (hg:qG d=false):Calls Tryz.prog 40 #[dv y d] w fun r w'=>Ju14 w w' d r:=by
 have EF1:=eq14_func;have EF2:=eq14_nil;have HG:=zhy hg;have HBD:=zhy (qG_b12 hg);obtain ⟨M,hM⟩:∃M,w.heap.size=M:=⟨_,rfl⟩;have hms:(w.alloc (dcel y d)).heap.size=M+1:=by rw [size1,hM]
 have S1:=zhy (((((Sx.start w).add fWM hw).add (fQm y d) hq).mkD y d).mk1 (.cells #[.int .i64 0,.int .i64 0,.slice none 0 0] 71))
 have HR1:Hid (Vx ((w.alloc (dcel y d)).alloc (.cells #[.int .i64 0,.int .i64 0,.slice none 0 0] 71)) (M+1) 0 0 (.slice none 0 0)):=by
  have:=Vx.new (w.alloc (dcel y d)) 0 0 (.slice none 0 0);rw [hms] at this;exact this
 have hms2:((w.alloc (dcel y d)).alloc (.cells #[.int .i64 0,.int .i64 0,.slice none 0 0] 71)).heap.size=M+2:=by rw [size1,hms]
 have HSZ:=zhy hms2;have HMM:=zhy hM;rw [hM] at S1;clear hw hq hg hms hms2;go_enter Tryz.func40,Tryz.ntmps40;go_upto_region 1 with (fail);change Code.wp _ _ _ _ ((w.alloc (dcel y d)).alloc (.cells #[.int .i64 0,.int .i64 0,.slice none 0 0] 71));clear hM;generalize (w.alloc (dcel y d)).alloc (.cells #[.int .i64 0,.int .i64 0,.slice none 0 0] 71)=w1 at S1 HR1 HSZ ⊢;obtain ⟨V,hV⟩:∃V,w1.heap.size=V:=⟨_,rfl⟩;have HV1:=zhy hV;have HVM:Hid (V=M+2):=zhy (by rw [←hV];exact HSZ.out);obtain ⟨R,hRR⟩:∃R,M+1=R:=⟨_,rfl⟩;rw [hRR] at HR1 ⊢;have HR:Hid ((∃u1 u2 u3,Vx w1 R u1 u2 u3)∧Below w.heap.size w w1∧(w.heap.size≤R∧R<V)):=zhy ⟨⟨_,_,_,HR1.out⟩,S1.out.1,by have:=HVM.out;have:=HMM.out;omega⟩
 have H0:Hid (Vx (w1.alloc (.cells #[.int .i64 0,.int .i64 (-1),.slice none 0 0] 71)) V 0 (-1) (.slice none 0 0)∧(w1.alloc (.cells #[.int .i64 0,.int .i64 (-1),.slice none 0 0] 71)).heap.size=V+1):=by
  have h1:=Vx.new w1 0 (-1) (.slice none 0 0);have h2:=size1 w1 (.cells #[.int .i64 0,.int .i64 (-1),.slice none 0 0] 71);rw [hV] at h1 h2;exact ⟨h1,h2⟩
 clear HSZ;go_step3;go_upto_region 2 with (fail);generalize hwa:w1.alloc (.cells #[.int .i64 0,.int .i64 (-1),.slice none 0 0] 71)=w3 at H0 ⊢;have HB3:Hid (Below w1.heap.size w1 w3):=zhy (by rw [←hwa];exact new1);clear hwa hV hRR;go_wp2;go_step3;go_wp2_with fail;refine (checks14_v V w3).mono ?_;rintro r w4 ⟨rfl,hk,hb4⟩;obtain ⟨K,hK⟩:∃K,w3.heap.size=K:=⟨_,rfl⟩
 have HJ0:Hid (Js14 w1 w4 K V 0 (-1) none 0 []):=by
  rw [hK] at hk;exact ⟨below_on HB3.out hb4,H0.out.1.keep hb4,hk,World.ownsRow_nil _ _ _ _,by rw [HV1.out];exact Nat.le_refl _,by rw [←hK,H0.out.2];omega⟩
 rw [hK];clear hk hb4 hK HB3 H0;go_wp2_with fail;go_loopw [10] (fun i wr=>∃(j:Nat) (A:Option Addr) (c:Nat) (L:List Ce),j≤6∧i=.int .i64 j∧Hid (Js14 w1 wr K V 0 (-1) A c L)∧Hid (Jk14 d j)∧Hid (5≤j→L=cs12 d)) (fun i _=>6-(intOf i).toNat)
 case atStart=>exact ⟨0,none,0,[],by omega,rfl,HJ0,trivial,zhy fun h=>absurd h (by omega)⟩
 case round =>
  obtain ⟨j,A,c,L,hj,rfl,HJ,HK,HL⟩:=hrel;clear HJ0;have hj8:j=0∨j=1∨j=2∨j=3∨j=4∨j=5∨j=6:=by omega
  rcases hj8 with hj0 | hj0 | hj0 | hj0 | hj0 | hj0 | hj0
  ·subst hj0
   have HC:Hid (∀wq,Js14 w1 wq K V 0 (-1) A c L→Calls Tryz.prog 21 #[dv y d] wq fun r w'=>r=.returned (.int .i64 (qE d))∧Below wq.heap.size wq w'):=by
    intro wq hjs;have hs:=S1.out.call hjs.1;exact kmmay y d wq hs.2.2.2.1 hs.2.2.1 HG.out
   obtain ⟨kl,⟨k0,k1⟩,⟨k2,k3⟩,⟨k4,k5⟩,⟨k6,k7⟩,⟨k8,k9⟩,k10,k11⟩:=HJ.out.2.2.1;obtain ⟨-,⟨d0,d1,d2,d3,d4⟩,-⟩:=S1.out.call HJ.out.1;have vl:=HJ.out.2.1.lt;go_wp2_with fail;refine (HC.out _ (HJ.out.call new1)).mono ?_;rintro r w2 ⟨rfl,hb2⟩;have J2:=zhy ((HJ.out.call new1).call hb2);clear hb2 HC HJ kl k0 k1 k2 k3 k4 k5 k6 k7 k8 k9 k10 k11 d0 d1 d2 d3 d4 vl;obtain ⟨x0,x1,x2,x3,x4,x5⟩:=J2.out.2.1.cells;have vl:=J2.out.2.1.lt;by_cases he:qE d=0
   ·rw [he];have HK2:Hid (Jk14 d 1):=zhy he;have J3:=zhy (J2.out.set0 0);clear he HK;go_wp2_with fail;go_roundw
    case rel=>exact ⟨1,A,c,L,by omega,rfl,J3,HK2,zhy fun h=>absurd h (by omega)⟩
    case measure=>simp [intOf]
   ·have HV:Hid (ve14 d=(qE d,-1,[])):=zhy (ve14_1 he);obtain ⟨E,hE⟩:∃E,qE d=E:=⟨_,rfl⟩;rw [hE] at HV he ⊢;have hne:(E != 0)=true:=by simpa using he
    have HE:=zhy (Js14.end_ (d:=d) (J2.out.set0 E) HR.out.1 HR.out.2.1 HR.out.2.2 (by rw [HV.out]) (by rw [HV.out]) (fun h=>absurd h he));obtain ⟨r0,r1,r2,r3,r4,r5⟩:=(HR1.out.keep J2.out.1).cells;have rl:=(HR1.out.keep J2.out.1).lt;have hrv:R<V:=HR.out.2.2.2;clear hE he HK J2;go_wp2_with fail;try rw [Exit.noGoto_ret]
    refine judge14_end _ _ R E (-1) _ rfl HE.out.1 _ ?_;exact HE.out.2
  ·subst hj0
   have HC:Hid (∀wq,Js14 w1 wq K V 0 (-1) A c L→Calls Tryz.prog 132 #[dv y d] wq fun r w'=>r=.returned (.int .i64 (mg14 d))∧Below wq.heap.size wq w'):=by
    intro wq hjs;have hs:=S1.out.call hjs.1;exact migration14_v y d wq hs.2.2.1 (qE_parts HK.out).2.2.1 (qE_parts HK.out).2.2.2.1
   obtain ⟨kl,⟨k0,k1⟩,⟨k2,k3⟩,⟨k4,k5⟩,⟨k6,k7⟩,⟨k8,k9⟩,k10,k11⟩:=HJ.out.2.2.1;obtain ⟨-,⟨d0,d1,d2,d3,d4⟩,-⟩:=S1.out.call HJ.out.1;have vl:=HJ.out.2.1.lt;go_wp2_with fail;refine (HC.out _ (HJ.out.call new1)).mono ?_;rintro r w2 ⟨rfl,hb2⟩;have J2:=zhy ((HJ.out.call new1).call hb2);clear hb2 HC HJ kl k0 k1 k2 k3 k4 k5 k6 k7 k8 k9 k10 k11 d0 d1 d2 d3 d4 vl;obtain ⟨x0,x1,x2,x3,x4,x5⟩:=J2.out.2.1.cells;have vl:=J2.out.2.1.lt;by_cases he:mg14 d=0
   ·rw [he];have HK2:Hid (Jk14 d 2):=zhy ⟨HK.out,mg14_0 he⟩;have J3:=zhy (J2.out.set0 0);clear he HK;go_wp2_with fail;go_roundw
    case rel=>exact ⟨2,A,c,L,by omega,rfl,J3,HK2,zhy fun h=>absurd h (by omega)⟩
    case measure=>simp [intOf]
   ·have HV:Hid (ve14 d=(70,-1,[])):=zhy (ve14_2 HK.out (mg14_70 he).1);obtain ⟨E,hE⟩:∃E:Int,70=E:=⟨_,rfl⟩;rw [(mg14_70 he).2];rw [hE] at HV ⊢;have he:E≠0:=by omega
    skip;have hne:(E != 0)=true:=by simpa using he
    have HE:=zhy (Js14.end_ (d:=d) (J2.out.set0 E) HR.out.1 HR.out.2.1 HR.out.2.2 (by rw [HV.out]) (by rw [HV.out]) (fun h=>absurd h he));obtain ⟨r0,r1,r2,r3,r4,r5⟩:=(HR1.out.keep J2.out.1).cells;have rl:=(HR1.out.keep J2.out.1).lt;have hrv:R<V:=HR.out.2.2.2;clear hE he HK J2;go_wp2_with fail;try rw [Exit.noGoto_ret]
    refine judge14_end _ _ R E (-1) _ rfl HE.out.1 _ ?_;exact HE.out.2
  ·subst hj0;rw [show ((2:Nat):Int)=2 from rfl]
   have HC:Hid (∀wq (k:Nat),Js14 w1 wq K V 0 (-1) A c L→Calls Tryz.prog 24 #[dv y d,.int .i64 k] wq fun r w'=>r=.returned (.int .i64 (rw10s d k).2)∧Below wq.heap.size wq w'):=by
    intro wq k hjs;have hs:=S1.out.call hjs.1;exact ktcheck fWM y d k wq hs.2.2.2.1 hs.2.2.1 HG.out
   obtain ⟨kl,⟨k0,k1⟩,⟨k2,k3⟩,⟨k4,k5⟩,⟨k6,k7⟩,⟨k8,k9⟩,k10,k11⟩:=HJ.out.2.2.1;obtain ⟨-,⟨d0,d1,d2,d3,d4⟩,-⟩:=S1.out.call HJ.out.1;have vl:=HJ.out.2.1.lt;obtain ⟨C,hC⟩:∃C,wr.heap.size=C:=⟨_,rfl⟩
   have HCC:Hid (Cc14 (wr.alloc (.cells #[Value.nilFunc,.func (.func 24) #[] #[]] 137)) C Value.nilFunc (.func (.func 24) #[] #[])):=by
    rw [←hC];exact Cc14.new wr _ _ _
   have HJC:=zhy (HJ.out.call (w':=wr.alloc (.cells #[Value.nilFunc,.func (.func 24) #[] #[]] 137)) new1);have hVC:V<C:=by omega
   have HSL:=zhy (S1.out.2.2.1.2.2.1.len);have HZL:=zhy (S1.out.2.2.1.zlen);go_upto_region 8 with (fail);try rw [hC]
   generalize wr.alloc (.cells #[Value.nilFunc,.func (.func 24) #[] #[]] 137)=wc at HCC HJC ⊢;clear HJ kl k0 k1 k2 k3 k4 k5 k6 k7 k8 k9 k10 k11 d0 d1 d2 d3 d4 vl hC;obtain ⟨-,⟨d0,d1,d2,d3,d4⟩,-⟩:=S1.out.call HJC.out.1;have hnl:d.s.length≤40:=HBD.out.1;go_wp2_with fail;go_loopw [6,28] (fun u i wq=>∃k:Nat,k≤d.s.length∧i=.int .i64 k∧Hid (Js14 w1 wq K V 0 (-1) A c L)∧Hid (Cc14 wq C Value.nilFunc (.func (.func 24) #[] #[]))∧Hid (∀i:Nat,i<k→(rw10s d i).2=0)) (fun _ i _=>d.s.length-(intOf i).toNat)
   case atStart=>exact ⟨0,by omega,rfl,HJC,HCC,zhy fun i hi=>absurd hi (by omega)⟩
   case round =>
    clear HJC HCC d0 d1 d2 d3 d4;obtain ⟨k,hk,rfl,HJ,HCC,HA⟩:=hrel;obtain ⟨cl,c0,c1⟩:=HCC.out;obtain ⟨-,⟨d0,d1,d2,d3,d4⟩,-⟩:=S1.out.call HJ.out.1;by_cases hkn:k<d.s.length
    ·go_wp2_with fail;refine (HC.out _ k HJ.out).mono ?_;rintro r w2 ⟨rfl,hb2⟩;have J2:=zhy (HJ.out.call hb2);have C2:=zhy (HCC.out.keep hb2);clear hb2 HJ HCC cl c0 c1 d0 d1 d2 d3 d4;obtain ⟨x0,x1,x2,x3,x4,x5⟩:=J2.out.2.1.cells;have vl:=J2.out.2.1.lt;obtain ⟨E,hE⟩:∃E,(rw10s d k).2=E:=⟨_,rfl⟩;rw [hE];by_cases he:E=0
     ·subst he
      have HA2:Hid (∀i:Nat,i<k+1→(rw10s d i).2=0):=zhy fun i hi=>by
       by_cases h:i=k
       ·rw [h];exact hE
       ·exact HA.out i (by omega)
      have J3:=zhy (J2.out.set0 0);have C3:=zhy (C2.out.other (p:=⟨V,0,none⟩) (by show V≠C;omega) (.int .i64 0));clear hE HA;go_wp2_with fail;go_roundw
      case rel=>exact ⟨k+1,by omega,by go_num,J3,C3,HA2⟩
      case measure=>simp [intOf];omega
     ·have HV:Hid (ve14 d=(E,(k:Int),[])):=by
       have:=ve14_3 HK.out hkn HA.out (by rw [hE];exact he);rw [hE] at this;exact this
      have hne:(E != 0)=true:=by simpa using he
      have HE:=zhy (Js14.end_ (d:=d) ((J2.out.set0 E).set1 k) HR.out.1 HR.out.2.1 HR.out.2.2 (by rw [HV.out]) (by rw [HV.out]) (fun h=>absurd h he));obtain ⟨r0,r1,r2,r3,r4,r5⟩:=(HR1.out.keep J2.out.1).cells;have rl:=(HR1.out.keep J2.out.1).lt;have hrv:R<V:=HR.out.2.2.2;clear hE he HK J2 HA;go_wp2_with fail;try rw [Exit.noGoto_ret]
      refine judge14_end _ _ R E k _ rfl HE.out.1 _ ?_;exact HE.out.2
    ·have hkn2:d.s.length=k:=by omega
     have HNN:=zhy hkn2;have hkn3:¬(k:Int)<(d.s.length:Int):=by omega
     clear hkn2;have HK2:Hid (Jk14 d 3):=zhy ⟨HK.out.1,HK.out.2,by rw [HNN.out];exact er12_all HA.out⟩;clear HK HA;go_wp2_with fail;go_roundw
     case rel=>exact ⟨3,A,c,L,by omega,rfl,HJ,HK2,zhy fun h=>absurd h (by omega)⟩
     case measure=>simp [intOf]
  ·subst hj0
   have HC:Hid (∀wq,Js14 w1 wq K V 0 (-1) A c L→Calls Tryz.prog 25 #[dv y d] wq fun r w'=>r=.returned (.int .i64 ((ro11 d).2))∧Below wq.heap.size wq w'):=by
    intro wq hjs;have hs:=S1.out.call hjs.1;exact check11_v y d wq hs.2.2.1 (by have:=HBD.out.1;omega) (fun z hz=>by have:=HBD.out.2 z hz;omega)
   obtain ⟨kl,⟨k0,k1⟩,⟨k2,k3⟩,⟨k4,k5⟩,⟨k6,k7⟩,⟨k8,k9⟩,k10,k11⟩:=HJ.out.2.2.1;obtain ⟨-,⟨d0,d1,d2,d3,d4⟩,-⟩:=S1.out.call HJ.out.1;have vl:=HJ.out.2.1.lt;go_wp2_with fail;refine (HC.out _ (HJ.out.call new1)).mono ?_;rintro r w2 ⟨rfl,hb2⟩;have J2:=zhy ((HJ.out.call new1).call hb2);clear hb2 HC HJ kl k0 k1 k2 k3 k4 k5 k6 k7 k8 k9 k10 k11 d0 d1 d2 d3 d4 vl;obtain ⟨x0,x1,x2,x3,x4,x5⟩:=J2.out.2.1.cells;have vl:=J2.out.2.1.lt;by_cases he:(ro11 d).2=0
   ·rw [he];have HK2:Hid (Jk14 d 4):=zhy ⟨HK.out.1,HK.out.2.1,HK.out.2.2,he⟩;have J3:=zhy (J2.out.set0 0);clear he HK;go_wp2_with fail;go_roundw
    case rel=>exact ⟨4,A,c,L,by omega,rfl,J3,HK2,zhy fun h=>absurd h (by omega)⟩
    case measure=>simp [intOf]
   ·have HV:Hid (ve14 d=((ro11 d).2,-1,[])):=zhy (ve14_4 HK.out he);obtain ⟨E,hE⟩:∃E,(ro11 d).2=E:=⟨_,rfl⟩;rw [hE] at HV he ⊢;have hne:(E != 0)=true:=by simpa using he
    have HE:=zhy (Js14.end_ (d:=d) (J2.out.set0 E) HR.out.1 HR.out.2.1 HR.out.2.2 (by rw [HV.out]) (by rw [HV.out]) (fun h=>absurd h he));obtain ⟨r0,r1,r2,r3,r4,r5⟩:=(HR1.out.keep J2.out.1).cells;have rl:=(HR1.out.keep J2.out.1).lt;have hrv:R<V:=HR.out.2.2.2;clear hE he HK J2;go_wp2_with fail;try rw [Exit.noGoto_ret]
    refine judge14_end _ _ R E (-1) _ rfl HE.out.1 _ ?_;exact HE.out.2
  ·subst hj0
   have HC:Hid (∀wq,Js14 w1 wq K V 0 (-1) A c L→Calls Tryz.prog 133 #[.pointer (some ⟨V,0,none⟩),dv y d] wq fun r w'=>∃A' c',r=.returned (.int .i64 (co12 d).2)∧Js14 w1 w' K V 0 (-1) A' c' (co12 d).1):=by
    intro wq hjs;refine (costs14_v V 0 (-1) _ y d wq hjs.2.1 (S1.out.call hjs.1).2.2.1 HG.out).mono ?_;rintro r w' ⟨A',c',rfl,h1,h2,h3⟩;exact ⟨A',c',rfl,hjs.certs h1 h2 h3⟩
   obtain ⟨kl,⟨k0,k1⟩,⟨k2,k3⟩,⟨k4,k5⟩,⟨k6,k7⟩,⟨k8,k9⟩,k10,k11⟩:=HJ.out.2.2.1;obtain ⟨-,⟨d0,d1,d2,d3,d4⟩,-⟩:=S1.out.call HJ.out.1;have vl:=HJ.out.2.1.lt;go_wp2_with fail;refine (HC.out _ (HJ.out.call new1)).mono ?_;rintro r w2 ⟨A',c',rfl,hj2⟩;have J2:=zhy hj2;clear hj2 HC HJ kl k0 k1 k2 k3 k4 k5 k6 k7 k8 k9 k10 k11 d0 d1 d2 d3 d4 vl;obtain ⟨x0,x1,x2,x3,x4,x5⟩:=J2.out.2.1.cells;have vl:=J2.out.2.1.lt;by_cases he:(co12 d).2=0
   ·rw [he];have HK2:Hid (Jk14 d 5):=zhy ⟨HK.out.1,HK.out.2.1,HK.out.2.2.1,HK.out.2.2.2,he⟩;have J3:=zhy (J2.out.set0 0);have HL2:Hid (5≤5→(co12 d).1=cs12 d):=zhy fun _=>(co12_ok he).2.2.2;clear he HK;go_wp2_with fail;go_roundw
    case rel=>exact ⟨5,A',c',(co12 d).1,by omega,rfl,J3,HK2,HL2⟩
    case measure=>simp [intOf]
   ·have HV:Hid (ve14 d=((co12 d).2,-1,[])):=zhy (ve14_5 HK.out he);obtain ⟨E,hE⟩:∃E,(co12 d).2=E:=⟨_,rfl⟩;rw [hE] at HV he ⊢;have hne:(E != 0)=true:=by simpa using he
    have HE:=zhy (Js14.end_ (d:=d) (J2.out.set0 E) HR.out.1 HR.out.2.1 HR.out.2.2 (by rw [HV.out]) (by rw [HV.out]) (fun h=>absurd h he));obtain ⟨r0,r1,r2,r3,r4,r5⟩:=(HR1.out.keep J2.out.1).cells;have rl:=(HR1.out.keep J2.out.1).lt;have hrv:R<V:=HR.out.2.2.2;clear hE he HK J2;go_wp2_with fail;try rw [Exit.noGoto_ret]
    refine judge14_end _ _ R E (-1) _ rfl HE.out.1 _ ?_;exact HE.out.2
  ·subst hj0
   have HC:Hid (∀wq,Js14 w1 wq K V 0 (-1) A c L→Calls Tryz.prog 27 #[dv y d] wq fun r w'=>r=.returned (.int .i64 (ch13 d))∧Below wq.heap.size wq w'):=by
    intro wq hjs;have hs:=S1.out.call hjs.1;exact check13_v y d wq hs.2.2.1 (by have:=HBD.out.1;omega) (fun z hz=>by have:=HBD.out.2 z hz;omega)
   obtain ⟨kl,⟨k0,k1⟩,⟨k2,k3⟩,⟨k4,k5⟩,⟨k6,k7⟩,⟨k8,k9⟩,k10,k11⟩:=HJ.out.2.2.1;obtain ⟨-,⟨d0,d1,d2,d3,d4⟩,-⟩:=S1.out.call HJ.out.1;have vl:=HJ.out.2.1.lt;go_wp2_with fail;refine (HC.out _ (HJ.out.call new1)).mono ?_;rintro r w2 ⟨rfl,hb2⟩;have J2:=zhy ((HJ.out.call new1).call hb2);clear hb2 HC HJ kl k0 k1 k2 k3 k4 k5 k6 k7 k8 k9 k10 k11 d0 d1 d2 d3 d4 vl;obtain ⟨x0,x1,x2,x3,x4,x5⟩:=J2.out.2.1.cells;have vl:=J2.out.2.1.lt;by_cases he:ch13 d=0
   ·rw [he];have HK2:Hid (Jk14 d 6):=zhy (ve14_zero.2 ⟨HK.out.1,HK.out.2.1,HK.out.2.2.1,HK.out.2.2.2.1,HK.out.2.2.2.2,he⟩);have J3:=zhy (J2.out.set0 0);clear he HK;go_wp2_with fail;go_roundw
    case rel=>exact ⟨6,A,c,L,by omega,rfl,J3,HK2,zhy fun _=>HL.out (by omega)⟩
    case measure=>simp [intOf]
   ·have HV:Hid (ve14 d=(ch13 d,-1,[])):=zhy (ve14_6 HK.out he);obtain ⟨E,hE⟩:∃E,ch13 d=E:=⟨_,rfl⟩;rw [hE] at HV he ⊢;have hne:(E != 0)=true:=by simpa using he
    have HE:=zhy (Js14.end_ (d:=d) (J2.out.set0 E) HR.out.1 HR.out.2.1 HR.out.2.2 (by rw [HV.out]) (by rw [HV.out]) (fun h=>absurd h he));obtain ⟨r0,r1,r2,r3,r4,r5⟩:=(HR1.out.keep J2.out.1).cells;have rl:=(HR1.out.keep J2.out.1).lt;have hrv:R<V:=HR.out.2.2.2;clear hE he HK J2;go_wp2_with fail;try rw [Exit.noGoto_ret]
    refine judge14_end _ _ R E (-1) _ rfl HE.out.1 _ ?_;exact HE.out.2
  ·subst hj0;have HV:=zhy (ve14_ok HK.out);have HE:=zhy (Js14.end_ (d:=d) HJ.out HR.out.1 HR.out.2.1 HR.out.2.2 (by rw [HV.out]) (by rw [HV.out]) (fun _=>by rw [HV.out];exact HL.out (by omega)));obtain ⟨x0,x1,x2,x3,x4,x5⟩:=HJ.out.2.1.cells;have vl:=HJ.out.2.1.lt;obtain ⟨r0,r1,r2,r3,r4,r5⟩:=(HR1.out.keep HJ.out.1).cells;have rl:=(HR1.out.keep HJ.out.1).lt;have hrv:R<V:=HR.out.2.2.2;clear HK HJ HL;go_wp2_with fail;try rw [Exit.noGoto_ret]
   refine judge14_end _ _ R 0 (-1) _ rfl HE.out.1 _ ?_;exact HE.out.2
theorem field14_0 (a b c:Value) (w:World):(Instr.field 71 (.agg #[a,b,c]) 0).run Tryz.prog w=.ok a w:=by kernel_rfl
theorem field14_1 (a b c:Value) (w:World):(Instr.field 71 (.agg #[a,b,c]) 1).run Tryz.prog w=.ok b w:=by kernel_rfl
theorem vmay14_v (y:Ma) (d:Md) (w:World) (hw:fWM.p w) (hq:Hq w y d) (hg:qG d=false):Calls Tryz.prog 13 #[dv y d] w fun r w'=>r=.returned (.int .i64 (ve14 d).1)∧Below w.heap.size w w':=by
 have S0:=zhy ((((Sx.start w).add fWM hw).add (fQm y d) hq).mkD y d);have FL0:=field14_0;have FL1:=field14_1;have HG:=zhy hg;obtain ⟨B,hB⟩:∃B,w.heap.size=B:=⟨_,rfl⟩;rw [hB] at S0;clear hw hq hg;go_enter Tryz.func13,Tryz.ntmps13;go_upto_region 1 with (fail);change Code.wp _ _ _ _ (w.alloc (dcel y d));clear hB;generalize w.alloc (dcel y d)=w1 at S0 ⊢;obtain ⟨-,⟨d0,d1,d2,d3,d4⟩,-⟩:=S0.out;go_wp2_with fail;refine (judge14_v y d w1 S0.out.2.2.2.1 S0.out.2.2.1 HG.out).mono ?_;rintro r w2 ⟨A,c,L,rfl,-,-,hb⟩;have HB:=zhy (S0.out.call hb).1;clear hb S0 d0 d1 d2 d3 d4;go_wp2_with fail;go_ret;exact ⟨rfl,HB.out⟩
theorem blame14_v (y:Ma) (d:Md) (w:World) (hw:fWM.p w) (hq:Hq w y d) (hg:qG d=false):Calls Tryz.prog 15 #[dv y d] w fun r w'=>r=.returned (.int .i64 (ve14 d).2.1)∧Below w.heap.size w w':=by
 have S0:=zhy ((((Sx.start w).add fWM hw).add (fQm y d) hq).mkD y d);have FL0:=field14_0;have FL1:=field14_1;have HG:=zhy hg;obtain ⟨B,hB⟩:∃B,w.heap.size=B:=⟨_,rfl⟩;rw [hB] at S0;clear hw hq hg;go_enter Tryz.func15,Tryz.ntmps15;go_upto_region 1 with (fail);change Code.wp _ _ _ _ (w.alloc (dcel y d));clear hB;generalize w.alloc (dcel y d)=w1 at S0 ⊢;obtain ⟨-,⟨d0,d1,d2,d3,d4⟩,-⟩:=S0.out;go_wp2_with fail;refine (judge14_v y d w1 S0.out.2.2.2.1 S0.out.2.2.1 HG.out).mono ?_;rintro r w2 ⟨A,c,L,rfl,-,-,hb⟩;have HB:=zhy (S0.out.call hb).1;clear hb S0 d0 d1 d2 d3 d4;go_wp2_with fail;go_ret;exact ⟨rfl,HB.out⟩
def Ac14 (w w':World) (L:List Ce) (e:Int) (r:Ending):Prop:=∃A c,r=.returned (.tuple #[.slice A L.length c,.int .i64 e])∧w'.ownsRow w.heap.size 39 3 (.slice A L.length c) L.length (clr ce3 L)∧Below w.heap.size w w'
theorem accept14_v (y:Ma) (d:Md) (w:World) (hw:fWM.p w) (hq:Hq w y d) (hg:qG d=false):Calls Tryz.prog 12 #[dv y d] w fun r w'=>Ac14 w w' (ve14 d).2.2 (ve14 d).1 r:=by
 have S0:=zhy ((((Sx.start w).add fWM hw).add (fQm y d) hq).mkD y d);have HG:=zhy hg;obtain ⟨X,hX⟩:∃X,ve14 d=X:=⟨_,rfl⟩;obtain ⟨e,b,L0⟩:=X;have HX0:=zhy hX;have HVN:Hid (e≠0→L0=[]):=zhy (by have:=ve14_no (d:=d);rw [hX] at this;exact this);rw [hX];dsimp only;clear hX;have HSZ:Hid (w.heap.size≤(w.alloc (dcel y d)).heap.size):=zhy (by rw [size1];omega);obtain ⟨B,hB⟩:∃B,w.heap.size=B:=⟨_,rfl⟩;rw [hB] at S0;clear hw hq hg;go_enter Tryz.func12,Tryz.ntmps12;go_upto_region 1 with (fail);change Code.wp _ _ _ _ (w.alloc (dcel y d));clear hB;generalize w.alloc (dcel y d)=w1 at S0 HSZ ⊢;obtain ⟨-,⟨d0,d1,d2,d3,d4⟩,-⟩:=S0.out;go_wp2_with fail;have HJ:=judge14_v y d w1 S0.out.2.2.2.1 S0.out.2.2.1 HG.out;unfold Ju14 at HJ;rw [HX0.out] at HJ;dsimp only at HJ;refine HJ.mono ?_;clear HJ;rintro r w2 ⟨A,c,L,rfl,hL,ho,hb⟩;have HL:=zhy hL;have HO:Hid ((w2.alloc (.cells #[.int .i64 e,.int .i64 b,.slice A L.length c] 71)).ownsRow w.heap.size 39 3 (.slice A L.length c) L.length (clr ce3 L)):=zhy (own_base (own_below ho new1 (Nat.le_refl _)) HSZ.out);have HB:Hid (Below w.heap.size w (w2.alloc (.cells #[.int .i64 e,.int .i64 b,.slice A L.length c] 71))):=zhy ((S0.out.call hb).call new1).1;have HX:Hid (Vx (w2.alloc (.cells #[.int .i64 e,.int .i64 b,.slice A L.length c] 71)) w2.heap.size e b (.slice A L.length c)):=zhy (Vx.new _ _ _ _);clear hb ho hL S0 d0 d1 d2 d3 d4;go_upto_region 2 with (fail);generalize w2.alloc (.cells #[.int .i64 e,.int .i64 b,.slice A L.length c] 71)=w3 at HO HB HX ⊢;obtain ⟨x0,x1,x2,-⟩:=HX.out.cells;by_cases he:e=0
 ·subst he;obtain rfl:=HL.out rfl;go_wp2_with fail;go_ret2;exact ⟨A,c,rfl,HO.out,HB.out⟩
 ·have hne:(e != 0)=true:=by simpa using he
  obtain rfl:=HVN.out he;clear he;go_wp2_with fail;go_quiet (fail);go_wp2;go_ret2;exact ⟨none,0,rfl,World.ownsRow_nil _ _ _ _,below_draws HB.out _⟩
def lo14 (l:List Int):Md×List Ce×Int:=
 if (qP l).2=0 then (if (ve14 (qP l).1).1=0 then ((qP l).1,(ve14 (qP l).1).2.2,0) else (Md.zero,[],(ve14 (qP l).1).1)) else (Md.zero,[],(qP l).2)
theorem lo14_1 {l:List Int} {d:Md} {e:Int} (h:qP l=(d,e)) (he:e≠0):lo14 l=(Md.zero,[],e):=by rw [lo14,h];exact if_neg he
theorem lo14_2 {l:List Int} {d:Md} (h:qP l=(d,0)) (he:(ve14 d).1≠0):lo14 l=(Md.zero,[],(ve14 d).1):=by rw [lo14,h,if_pos rfl,if_neg he]
theorem lo14_3 {l:List Int} {d:Md} (h:qP l=(d,0)) (he:(ve14 d).1=0):lo14 l=(d,(ve14 d).2.2,0):=by rw [lo14,h,if_pos rfl,if_pos he]
def Ld14 (w w':World) (T:Md×List Ce×Int) (r:Ending):Prop:=∃y A c,r=.returned (.tuple #[dv y T.1,.slice A T.2.1.length c,.int .i64 T.2.2])∧Hq w' y T.1∧w'.ownsRow w.heap.size 39 3 (.slice A T.2.1.length c) T.2.1.length (clr ce3 T.2.1)∧Below w.heap.size w w'
theorem load14_end (tm:Array Value) (w':World) (T:Nat) (y:Ma) (d:Md) (v:Value) (e:Int) (hT:tm[2]?.getD undef=.pointer (some ⟨T,0,none⟩)) (h3:tm[3]?.getD undef=v) (h4:tm[4]?.getD undef=.int .i64 e) (hM:Db w' T y d) (R:Ending→World→Prop)
  (hR:R (.returned (.tuple #[dv y d,v,.int .i64 e])) w'):bodyPost Tryz.prog Tryz.f18 R .ret { tmps:=tm,defers:=[]} w':=by
 obtain ⟨h0,c1,c2,c3,c4⟩:=hM
 exact bodyPost_ret (v:=.tuple #[dv y d,v,.int .i64 e]) (by simp [results,Tryz.results18,go_sem,hT,h3,h4,c1,c2,c3,c4]) rfl hR
theorem sp_put4 (w:World) (B:Nat) (y:Ma) (d:Md):Sp B (B+1) w (put4 w B y d):=
 ((((Sp.refl B (B+1) w).set (Nat.le_refl _) (Nat.lt_succ_self _) 0 _).set (Nat.le_refl _) (Nat.lt_succ_self _) 1 _).set (Nat.le_refl _) (Nat.lt_succ_self _) 2 _).set (Nat.le_refl _) (Nat.lt_succ_self _) 3 _
theorem own_put4 {w:World} {base e size n B:Nat} {v:Value} {xs:List Value} (h:w.ownsRow base e size v n xs) (hB:B<base) (y:Ma) (d:Md):(put4 w B y d).ownsRow base e size v n xs:=
 ownsRow_setCell_below (ownsRow_setCell_below (ownsRow_setCell_below (ownsRow_setCell_below h (show (⟨B,0,none⟩:Addr).block<base from hB) _) (show (⟨B,1,none⟩:Addr).block<base from hB) _) (show (⟨B,2,none⟩:Addr).block<base from hB) _) (show (⟨B,3,none⟩:Addr).block<base from hB) _
theorem load14_v (A:Option Addr) (c n:Nat) (l:List Int) (w:World) (hw:fWM.p w) (hr:Rd w A c l) (hn:l.length=n) (hl:n≤3001):Calls Tryz.prog 18 #[.slice A n c] w fun r w'=>Ld14 w w' (lo14 l) r:=by
 have HBY:=zhy hr.byt;obtain ⟨R,hR⟩:∃R,w.heap.size=R:=⟨_,rfl⟩;have S0:=zhy (((Sx.start w).add fWM hw).add (fR A c l) hr |>.mk1 (dcel Ma.zero Md.zero))
 have HR:Hid ((Mf (w.alloc (dcel Ma.zero Md.zero)) R∧Db (w.alloc (dcel Ma.zero Md.zero)) R Ma.zero Md.zero)∧(w.alloc (dcel Ma.zero Md.zero)).heap.size=R+1):=by
  rw [←hR];exact zhy ⟨⟨Mf.new w _ _,Db.new w _ _⟩,size1 _ _⟩
 have HRW:=zhy hR;have HL:=zhy (And.intro hn hl);clear hw hr hl hn;go_enter Tryz.func18,Tryz.ntmps18;go_upto_region 1 with (fail);change Code.wp _ _ _ _ (w.alloc (dcel Ma.zero Md.zero));try rw [hR]
 generalize w.alloc (dcel Ma.zero Md.zero)=w1 at S0 HR ⊢;clear hR;have HC:=zhy (mparse_v A c n l w1 S0.out.2.2.1 S0.out.2.1 HL.out.1 HL.out.2);go_wp2_with fail;refine HC.out.mono ?_;rintro r w2 ⟨y,rfl,hq,how,hb⟩;obtain ⟨d,e,hP⟩:∃d e,qP l=(d,e):=⟨_,_,rfl⟩;have HP:=zhy hP;rw [hP] at hq how ⊢;dsimp only at hq how ⊢;have S2:=zhy (((S0.out.call hb).add (fQm y d) hq).mkD y d);have HR2:=zhy (And.intro ((HR.out.1.1.keep hb).keep (w':=w2.alloc (dcel y d)) new1) ((HR.out.1.2.keep hb).keep (w':=w2.alloc (dcel y d)) new1))
 have HOW:Hid (Ow (w2.alloc (dcel y d)) (R+1) w2.heap.size y d):=by
  rw [←HR.out.2];exact zhy (how.keep new1)
 have hRB:R<w2.heap.size:=by have:=hb.size;have:=HR.out.2;omega
 obtain ⟨B,hB⟩:∃B,w2.heap.size=B:=⟨_,rfl⟩;rw [hB] at S2 hRB HOW;clear hq how hb S0 HR HC hP;go_upto_region 2 with (fail);change Code.wp _ _ _ _ (w2.alloc (dcel y d));try rw [hB]
 generalize w2.alloc (dcel y d)=w3 at S2 HR2 HOW ⊢;clear hB;by_cases he:e=0
 ·subst he;obtain ⟨hqe,-,-⟩:=qP_inv HBY.out HP.out;have HGG:=zhy (qE_qG hqe);clear hqe;obtain ⟨-,⟨d0,d1,d2,d3,d4⟩,-⟩:=S2.out;go_wp2_with fail;refine (accept14_v y d w3 S2.out.2.2.2.2.1 S2.out.2.2.1 HGG.out).mono ?_;rintro r w4 ⟨A',c',rfl,ho,hb⟩;have HO:=zhy ho;have S4:=zhy (S2.out.call hb);have HR4:=zhy (And.intro (HR2.out.1.keep hb) (HR2.out.2.keep hb));have HOW:=zhy (HOW.out.keep hb);have HS3:Hid (w.heap.size≤w3.heap.size∧R<w3.heap.size):=zhy ⟨S2.out.1.size,HR2.out.1.1⟩;clear ho hb S2 HR2 d0 d1 d2 d3 d4;obtain ⟨-,⟨d0,d1,d2,d3,d4⟩,-⟩:=S4.out;obtain ⟨⟨rl,rf⟩,-,r0,r1,r2,r3⟩:=HR4.out;have rf0:=rf 0;have rf1:=rf 1;have rf2:=rf 2;have rf3:=rf 3;clear rf;obtain ⟨X,hX⟩:∃X,ve14 d=X:=⟨_,rfl⟩;obtain ⟨e,b,L⟩:=X;have HX:=zhy hX;rw [hX] at HO ⊢;dsimp only at HO ⊢;clear hX;by_cases he:e=0
  ·subst he;have HN:Hid (lo14 l=(d,L,0)):=by rw [Hid,lo14_3 HP.out (by rw [HX.out]),HX.out]
   have HD:=zhy (put4_db HR4.out.2 y d);have HBB:Hid (Below w.heap.size w (put4 w4 R y d)):=zhy (put4_below S4.out.1 (by rw [HRW.out];exact Nat.le_refl _) y d);have HQ:Hid (Hq (put4 w4 R y d) y d):=zhy (S4.out.2.2.1.apart HOW.out (sp_put4 w4 R y d) (.inr (Nat.le_refl _)));have HO2:Hid ((put4 w4 R y d).ownsRow w.heap.size 39 3 (.slice A' L.length c') L.length (clr ce3 L)):=zhy (own_base (own_put4 HO.out HS3.out.2 y d) HS3.out.1);clear HOW HO HS3 HX HP S4 HR4;go_wp2_with fail;refine load14_end _ _ R y d _ 0 rfl rfl rfl HD.out _ ?_;show Ld14 _ _ (lo14 l) _;rw [HN.out];exact ⟨y,A',c',rfl,HQ.out,HO2.out,HBB.out⟩
  ·have HN:Hid (lo14 l=(Md.zero,[],e)):=by rw [Hid,lo14_2 HP.out (by rw [HX.out];exact he),HX.out]
   have hne:(e != 0)=true:=by simpa using he
   have HD:=zhy (put4_db HR4.out.2 Ma.zero Md.zero);have HBB:Hid (Below w.heap.size w (put4 w4 R Ma.zero Md.zero)):=zhy (put4_below S4.out.1 (by rw [HRW.out];exact Nat.le_refl _) _ _);clear HOW HO HS3 HX HP HR4 he;go_wp2_with fail;refine load14_end _ _ R Ma.zero Md.zero _ e rfl rfl rfl HD.out _ ?_;show Ld14 _ _ (lo14 l) _;rw [HN.out];exact ⟨Ma.zero,none,0,rfl,Hq.zero _,World.ownsRow_nil _ _ _ _,HBB.out⟩
 ·have HN:Hid (lo14 l=(Md.zero,[],e)):=lo14_1 HP.out he;have hne:(e != 0)=true:=by simpa using he
  have HD:=zhy (put4_db HR2.out.2 Ma.zero Md.zero);have HBB:Hid (Below w.heap.size w (put4 w3 R Ma.zero Md.zero)):=zhy (put4_below S2.out.1 (by rw [HRW.out];exact Nat.le_refl _) _ _);obtain ⟨⟨rl,rf⟩,-,r0,r1,r2,r3⟩:=HR2.out;have rf0:=rf 0;have rf1:=rf 1;have rf2:=rf 2;have rf3:=rf 3;clear rf HOW HP HR2 he;go_wp2_with fail;refine load14_end _ _ R Ma.zero Md.zero _ e rfl rfl rfl HD.out _ ?_;show Ld14 _ _ (lo14 l) _;rw [HN.out];exact ⟨Ma.zero,none,0,rfl,Hq.zero _,World.ownsRow_nil _ _ _ _,HBB.out⟩
theorem eq_cert (d:Nat) (k a b k' a' b':Int) (v:Bool) (h:(k==k'&&a==a'&&b==b')=v) (w:World):(Op.equalIn (d+1+1) 39 (.agg #[.int .i64 k,.int .i64 a,.int .i64 b]) (.agg #[.int .i64 k',.int .i64 a',.int .i64 b'])).run Tryz.prog w=.ok v w:=by
 have hS:Tryz.prog.underlying 39=some (.struct (Tryz.prog.fieldsOf 39)):=by kernel_rfl
 have hp:Tryz.prog.stoodInHeld 39=false:=by kernel_rfl
 have u2:=Tryz.underlying3;have h0:∀u v t:Value,(part 3 #[u,v,t] 0).run Tryz.prog w=.ok u w:=fun u v t=>by kernel_rfl
 have h1:∀u v t:Value,(part 3 #[u,v,t] 1).run Tryz.prog w=.ok v w:=fun u v t=>by kernel_rfl
 have h2:∀u v t:Value,(part 3 #[u,v,t] 2).run Tryz.prog w=.ok t w:=fun u v t=>by kernel_rfl
 rw [run_equalIn_agg w (d+1) 39 _ _ hS hp];simp only [Program.fieldsOf,Tryz.underlying39];subst h;go_simp;by_cases e1:k=k'<;>by_cases e2:a=a'<;>by_cases e3:b=b'<;>simp [e1,e2,e3]
theorem r12same_v (A B:Option Addr) (c b n:Nat) (L:List Ce) (w:World) (ha:Rg ce3 3 w A c L) (hb:Rg ce3 3 w B b L) (hn:L.length=n) (hn9:n≤1000):Calls Tryz.prog 14 #[.slice A n c,.slice B n b] w fun r w'=>r=.returned (.bool true)∧Below w.heap.size w w':=by
 have HA:=zhy ha;have HB:=zhy hb;have HN:=zhy hn;clear ha hb hn;go_enter Tryz.func14,Tryz.ntmps14;go_wp2_with fail;go_loopw [5] (fun iv wq=>∃i:Nat,i≤n∧iv=.int .i64 i∧Hid (Below w.heap.size w wq)) (fun iv _=>n-(intOf iv).toNat)
 case atStart=>exact ⟨0,by omega,rfl,zhy (Below.refl _ _)⟩
 case round =>
  obtain ⟨i,hi,rfl,HW⟩:=hrel;rename World=>wq;by_cases h1:i<n
  ·obtain ⟨x,hx⟩:∃x,L[i]?=some x:=⟨_,zg7 (by rw [HN.out];exact h1)⟩;obtain ⟨g,hA,hg,hc⟩:=(HA.out.keep HW.out).at_ ce3_len hx;obtain ⟨g2,hB,hg2,hc2⟩:=(HB.out.keep HW.out).at_ ce3_len hx;subst hA hB;have a0:=hc 0 (by omega);have a1:=hc 1 (by omega);have a2:=hc 2 (by omega);have b0:=hc2 0 (by omega);have b1:=hc2 1 (by omega);have b2:=hc2 2 (by omega);obtain ⟨xf,xs,xh⟩:=x;simp only [ce3,List.getElem?_cons_zero,List.getElem?_cons_succ,Nat.add_zero] at a0 a1 a2 b0 b1 b2;have q:=eq_cert 9998 xf xs xh xf xs xh true (by simp);have HW2:=zhy (fun q=>below_draws HW.out q);clear hx hc hc2;go_wp2_with fail;go_quiet (fail);go_wp2_with fail;go_roundw
   case rel=>exact ⟨i+1,by omega,by go_num,zhy (HW2.out _)⟩
   case measure=>simp [intOf];omega
  ·obtain rfl:n=i:=by omega
   go_wp2_with fail;go_ret;exact ⟨rfl,HW.out⟩
theorem rm14 {w:World} {B t:Nat} {z:Me} (h:w.heap[B]?=some (.cells (ce8 z).toArray t (0,0))) (hz:z.ok w):Rm w (some ⟨B,0,none⟩) 1 [z]:=by
 refine ⟨fun x hx=>by rw [List.mem_singleton.1 hx];exact hz,Nat.le_refl _,by (unfold maxLen;decide),.inr ⟨_,rfl,fun i x hi=>?_⟩⟩;match i,hi with
 | 0,hi =>
  simp at hi;subst hi;have k:∀j,w.cell? ⟨B,j,none⟩=(ce8 z)[j]?:=fun j=>by rw [cell_of_row w B j _ _ (0,0) h,List.getElem?_toArray]
  unfold At8;refine ⟨?_,?_,?_,?_,?_,?_,?_,?_⟩<;>simp [go_sem,Addr.add,k,ce8]
theorem rv14_other {w:World} {g c:Nat} {L:List Vlu} (h:Rv w (some ⟨g,0,none⟩) c L) {p:Addr} (hp:p.block≠g) (v:Value):Rv (w.setCell p v) (some ⟨g,0,none⟩) c L:=by
 refine ⟨h.1,h.2.1,h.2.2.1,?_⟩;rcases h.2.2.2 with hn | ⟨ad,ha,hc⟩
 ·exact .inl hn
 ·injection ha with ha;subst ha;have ne:∀(i j:Nat),p≠(⟨((⟨g,0,none⟩:Addr).add i).block,j,none⟩:Addr):=fun i j e=>hp (by rw [e];exact add_block _ _);have ne0:∀(i:Nat),p≠(⟨g,0,none⟩:Addr).add i:=fun i e=>hp (by rw [e];exact add_block _ _);refine .inr ⟨_,rfl,fun i x hi=>?_⟩;obtain ⟨c0,c1,c2⟩:=hc i x hi;exact ⟨by rw [World.cell?_setCell_other _ _ _ _ (ne0 _)];exact c0,by rw [World.cell?_setCell_other _ _ _ _ (ne _ _)];exact c1,by rw [World.cell?_setCell_other _ _ _ _ (ne _ _)];exact c2⟩
theorem ri14_other {w:World} {g q c:Nat} {L:List Ins} (h:Ri w (some ⟨g,q,none⟩) c L) {p:Addr} (hp:p.block≠g) (v:Value):Ri (w.setCell p v) (some ⟨g,q,none⟩) c L:=by
 refine ⟨h.1,h.2.1,h.2.2.1,?_⟩;rcases h.2.2.2 with hn | ⟨ad,ha,hc⟩
 ·exact .inl hn
 ·injection ha with ha;subst ha;have ne:∀(i j:Nat),p≠(⟨((⟨g,q,none⟩:Addr).add i).block,j,none⟩:Addr):=fun i j e=>hp (by rw [e];exact add_block _ _);have ne0:∀(i:Nat),p≠(⟨g,q,none⟩:Addr).add i:=fun i e=>hp (by rw [e];exact add_block _ _);refine .inr ⟨_,rfl,fun i x hi=>?_⟩;obtain ⟨c0,c1,c2⟩:=hc i x hi;exact ⟨by rw [World.cell?_setCell_other _ _ _ _ (ne0 _)];exact c0,by rw [World.cell?_setCell_other _ _ _ _ (ne _ _)];exact c1,by rw [World.cell?_setCell_other _ _ _ _ (ne _ _)];exact c2⟩
theorem rd14_other {w:World} {g c:Nat} {L:List Int} (h:Rd w (some ⟨g,0,none⟩) c L) {p:Addr} (hp:p.block≠g) (v:Value):Rd (w.setCell p v) (some ⟨g,0,none⟩) c L:=by
 refine ⟨h.1,h.2.1,h.2.2.1,?_⟩;rcases h.2.2.2 with hn | ⟨ad,ha,hc⟩
 ·exact .inl hn
 ·injection ha with ha;subst ha;have ne0:∀(i:Nat),p≠(⟨g,0,none⟩:Addr).add i:=fun i e=>hp (by rw [e];exact add_block _ _);refine .inr ⟨_,rfl,fun i x hi=>?_⟩;rw [World.cell?_setCell_other _ _ _ _ (ne0 _)];exact hc i x hi
def ds14 (f:Int):Md:=⟨[(1,0,0)],[],[(⟨[],[],1,false,f,1,0⟩,[(4,0,0),(31,0,0)])],-1⟩
def ys14 (B:Nat) (f:Int):Ma:=⟨some ⟨B,0,none⟩,1,none,0,some ⟨B+2,0,none⟩,1,[⟨⟨none,0,none,0,some ⟨B+1,0,none⟩,2,2⟩,⟨[],[],1,false,f,1,0⟩,[(4,0,0),(31,0,0)]⟩]⟩
def db14:Md:=⟨[(1,0,0)],[],[(⟨[],[],1,false,2,1,0⟩,[(31,0,0)])],-1⟩
def yb14 (B:Nat):Ma:=⟨some ⟨B,0,none⟩,1,none,0,some ⟨B+2,0,none⟩,1,[⟨⟨none,0,none,0,some ⟨B+1,3,none⟩,1,1⟩,⟨[],[],1,false,2,1,0⟩,[(31,0,0)]⟩]⟩
def dm14:Md:=⟨[(1,0,0)],[],[(⟨[3],[],1,false,2,1,0⟩,[(4,0,0),(31,0,0)])],0⟩
def ym14 (B N:Nat):Ma:=⟨some ⟨B,0,none⟩,1,none,0,some ⟨B+2,0,none⟩,1,[⟨⟨some ⟨N,0,none⟩,1,none,0,some ⟨B+1,0,none⟩,2,2⟩,⟨[3],[],1,false,2,1,0⟩,[(4,0,0),(31,0,0)]⟩]⟩
def Sm14 (w:World) (B:Nat) (f:Int):Prop:=Rv w (some ⟨B,0,none⟩) 1 [(1,0,0)]∧Ri w (some ⟨B+1,0,none⟩) 2 [(4,0,0),(31,0,0)] ∧
 w.heap[B+2]?=some (.cells #[.slice none 0 0,.slice none 0 0,.int .u8 1,.bool false,.int .i64 f,.int .i64 1,.int .i64 0,.slice (some ⟨B+1,0,none⟩) 2 2] 50 (0,0))
theorem Sm14.keep {w w':World} {B:Nat} {f:Int} (h:Sm14 w B f) (hb:Below w.heap.size w w'):Sm14 w' B f:=⟨h.1.keep hb,h.2.1.keep hb,(hb.block _ (zg9.1 h.2.2).1).trans h.2.2⟩
theorem Sm14.hq {w:World} {B:Nat} {f:Int} (h:Sm14 w B f) (hf:0≤f∧f≤100):Hq w (ys14 B f) (ds14 f):=by
 refine ⟨h.1,Rv.none_ _,rm14 (z:=⟨⟨none,0,none,0,some ⟨B+1,0,none⟩,2,2⟩,⟨[],[],1,false,f,1,0⟩,[(4,0,0),(31,0,0)]⟩) h.2.2 ⟨⟨Rd.none_ _,Rd.none_ _,?_⟩,h.2.1,rfl⟩,rfl,by unfold ds14;dsimp only;omega⟩;unfold Mh.nums;dsimp only;omega
theorem Sm14.bare {w:World} {B:Nat} (h:Sm14 w B 2):Hq (w.setCell ⟨B+2,7,none⟩ (.slice (some ⟨B+1,3,none⟩) 1 1)) (yb14 B) db14:=by
 have hm:(w.setCell ⟨B+2,7,none⟩ (.slice (some ⟨B+1,3,none⟩) 1 1)).heap[B+2]?=some (.cells #[.slice none 0 0,.slice none 0 0,.int .u8 1,.bool false,.int .i64 2,.int .i64 1,.int .i64 0,.slice (some ⟨B+1,3,none⟩) 1 1] 50 (0,0)):=by
  rw [heap_setCell_same w (B+2) 7 _ _ _ h.2.2];rfl
 have hr:Ri w (some ⟨B+1,3,none⟩) 1 [(31,0,0)]:=by
  refine ⟨fun x hx=>h.2.1.1 x (by rw [List.mem_singleton.1 hx];simp),Nat.le_refl _,by (unfold maxLen;decide),.inr ⟨_,rfl,fun i x hi=>?_⟩⟩;rcases h.2.1.2.2.2 with hn | ⟨ad,ha,hc⟩
  ·cases hn.1
  ·injection ha with ha;subst ha;match i,hi with
   | 0,hi =>
    simp at hi;subst hi;have:=hc 1 (31,0,0) rfl;simpa [Addr.add] using this
 refine ⟨rv14_other h.1 (by show B+2≠B;omega) _,Rv.none_ _,rm14 (z:=⟨⟨none,0,none,0,some ⟨B+1,3,none⟩,1,1⟩,⟨[],[],1,false,2,1,0⟩,[(31,0,0)]⟩) hm ⟨⟨Rd.none_ _,Rd.none_ _,by (unfold Mh.nums;dsimp only;omega)⟩,ri14_other hr (by show B+2≠B+1;omega) _,rfl⟩,rfl,by unfold db14;decide⟩
theorem Sm14.moves {w:World} {B N:Nat} (h:Sm14 w B 2) (hr:Rd w (some ⟨N,0,none⟩) 1 [3]) (hN:B+2<N):Hq (w.setCell ⟨B+2,0,none⟩ (.slice (some ⟨N,0,none⟩) 1 1)) (ym14 B N) dm14:=by
 have hm:(w.setCell ⟨B+2,0,none⟩ (.slice (some ⟨N,0,none⟩) 1 1)).heap[B+2]?=some (.cells #[.slice (some ⟨N,0,none⟩) 1 1,.slice none 0 0,.int .u8 1,.bool false,.int .i64 2,.int .i64 1,.int .i64 0,.slice (some ⟨B+1,0,none⟩) 2 2] 50 (0,0)):=by
  rw [heap_setCell_same w (B+2) 0 _ _ _ h.2.2];rfl
 refine ⟨rv14_other h.1 (by show B+2≠B;omega) _,Rv.none_ _,rm14 (z:=⟨⟨some ⟨N,0,none⟩,1,none,0,some ⟨B+1,0,none⟩,2,2⟩,⟨[3],[],1,false,2,1,0⟩,[(4,0,0),(31,0,0)]⟩) hm ⟨⟨rd14_other hr (by show B+2≠N;omega) _,Rd.none_ _,by (unfold Mh.nums;dsimp only;omega)⟩,ri14_other h.2.1 (by show B+2≠B+1;omega) _,rfl⟩,rfl,by unfold dm14;decide⟩
theorem sm14_new (w:World) (f:Int) (o0:Obj) (R:Nat) (hR:w.heap.size=R):Sm14 ((((w.alloc o0).alloc (.cells #[.int .u8 1,.int .i64 0,.int .i64 0] 139)).alloc (.cells #[.int .u8 4,.int .i64 0,.int .i64 0,.int .u8 31,.int .i64 0,.int .i64 0] 57)).alloc
  (.cells #[.slice none 0 0,.slice none 0 0,.int .u8 1,.bool false,.int .i64 f,.int .i64 1,.int .i64 0,.slice (some ⟨R+1+1,0,none⟩) 2 2] 50)) (R+1) f:=by
 have h1:=rv_new (w.alloc o0) (1,0,0) (by unfold VlOk;decide)
 rw [size1,hR] at h1
 have h2:=(Ri.of_own (L:=[(4,0,0),(31,0,0)]) (World.ownsRow_lit (base:=0) (e:=57) (size:=3) ((w.alloc o0).alloc (.cells #[.int .u8 1,.int .i64 0,.int .i64 0] 139)) (cei [(4,0,0),(31,0,0)]).toArray 2 (Nat.zero_le _) (by unfold maxLen;omega) (by simp [cei])) (by
  intro x hx;simp at hx;rcases hx with rfl | rfl<;>(unfold InOk;decide))).1
 rw [size1,size1,hR] at h2
 refine ⟨(h1.keep new1).keep new1,h2.keep new1,?_⟩
 have h3:=heap_alloc_last (((w.alloc o0).alloc (.cells #[.int .u8 1,.int .i64 0,.int .i64 0] 139)).alloc (.cells #[.int .u8 4,.int .i64 0,.int .i64 0,.int .u8 31,.int .i64 0,.int .i64 0] 57)) (.cells #[.slice none 0 0,.slice none 0 0,.int .u8 1,.bool false,.int .i64 f,.int .i64 1,.int .i64 0,.slice (some ⟨R+1+1,0,none⟩) 2 2] 50)
 rw [size1,size1,size1,hR] at h3
 exact h3
theorem small14_v (f:Int) (w:World) (hf:0≤f∧f≤100):Calls Tryz.prog 46 #[.int .i64 f] w fun e w'=>e=.returned (dv (ys14 (w.heap.size+1) f) (ds14 f))∧Sm14 w' (w.heap.size+1) f∧w'.heap.size=w.heap.size+4∧Below w.heap.size w w':=by
 have HN:=fun o0=>zhy (sm14_new w f o0 w.heap.size rfl);clear hf;go_enter Tryz.func46,Tryz.ntmps46;go_wp2_with fail;exact bodyPost_ret (v:=dv (ys14 (w.heap.size+1) f) (ds14 f)) (by simp [results,Tryz.results46,go_sem,ys14,ds14]) rfl ⟨rfl,(HN _).out,by simp,((new1.alloc (by simp) _).alloc (by simp;omega) _).alloc (by simp;omega) _⟩
theorem ex14_a:ve14 (ds14 2)=(0,-1,[(2,1,0)])∧(ve14 (ds14 1)).1=120∧(ve14 db14).1=101∧(ve14 db14).2.1=0∧(ve14 dm14).1=70:=by decide +kernel
theorem ex14_b:qG (ds14 2)=false∧qG (ds14 1)=false∧qG db14=false∧qG dm14=false:=by decide +kernel
theorem ex14_c:(lo14 [0,0,0,255]).1.i=-1∧(lo14 [0,0,0,255]).1.s=[]∧(lo14 [0,0,0,255]).2=([],0):=by decide +kernel
end Go.Proofs.YtnjgkkoiamiaaaaGreatDoor
