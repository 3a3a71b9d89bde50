import Derived.Test.YtnjgkkoiamiaaaaGreatDoorVta1
import Derived.Test.YtnjgkkoiamiaaaaGreatDoorVta12
import Derived.Test.YtnjgkkoiamiaaaaGreatDoorVta8
import Derived.Test.YtnjgkkoiamiaaaaGreatDoorVta6
import Derived.Test.YtnjgkkoiamiaaaaGreatDoorVta4
import Derived.Test.YtnjgkkoiamiaaaaGreatDoorVta11
import Derived.ArgAppend
import Derived.Laws.Cover3
set_option maxRecDepth 100000
set_option maxHeartbeats 16000000
set_option linter.unusedSimpArgs false
set_option linter.unusedVariables false
namespace Go.Proofs.YtnjgkkoiamiaaaaGreatDoor
open Go.RowKit
def zy0 (w:World) (B:Nat) (y:Ma) (d:Md) (x:Mc) (m:Mh):Prop:=B<w.heap.size∧w.cell? ⟨B,0,none⟩=some (.slice y.G d.g.length y.gc)∧w.cell? ⟨B,1,none⟩=some (.slice y.P d.p.length y.pc)∧w.cell? ⟨B,2,none⟩=some (.slice y.A d.s.length y.c)∧w.cell? ⟨B,3,none⟩=some (.int .i64 d.i) ∧
 w.cell? ⟨B,4,none⟩=some (.slice x.A m.a.length x.c)∧w.cell? ⟨B,5,none⟩=some (.slice x.B m.l.length x.d)∧w.cell? ⟨B,6,none⟩=some (.int .u8 m.r)∧w.cell? ⟨B,7,none⟩=some (.bool m.q)∧w.cell? ⟨B,8,none⟩=some (.int .i64 m.f)∧w.cell? ⟨B,9,none⟩=some (.int .i64 m.s)∧w.cell? ⟨B,10,none⟩=some (.int .i64 m.h)∧w.cell? ⟨B,11,none⟩=some (.slice x.D x.k x.e)
def zx1 (w:World) (B:Nat) (o:Int) (b:Nat) (z:Int):Prop:=B<w.heap.size∧w.cell? ⟨B,0,none⟩=some (.int .u8 o)∧w.cell? ⟨B,1,none⟩=some (.int .i64 b)∧w.cell? ⟨B,2,none⟩=some (.int .i64 z)
section
variable {w w' : World} {B : Nat} {y : Ma} {d : Md} {x : Mc} {m : Mh} {o z : Int} {b : Nat}
theorem zy0.new (w:World) (y:Ma) (d:Md) (x:Mc) (m:Mh):zy0 (w.alloc (zw y d x m)) w.heap.size y d x m:=by
 refine ⟨by simp,?_,?_,?_,?_,?_,?_,?_,?_,?_,?_,?_,?_⟩<;>simp [go_sem]
theorem zy0.keep (h:zy0 w B y d x m) (hb:Below w.heap.size w w'):zy0 w' B y d x m:=by
 obtain ⟨h0,h1,h2,h3,h4,h5,h6,h7,h8,h9,h10,h11,h12⟩:=h;obtain ⟨hc,hf⟩:=zbi hb;exact ⟨Nat.lt_of_lt_of_le h0 hb.size,(hc _ _ h0).trans h1,(hc _ _ h0).trans h2,(hc _ _ h0).trans h3,(hc _ _ h0).trans h4,(hc _ _ h0).trans h5,(hc _ _ h0).trans h6,(hc _ _ h0).trans h7,(hc _ _ h0).trans h8,(hc _ _ h0).trans h9,(hc _ _ h0).trans h10,(hc _ _ h0).trans h11,(hc _ _ h0).trans h12⟩
theorem zx1.new (w:World) (o:Int) (b:Nat) (z:Int):zx1 (w.alloc (zik o b z)) w.heap.size o b z:=by
 refine ⟨by simp,?_,?_,?_⟩<;>simp [go_sem]
theorem zx1.keep (h:zx1 w B o b z) (hb:Below w.heap.size w w'):zx1 w' B o b z:=by
 obtain ⟨h0,h1,h2,h3⟩:=h;obtain ⟨hc,hf⟩:=zbi hb;exact ⟨Nat.lt_of_lt_of_le h0 hb.size,(hc _ _ h0).trans h1,(hc _ _ h0).trans h2,(hc _ _ h0).trans h3⟩
end
abbrev fSc (B:Nat) (y:Ma) (d:Md) (x:Mc) (m:Mh):Fct:=⟨fun w=>zy0 w B y d x m,fun _ _ h hb=>h.keep hb⟩
abbrev fIc (B:Nat) (o:Int) (b:Nat) (z:Int):Fct:=⟨fun w=>zx1 w B o b z,fun _ _ h hb=>h.keep hb⟩
theorem Sx.mkS {w0 w:World} {L:List Fct} (h:Sx w0 w L) (y:Ma) (d:Md) (x:Mc) (m:Mh):Sx w0 (w.alloc (zw y d x m)) (fSc w.heap.size y d x m::L):=(h.mk1 _).add (fSc w.heap.size y d x m) (zy0.new w y d x m)
theorem Sx.mkI {w0 w:World} {L:List Fct} (h:Sx w0 w L) (o:Int) (b:Nat) (z:Int):Sx w0 (w.alloc (zik o b z)) (fIc w.heap.size o b z::L):=(h.mk1 _).add (fIc w.heap.size o b z) (zx1.new w o b z)
theorem zs4 {w:World} {y:Ma} {d:Md} {x:Mc} {m:Mh} (hq:Hq w y d) (hx:Hd w x m) (i:Ins) (hth:i.1=30→i.2.1.toNat<d.s.length) {T:List Int} (hT:∀i:Nat,0≤T[i]?.getD 0∧T[i]?.getD 0<256):Byt (za8 d m i T):=by
 have h:=zhn hq hx i hth;unfold zd6 at h;intro v hv;unfold za8 at hv;by_cases c1:i.1=1
 ·rw [if_pos c1] at hv h;rw [List.mem_singleton.1 hv];exact h
 rw [if_neg c1] at hv h;by_cases c2:i.1=2
 ·rw [if_pos c2] at hv;rw [if_pos (.inl c2)] at h;rw [List.mem_singleton.1 hv];exact h
 rw [if_neg c2] at hv;by_cases c4:i.1=4
 ·rw [if_pos c4] at hv;rw [if_neg (by omega),if_pos (.inl c4)] at h;rw [List.mem_singleton.1 hv];exact h
 rw [if_neg c4] at hv;by_cases c7:i.1=7
 ·rw [if_pos c7] at hv;have h0:=hT 0;simp at hv;rw [hv];simpa using h0
 rw [if_neg c7] at hv;by_cases c8:i.1=8
 ·rw [if_pos c8] at hv;have h0:=hT 0;have h1:=hT 1;simp at hv;rcases hv with hv | hv
  ·rw [hv];simpa using h1
  ·rw [hv];simpa using h0
 rw [if_neg c8] at hv;by_cases c30:i.1=30
 ·rw [if_pos c30] at hv;rw [if_neg (by omega),if_neg (by omega),if_pos c30] at h;rw [List.mem_singleton.1 hv];exact h
 rw [if_neg c30] at hv;exact zq9 i.1 v hv
theorem zxz {w:World} {A:Option Addr} {c:Nat} {l:List Int} (h:Rd w A c l) {ad:Addr} (ha:A=some ad) (h0:0<l.length):ad.block<w.heap.size:=by
 obtain ⟨ad',e',hc⟩:=h.at_ h0;rw [ha] at e';injection e' with e';subst e';have:=qi hc;rw [zbh] at this;exact this
theorem zy3 (y:Ma) (d:Md) (x:Mc) (m:Mh) (o z:Int) (b:Nat) (A:Option Addr) (c n:Nat) (R:List Int) (w:World) (hq:Hq w y d) (hx:Hd w x m) (b1:m.a.length≤1000) (b2:m.l.length≤1000) (hth:zab d m (o,(b:Int),z)=true)
  (hal:∀u∈y.Z,u.m.a.length≤1000) (hr:Rd w A c R) (hn:R.length=n) (hnb:n≤300000) :
  Calls Tryz.prog 158 #[zyr y d x m,.agg #[.int .u8 o,.int .i64 b,.int .i64 z],.slice A n c] w fun e w' =>
   ∃A' c',e=.returned (.tuple #[.slice A' (za9 d m (o,(b:Int),z) R).1.length c',.int .i64 (za9 d m (o,(b:Int),z) R).2])∧Rd w' A' c' (za9 d m (o,(b:Int),z) R).1∧Below w.heap.size w w':=by
 subst hn;have hdef:za9 d m (o,(b:Int),z) R=if (zld d m (o,(b:Int),z) R).2=0 then ((zld d m (o,(b:Int),z) R).1++za8 d m (o,(b:Int),z) (R.drop (zld d m (o,(b:Int),z) R).1.length),0) else ([],(zld d m (o,(b:Int),z) R).2):=rfl;have hK:(K10 d m (o,(b:Int),z)).2.foldr (st1 (K10 d m (o,(b:Int),z)).1) (R,0)=zld d m (o,(b:Int),z) R:=rfl;have HK:=zhy hK;have HLE:=zhy (fun he=>zl9 (d:=d) (h:=m) (x:=(o,(b:Int),z)) (R:=R) he);have HB30:Hid (o=30→b<d.s.length):=zhy fun h=>by subst h;simpa [zab] using hth
 have HTH:=zhy hth;have HBY:=zhy hr.byte;have HLVB:=zhy (fun (T:List Int) hT=>zs4 hq hx (o,(b:Int),z) (T:=T) (fun h=>by have:=HB30.o h;simpa using this) hT);have HLV0:=zhy (fun T=>zmt d m (o,(b:Int),z) T)
 have HAP:Hid (∀(u:Me) (ad:Addr),u∈y.Z→u.x.A=some ad→0<u.m.a.length→ad.block≠w.heap.size+1+1):=zhy fun u ad hu he h0=>by
  have:=zxz (hq.2.2.1.1 u hu).1.1 he h0;omega
 have HAL:=zhy hal;obtain ⟨⟨T,e⟩,ht⟩:∃t,zld d m (o,(b:Int),z) R=t:=⟨_,rfl⟩;have HKL:Hid (o=7→(K10 d m (o,(b:Int),z)).2.length=1):=zhy fun h=>by simp [K10,h]
 have HKL8:Hid (o=8→(K10 d m (o,(b:Int),z)).2.length=2):=zhy fun h=>by simp [K10,h]
 rw [ht] at hdef;have HDEF:=zhy hdef;rw [Hid,ht] at HK;rw [Hid,ht] at HLE;have HK:=zhy HK;have HLE:=zhy HLE;have S2:=zhy ((((((Sx.start w).add (fR A c R) hr).add (fH x m) hx).add (fQm y d) hq).mkS y d x m).mkI o b z);rw [qn] at S2;obtain ⟨B,hB⟩:∃B,w.heap.size=B:=⟨_,rfl⟩;have HBB:=zhy hB;have hsz2:((w.alloc (zw y d x m)).alloc (zik o b z)).heap.size=B+1+1:=by rw [qn,qn,hB]
 have HSZ:=zhy hsz2;rw [hB] at S2 HAP;clear hq hx hr hth hal hdef hK ht;go_enter Tryz.func158,Tryz.ntmps158;go_upto_region 1 with (fail);generalize (w.alloc (zw y d x m)).alloc (zik o b z)=w2 at S2 hsz2 HSZ ⊢;have HS3:=zhy (Sk.new w2 282 S2.o.2.2.2.2.2.1);have HB3:Hid (Below w2.heap.size w2 (w2.alloc (.cells #[.slice A R.length c,.int .i64 0] 282))):=zhy qh;rw [hsz2] at HS3;go_upto_region 2 with (fail);generalize w2.alloc (.cells #[.slice A R.length c,.int .i64 0] 282)=w3 at HS3 HB3 ⊢;have S3:=zhy (S2.o.call HB3.o);have HTK:=zhy (zzt y d x m o z b (B+1+1) A c (R,0) w3 S3.o.2.2.2.1 S3.o.2.2.2.2.1 b1 b2 HTH.o HS3.o HAP.o HAL.o);obtain ⟨-,⟨-,i0,i1,i2⟩,⟨-,s0,s1,s2,s3,s4,s5,s6,s7,s8,s9,s10,s11⟩,-⟩:=S3.o;go_wp2_with fail;refine HTK.o.mono ?_;rintro r4 w4 ⟨rfl,hs4,hp4⟩;rw [HK.o] at hs4;have HB4:Hid (Below w2.heap.size w2 w4):=zhy (HB3.o.trans ((hp4.toBelow (Nat.le_of_lt HS3.o.1)).mono (by rw [HSZ.o];exact Nat.le_refl _)));have S4:=zhy (S2.o.call HB4.o);have HS4:=zhy hs4;obtain ⟨g0,g1,g2,g3,g4,g5⟩:=hs4;dsimp only at g1 g2;clear i0 i1 i2 s0 s1 s2 s3 s4 s5 s6 s7 s8 s9 s10 s11 hp4 HTK HS3 HB3 HB4 S2 S3 g5;by_cases he:e=0
 case neg =>
  have he':(e != 0)=true:=by simpa using he
  have HAF:Hid (za9 d m (o,(b:Int),z) R=([],e)):=zhy (by rw [HDEF.o,if_neg he]);have HBW:=zhy S4.o.1;go_wp2_with fail;go_quiet (fail);go_wp2;go_ret2;rw [HAF.o];exact ⟨none,0,rfl,Rd.none_ _,qf HBW.o _⟩
 subst he;obtain ⟨hk1,hk2⟩:=HLE.o rfl;obtain ⟨j,hj⟩:∃j,T.length=j:=⟨_,rfl⟩;have hjk:j=R.length-(K10 d m (o,(b:Int),z)).2.length:=by rw [←hj,hk1,List.length_take];omega
 have hjR:j≤R.length:=by omega
 have hT:T=R.take j:=by rw [hk1,hjk]
 have HAF:Hid (za9 d m (o,(b:Int),z) R=(R.take j++za8 d m (o,(b:Int),z) (R.drop j),0)):=zhy (by rw [HDEF.o,if_pos rfl,hj,hT]);subst hT;have P78:Hid ((o=7→1≤R.length-j)∧(o=8→2≤R.length-j)):=zhy ⟨fun h=>by have:=HKL.o h;omega,fun h=>by have:=HKL8.o h;omega⟩;have hRc:=S4.o.2.2.2.2.2.1.le;have hcap:=S4.o.2.2.2.2.2.1.cap;have HRS:=zhy (S4.o.2.2.2.2.2.1.sub j R.length hjR (Nat.le_refl _));rw [hj] at g1;have hneg:¬(j:Int)<0:=by omega
 clear hk1 hk2 hjk;go_upto_region 6 with (fail)
 have HRS2:Hid (Rd w4 (if c=j then A else Option.map (fun x=>x.add j) A) (c-j) (R.drop j)):=zhy (by
  have h:=HRS.o;rwa [List.take_of_length_le (by rw [List.length_drop];exact Nat.le_refl _)] at h)
 clear HRS;generalize (if c=j then A else Option.map (fun x=>x.add j) A)=A3 at HRS2 ⊢;generalize c-j=c3 at HRS2 ⊢;have HL3:Hid ((R.drop j).length=R.length-j):=zhy List.length_drop;have HLJ:Hid ((R.take j).length=j):=zhy hj;have HLV:Hid ((za8 d m (o,(b:Int),z) (R.drop j)).length≤400000):=zhy (by have:=HLV0.o (R.drop j);omega)
 have HBL:Hid (Byt (R.take j++za8 d m (o,(b:Int),z) (R.drop j))):=zhy (by
  intro v hv;rcases List.mem_append.1 hv with hv | hv
  ·exact S4.o.2.2.2.2.2.1.1 v (List.mem_of_mem_take hv)
  ·refine HLVB.o (R.drop j) (fun i=>?_) v hv;have:=HBY.o (j+i);rwa [←List.getElem?_drop] at this)
 have S6:Hid (Sx w w4 [fQm y d,fC1 ⟨B+1+1,0,none⟩ (.slice A j c),fSc B y d x m,fIc (B+1) o b z,fQm y d,fH x m,fR A3 c3 (R.drop j),fR A c (R.take j)]):=zhy ⟨S4.o.1,S4.o.2.2.2.1,g1,S4.o.2.2.1,S4.o.2.1,S4.o.2.2.2.1,S4.o.2.2.2.2.1,HRS2.o,S4.o.2.2.2.2.2.1.pre j,trivial⟩;clear HRS2 HS4 S4 g0 g1 g2 g3 g4 HK HLE HDEF hj;refine wp_region_held_drew (S:=fun w'=>Hid (Sx w w' [fQm y d,fC1 ⟨B+1+1,0,none⟩ (.slice A j c),fSc B y d x m,fIc (B+1) o b z,fQm y d,fH x m,fR A3 c3 (R.drop j),fR A c (R.take j)])) (by kernel_rfl) (Hsx.drew S6) (fun hHeld=>?_);refine zq 0 (h:=?_);refine zq 1 (hy:=fun w hSw=>by (try dsimp only at hSw);obtain ⟨-,-,q0,⟨-,s0,s1,s2,s3,s4,s5,s6,s7,s8,s9,s10,s11⟩,⟨-,i0,i1,i2⟩,-⟩:=hSw.o;dsimp only at q0;go_simp;try with_reducible rfl) (h:=?_);refine zq 2 (hy:=fun w hSw=>by (try dsimp only at hSw);obtain ⟨-,-,q0,⟨-,s0,s1,s2,s3,s4,s5,s6,s7,s8,s9,s10,s11⟩,⟨-,i0,i1,i2⟩,-⟩:=hSw.o;dsimp only at q0;go_simp;try with_reducible rfl) (h:=?_);refine zq 3 (hy:=fun w hSw=>by (try dsimp only at hSw);obtain ⟨-,-,q0,⟨-,s0,s1,s2,s3,s4,s5,s6,s7,s8,s9,s10,s11⟩,⟨-,i0,i1,i2⟩,-⟩:=hSw.o;dsimp only at q0;go_simp;try with_reducible rfl) (h:=?_);refine zq 4 (h:=?_);refine wpAnyH_ready (rs:=[5]) (by kernel_rfl) (by simp) ?_;refine AllReadyH.cons rfl (fun K hK=>?_) AllReadyH.nil;go_simp;refine (zv0 y d x m o z b A3 c3 _ (R.drop j) _ hHeld.o.2.2.2.2.2.1 hHeld.o.2.2.2.2.2.2.1 b1 b2 HTH.o hHeld.o.2.2.2.2.2.2.2.1 HL3.o P78.o.1 P78.o.2).mono ?_;rintro r1 wb ⟨A4,c4,rfl,hr4,hb⟩;have HR4:=zhy hr4;clear hr4;go_wp2_with fail;refine hK.out _ _ (Hsx.call hb hHeld) (fun hHeld=>?_);clear hK K;refine zfs (S':=fun w'=>Hid (Sx w w' [fR A4 c4 (za8 d m (o,(b:Int),z) (R.drop j)),fC1 ⟨B+1+1,0,none⟩ (.slice A j c),fSc B y d x m,fIc (B+1) o b z,fQm y d,fH x m,fR A3 c3 (R.drop j),fR A c (R.take j)])) (fun _ h=>⟨h.o.1,h.o.2.2.2.2.2.1,h.o.2.2⟩) _ _ _ _ ?_;have hHeld2:Hid (Sx w wb [fR A4 c4 (za8 d m (o,(b:Int),z) (R.drop j)),fC1 ⟨B+1+1,0,none⟩ (.slice A j c),fSc B y d x m,fIc (B+1) o b z,fQm y d,fH x m,fR A3 c3 (R.drop j),fR A c (R.take j)]):=zhy ⟨hHeld.o.1,HR4.o,hHeld.o.2.2⟩;clear hHeld HR4;have hHeld:=hHeld2;clear hHeld2;(try simp only [Act.put,zg1,zg2,zg3,zg4,zg5,zg6]);refine wpAnyH_ready (rs:=[6]) (by kernel_rfl) (by simp) ?_;refine AllReadyH.cons rfl (fun K hK=>?_) AllReadyH.nil;go_simp;refine hK.out _ _ (Hsx.call qh hHeld) (fun hHeld=>?_);clear hK K;(try simp only [Act.put,zg1,zg2,zg3,zg4,zg5,zg6]);refine wpAnyH_ready (rs:=[7]) (by kernel_rfl) (by simp) ?_;refine AllReadyH.cons rfl (fun K hK=>?_) AllReadyH.nil;go_simp;refine (zqz _ A A4 c c4 j _ (R.take j) (za8 d m (o,(b:Int),z) (R.drop j)) _ (by simp [go_sem]) (by simp [go_sem]) hHeld.o.2.2.2.2.2.2.2.2.1 hHeld.o.2.1 HLJ.o rfl (by omega) HLV.o).mono ?_;rintro r1 wb ⟨A5,c5,rfl,ho,hb⟩;have HO5:=zhy ho;clear ho;go_wp2_with fail;refine hK.out _ _ (Hsx.call hb hHeld) (fun hHeld=>?_);clear hK K;(try simp only [Act.put,zg1,zg2,zg3,zg4,zg5,zg6]);refine zq 8 (h:=?_);refine zq 9 (h:=?_);refine wpAnyH_done (by kernel_rfl) ?_ _;go_wp2_with fail;go_ret2;exact ⟨A5,c5,by rw [HAF.o,List.length_append,HLJ.o];rfl,by rw [HAF.o];exact qt HO5.o HBL.o,hHeld.o.1⟩
def zxx (F:Fct):Prop:=∀(y:Ma) (d:Md) (k:Int) (w:World),F.p w→Hq w y d→qG d=false→Calls Tryz.prog 24 #[dv y d,.int .i64 k] w fun e w'=>e=.returned (.int .i64 (ql d k).2)∧Below w.heap.size w w'
def zs9 (F:Fct):Prop:=∀(A:Option Addr) (c n:Nat) (Z:List Rx) (w:World),F.p w→Rw w A c Z→Z.length=n→n≤300→(∀z∈Z,z.K.length≤1000000)→Calls Tryz.prog 167 #[.slice A n c] w fun e w'=>e=.returned (.int .i64 (zc8 (Z.map rz)))∧Below w.heap.size w w'
theorem qb7 (y:Ma) (d:Md) (x:Mc) (m:Mh) (L:List Ins) (w:World) (hq:Hq w y d) (hx:Hd w x m) (hr:Ri w x.D x.e L) (hk:L.length=x.k) (b1:m.a.length≤1000) (b2:m.l.length≤1000) (hal:∀u∈y.Z,u.m.a.length≤1000)
  (he:jc L=0) (hth:L.all (zab d m)=true):Calls Tryz.prog 95 #[zyr y d x m] w fun e w'=>zv3 w w' L.length (qk d m L L.length) e:=by
 have hcod:=qw (za he).1;obtain ⟨XA,xc,XB,xd,XD,xk,xe⟩:=x;dsimp only at hr hk;obtain ⟨⟨o0,a0,z0⟩,hx0⟩:∃x,L[0]?=some x:=⟨_,zg7 hcod.1⟩;obtain ⟨al,hA,-⟩:=hr.at9 hx0;subst hA;have HOK:Hid (∀x∈L,0≤x.2.1):=zhy fun x hx=>zd5 (hcod.2.2 x hx);obtain ⟨mm,hm⟩:∃mm,L.length=mm:=⟨_,rfl⟩;obtain rfl:mm=xk:=by rw [←hm];exact hk
 have HLm:=zhy hm;have hm1:1≤mm:=by rw [←hm];exact hcod.1
 have hm2:mm≤200:=by rw [←hm];exact hcod.2.1
 rw [hm];have HEE:=zhy he;have HALL:=zhy hth;have HAL:=zhy hal;obtain ⟨Zz,hZz⟩:∃Zz,List.replicate 200 zeq=Zz:=⟨_,rfl⟩;have HZZ:Hid (Zz.length=200):=zhy (by rw [←hZz,List.length_replicate]);have HZ0:Hid (Zz[0]?=some zeq):=zhy (by rw [←hZz,List.getElem?_replicate,if_pos (by omega)])
 have HZI:Hid (((Zz.set 0 { zeq with r:=true }).map rz).take mm=zf1 mm):=zhy (by
  rw [←hZz,List.map_set,List.map_replicate,zf1];rw [List.take_set,List.take_replicate,Nat.min_eq_left hm2];rfl)
 have HZR:Hid (∀(w:World) (u:Rx),u∈Zz→Rd w u.A u.c u.K):=zhy (fun w u hu=>by
  rw [←hZz] at hu;rw [List.eq_of_mem_replicate hu];exact Rd.none_ w)
 have hzero:=(zero_of_info Tryz.infoW10).1;rw [hZz] at hzero;have S1:=zhy (((((Sx.start w).add (fT (some al) xe L) hr).add (fH ⟨XA,xc,XB,xd,(some al),mm,xe⟩ m) hx).add (fQm y d) hq).mkS y d ⟨XA,xc,XB,xd,(some al),mm,xe⟩ m);obtain ⟨B,hB⟩:∃B,w.heap.size=B:=⟨_,rfl⟩;have HBB:=zhy hB;have hsz1:(w.alloc (zw y d ⟨XA,xc,XB,xd,(some al),mm,xe⟩ m)).heap.size=B+1:=by rw [qn,hB]
 rw [hB] at S1;obtain ⟨zz,hzz⟩:∃zz,(cer Zz).toArray=zz:=⟨_,rfl⟩;have HZA:=zhy hzz;rw [hzz] at hzero;clear hq hx hr hk hcod hx0 hZz hzz he hth hal hm;go_enter Tryz.func95,Tryz.ntmps95;go_upto_region 1 with (fail);have HRES0:Hid (Wr ((w.alloc (zw y d ⟨XA,xc,XB,xd,(some al),mm,xe⟩ m)).alloc (.cells zz 170)) 170 (B+1) Zz):=zhy ⟨by rw [←hsz1,heap_alloc_last,←HZA.o],fun u hu=>HZR.o _ u hu⟩;have S2:Hid (Sx w ((w.alloc (zw y d ⟨XA,xc,XB,xd,(some al),mm,xe⟩ m)).alloc (.cells zz 170)) [fSc B y d ⟨XA,xc,XB,xd,(some al),mm,xe⟩ m,fQm y d,fH ⟨XA,xc,XB,xd,(some al),mm,xe⟩ m,fT (some al) xe L]):=zhy (S1.o.mk1 _);have hsz2:((w.alloc (zw y d ⟨XA,xc,XB,xd,(some al),mm,xe⟩ m)).alloc (.cells zz 170)).heap.size=B+1+1:=by rw [qn,hsz1]
 clear S1;generalize (w.alloc (zw y d ⟨XA,xc,XB,xd,(some al),mm,xe⟩ m)).alloc (.cells zz 170)=wa at HRES0 S2 hsz2 ⊢;have HRES:=HRES0;have S3:=S2;have HWA:=zhy hsz2;clear HRES0 S2 hsz1;go_upto_region 2 with (fail);obtain ⟨g,hg⟩:∃g,B+1+1=g:=⟨_,rfl⟩;have HGG:=zhy hg;have HWG:Hid (wa.heap.size=g):=zhy (by rw [hsz2,hg]);have HW4:Hid (Wr (wa.alloc (.cells zz 170)) 170 g Zz):=zhy ⟨by rw [←HWG.o,heap_alloc_last,←HZA.o],fun u hu=>HZR.o _ u hu⟩;have HB4:Hid (Below wa.heap.size wa (wa.alloc (.cells zz 170))):=zhy qh;rw [hg] at hsz2 ⊢;generalize wa.alloc (.cells zz 170)=w4 at HW4 HB4 ⊢;have y0:w4.cell? ⟨g,0,none⟩=some (.bool false):=HW4.o.cell0 HZ0.o;have yf:w4.frozen? ⟨g,0,none⟩=false:=HW4.o.froz 0;clear hsz2 hg hzero;go_upto_region 3 with (fail)
 have HW5:Hid (Wr (w4.setCell ⟨g,0,none⟩ (.bool true)) 170 g (Zz.set 0 { zeq with r:=true })):=zhy (by
  have h:=HW4.o.setr HZ0.o true;simpa using h)
 have HB5:Hid (Below wa.heap.size wa (w4.setCell ⟨g,0,none⟩ (.bool true))):=zhy (HB4.o.setCell (p:=⟨g,0,none⟩) (by rw [HWG.o];exact Nat.le_refl _) _);have HRS:Hid (qk d m L 0=(((Zz.set 0 { zeq with r:=true }).map rz).take mm,0)):=zhy (by rw [HZI.o,qk,HLm.o]);have HL0:Hid ((Zz.set 0 { zeq with r:=true }).length=200):=zhy (by rw [List.length_set];exact HZZ.o);generalize Zz.set 0 { zeq with r:=true }=Z0 at HW5 HRS HL0;generalize w4.setCell ⟨g,0,none⟩ (.bool true)=w5 at HW5 HB5 ⊢;clear y0 yf HW4 HB4 HZI HZ0;obtain ⟨-,⟨-,s0,s1,s2,s3,s4,s5,s6,s7,s8,s9,s10,s11⟩,-⟩:=(S3.o.call HB5.o);dsimp only at s4 s5 s11;go_wp2_with fail;clear s0 s1 s2 s3 s4 s5 s6 s7 s8 s9 s10 s11;go_loopw [19] (fun pv wq=>∃(p:Nat) (Z1:List Rx),p≤mm∧pv=.int .i64 p∧Hid (Wr wq 170 g Z1)∧Hid (qk d m L p=((Z1.map rz).take mm,0))∧Hid (Z1.length=200)∧Hid (Below wa.heap.size wa wq)) (fun pv _=>mm-(intOf pv).toNat)
 case atStart=>exact ⟨0,Z0,by omega,rfl,HW5,HRS,HL0,HB5⟩
 case round =>
  clear HW5 HRS HL0 HB5;obtain ⟨p,Z1,hpm,rfl,HW0,HRS,HZL1,HB0⟩:=hrel;rename World=>wo0;by_cases hp:p<mm
  ·obtain ⟨⟨o,a,z⟩,hx⟩:∃x,L[p]?=some x:=⟨_,zg7 (by rw [HLm.o];exact hp)⟩;have ha0:=HOK.o _ (List.mem_of_getElem? hx);dsimp only at ha0;obtain ⟨b,rfl⟩:∃b:Nat,a=b:=⟨a.toNat,by omega⟩;have SO0:=zhy (S3.o.call HB0.o);have HRI:Hid (Ri wa (some al) xe L):=zhy S3.o.2.2.2.2.1;obtain ⟨al2,hA,k1,k2,k3⟩:=SO0.o.2.2.2.2.1.at9 hx;injection hA with hA;subst hA;have HIX:Hid (zdp L p=(o,(b:Int),z)):=zhy (by simp [zdp,hx]);have HTHA:Hid (zab d m (o,(b:Int),z)=true):=zhy (List.all_eq_true.1 HALL.o _ (List.mem_of_getElem? hx));have hgs:g<wo0.heap.size:=HW0.o.lt;clear hx ha0;go_upto_region 6 with (fail);have SO:=zhy (SO0.o.mkI o b z);have HW:Hid (Wr (wo0.alloc (zik o b z)) 170 g Z1):=zhy (HW0.o.keep qh);have HB:Hid (Below wa.heap.size wa (wo0.alloc (zik o b z))):=zhy (qc HB0.o qh);obtain ⟨D,hD⟩:∃D,wo0.heap.size=D:=⟨_,rfl⟩;rw [hD] at SO ⊢;have SO:=zhy SO.o;generalize wo0.alloc (zik o b z)=wo at SO HW HB ⊢;clear k1 k2 k3 SO0 HW0 HB0 hD hgs;obtain ⟨⟨zr,zA,zc,zK⟩,hz⟩:∃z,Z1[p]?=some z:=⟨_,zg7 (by rw [HZL1.o];omega)⟩;have HZ:=zhy hz;have y0:=HW.o.cell0 hz;have y1:=HW.o.cell1 hz;have hzK:=HW.o.2 _ (List.mem_of_getElem? hz);dsimp only at y0 y1 hzK;have HKK:=zhy hzK;have hat:((qk d m L p).1[p]?.getD z10)=(zr,zK):=by rw [HRS.o];dsimp only;rw [List.getElem?_take_of_lt hp];exact zts hz
   have h20:(qk d m L p).2=0:=by rw [HRS.o]
   have HAT:=zhy hat;have H20:=zhy h20;clear hz hzK hat h20;cases zr with
   | false =>
    have HRS2:Hid (qk d m L (p+1)=((Z1.map rz).take mm,0)):=zhy (by rw [zdy H20.o (by rw [HAT.o]),HRS.o]);clear y1;go_wp2_with fail;go_roundw
    case rel=>exact ⟨p+1,Z1,by omega,by go_num,HW,HRS2,HZL1,HB⟩
    case measure=>simp [intOf];omega
   | true =>
    obtain ⟨nx,e,haf⟩:∃nx e,za9 d m (o,(b:Int),z) zK=(nx,e):=⟨_,_,rfl⟩;have HAF:=zhy haf;have HAFX:Hid (za9 d m (zdp L p) ((qk d m L p).1[p]?.getD z10).2=(nx,e)):=zhy (by rw [HIX.o,HAT.o];exact haf)
    have hzKb:zK.length≤300000:=by
     have h1:=zcw (ze1 HEE.o p (by rw [HLm.o];omega) H20.o) p;rw [HAT.o] at h1;dsimp only at h1;omega
    have hnxb:nx.length≤1000000:=by
     have h1:=zl7 d m (o,(b:Int),z) zK;rw [haf] at h1;dsimp only at h1;omega
    have S7:Hid (Sx wo wo [fC1 ⟨g,p*2+1,none⟩ (.slice zA zK.length zc),fR zA zc zK,fIc D o b z,fSc B y d ⟨XA,xc,XB,xd,(some al),mm,xe⟩ m,fQm y d,fH ⟨XA,xc,XB,xd,(some al),mm,xe⟩ m,fWr 170 g Z1]):=zhy ⟨Below.refl _ _,y1,HKK.o,SO.o.2.1,SO.o.2.2.1,SO.o.2.2.2.1,SO.o.2.2.2.2.1,HW.o,trivial⟩;clear haf y1;have hp200:(p:Int)<200:=by omega
    go_upto_region 7 with (fail);refine wp_region_held_drew (S:=fun w'=>Hid (Sx wo w' [fC1 ⟨g,p*2+1,none⟩ (.slice zA zK.length zc),fR zA zc zK,fIc D o b z,fSc B y d ⟨XA,xc,XB,xd,(some al),mm,xe⟩ m,fQm y d,fH ⟨XA,xc,XB,xd,(some al),mm,xe⟩ m,fWr 170 g Z1])) (by kernel_rfl) (Hsx.drew S7) (fun hHeld=>?_);refine zq 0 (hy:=fun w hSw=>by (try dsimp only at hSw);obtain ⟨-,u0,-,⟨-,i0,i1,i2⟩,⟨-,s0,s1,s2,s3,s4,s5,s6,s7,s8,s9,s10,s11⟩,-⟩:=hSw.o;dsimp only at u0 s4 s5 s11;go_simp;try with_reducible rfl) (h:=?_);refine zq 1 (hy:=fun w hSw=>by (try dsimp only at hSw);obtain ⟨-,u0,-,⟨-,i0,i1,i2⟩,⟨-,s0,s1,s2,s3,s4,s5,s6,s7,s8,s9,s10,s11⟩,-⟩:=hSw.o;dsimp only at u0 s4 s5 s11;go_simp;try with_reducible rfl) (h:=?_);refine zq 2 (h:=?_);refine zq 3 (h:=?_);refine zq 4 (h:=?_);refine zq 5 (hy:=fun w hSw=>by (try dsimp only at hSw);obtain ⟨-,u0,-,⟨-,i0,i1,i2⟩,⟨-,s0,s1,s2,s3,s4,s5,s6,s7,s8,s9,s10,s11⟩,-⟩:=hSw.o;dsimp only at u0 s4 s5 s11;go_simp;try with_reducible rfl) (h:=?_);refine wpAnyH_ready (rs:=[6]) (by kernel_rfl) (by simp) ?_;refine AllReadyH.cons rfl (fun K hK=>?_) AllReadyH.nil;go_simp;refine (zy3 y d ⟨XA,xc,XB,xd,(some al),mm,xe⟩ m o z b zA zc zK.length zK _ hHeld.o.2.2.2.2.2.1 hHeld.o.2.2.2.2.2.2.1 b1 b2 HTHA.o HAL.o hHeld.o.2.2.1 rfl hzKb).mono ?_;rw [HAF.o];rintro r w7 ⟨A9,c9,rfl,hr9,hb⟩;have HR9:=zhy hr9;clear hr9;go_wp2_with fail;refine hK.out _ _ (Hsx.call hb hHeld) (fun hHeld=>?_);clear hK K;(try simp only [Act.put,zg1,zg2,zg3,zg4,zg5,zg6]);refine zq 7 (h:=?_);refine zq 8 (h:=?_);refine zq 9 (h:=?_);refine zq 10 (h:=?_);refine zq 11 (h:=?_);refine wpAnyH_done (by kernel_rfl) ?_ _;have SE:=zhy hHeld.o;have HR9':Hid (Rd w7 A9 c9 nx):=HR9;clear hHeld HR9;have HB7:Hid (Below wa.heap.size wa w7):=zhy (qc HB.o SE.o.1);by_cases he:e=0
    ·subst he;have HW7:Hid (Wr w7 170 g Z1):=zhy SE.o.2.2.2.2.2.2.2.1;have HWY:=zhy (zy4 (some al) xe mm L p w7 (HRI.o.keepB HB7.o) HLm.o (by omega));have HF9:Hid (zd2 L (p:Int)=(wy9 L p,0)):=zhy (by rw [zd2,if_pos HEE.o,if_neg (by rw [HLm.o];omega),Int.toNat_natCast]);rw [HF9.o] at HWY;have HAH:=zhy (zlt HEE.o (p:=p) (by rw [HLm.o];exact hp));obtain ⟨W,hW⟩:∃W,wy9 L p=W:=⟨_,rfl⟩;rw [hW] at HWY HAH;have HAH:=zhy HAH.o;have HWW:=zhy hW;dsimp only at HWY;obtain ⟨kw,hkw⟩:∃kw,W.length=kw:=⟨_,rfl⟩;rw [hkw] at HWY;have hkw2:kw≤2:=by rw [←hkw];exact HAH.o.1
     have HKW:=zhy hkw;obtain ⟨-,-,-,-,⟨-,s0,s1,s2,s3,s4,s5,s6,s7,s8,s9,s10,s11⟩,-⟩:=SE.o;dsimp only at s4 s5 s11;clear hW hkw;go_wp2_with fail;refine HWY.o.mono ?_;rintro r w8 ⟨AW,cW,rfl,ho,hb⟩;have HRN8:Hid (Rn w8 AW cW W):=zhy (Rn.of_own ho).1;have HW8:=zhy (HW7.o.keep hb);have HN8:=zhy (HR9'.o.keep hb);have HB8:=zhy (qc HB7.o hb);clear ho hb HWY HW7 HR9' s0 s1 s2 s3 s4 s5 s6 s7 s8 s9 s10 s11;go_wp2_with fail;go_loopw [53] (fun iv wq=>∃(i:Nat) (Z2:List Rx),i≤kw∧iv=.int .i64 i∧Hid (Wr wq 170 g Z2)∧Hid (Z2.length=200)∧Hid (za0 nx W ((Z1.map rz).take mm)=za0 nx (W.drop i) ((Z2.map rz).take mm))∧Hid (Rd wq A9 c9 nx)∧Hid (Rn wq AW cW W)∧Hid (Below wa.heap.size wa wq)) (fun iv _=>kw-(intOf iv).toNat)
     case atStart=>exact ⟨0,Z1,by omega,rfl,HW8,HZL1,zhy rfl,HN8,HRN8,HB8⟩
     case round =>
      clear HW8 HN8 HRN8 HB8 HW;obtain ⟨i,Z2,hi,rfl,HW,HZL9,HSW,HNX,HRN,HBQ⟩:=hrel;by_cases h4:i<kw
      ·obtain ⟨x,hx⟩:∃x,W[i]?=some x:=⟨_,zg7 (by rw [HKW.o];exact h4)⟩;obtain ⟨⟨v,rfl,hvm,-⟩,-⟩:=HAH.o.2.2 i x hx;rw [HLm.o] at hvm;obtain ⟨aw,hAW,yw⟩:=HRN.o.at_ hx;subst hAW
       have HDR:Hid (W.drop i=(v:Int)::W.drop (i+1)):=zhy (by
        obtain ⟨q1,q2⟩:=zg8.1 hx;rw [List.drop_eq_getElem_cons q1,q2])
       have HMT:=zhy (qbk 170 g v Z2 A9 c9 nx.length nx wr HW.o (by rw [HZL9.o];omega) HNX.o rfl (by omega))
       have HST:Hid (za0 nx W ((Z1.map rz).take mm)=if zlk (Z2.map rz) v nx then za0 nx (W.drop (i+1)) ((zm5 (Z2.map rz) v nx).take mm) else none):=zhy (by
        rw [HSW.o,HDR.o,zo1,zpi hvm,zpe hvm])
       clear hx;cases hbv:zlk (Z2.map rz) v nx with
       | true =>
        rw [hbv] at HMT HST;clear hbv;go_wp2_with fail;refine HMT.o.mono ?_;rintro r w9 ⟨rfl,Z3,hl3,hz3,hM⟩;have HW':=zhy hM.1;have HNX':=zhy (hM.2.2.1 _ _ _ HNX.o);have HRN':=zhy (hM.2.2.2 _ _ _ HRN.o);have HBQ':Hid (Below wa.heap.size wa w9):=zhy (HBQ.o.trans (by rw [HWG.o];exact hM.2.1));have HZL':Hid (Z3.length=200):=zhy (hl3.trans HZL9.o);have HSW':Hid (za0 nx W ((Z1.map rz).take mm)=za0 nx (W.drop (i+1)) ((Z3.map rz).take mm)):=zhy (by have h:=HST.o;rw [←hz3] at h;simpa using h);clear hl3 hz3 hM HMT HW HNX HRN HBQ yw;go_wp2_with fail;go_roundw
        case rel=>exact ⟨i+1,Z3,by omega,by go_num,HW',HZL',HSW',HNX',HRN',HBQ'⟩
        case measure=>simp [intOf];omega
       | false =>
        rw [hbv] at HMT HST;clear hbv
        have HE:Hid ((qk d m L mm).2=100):=zhy (zj5 (p:=p+1) (by omega) (e:=100) (by
         rw [zb7 H20.o (by rw [HAT.o]) HAFX.o]
         have hs:za0 nx (wy9 L p) (qk d m L p).1=none:=by
          rw [HWW.o,HRS.o];rw [HST.o];rfl
         rw [hs]) (by decide))
        go_wp2_with fail;refine HMT.o.mono ?_;rintro r w9 ⟨rfl,Z3,hl3,hz3,hM⟩;have HW':=zhy hM.1;have HBQ':Hid (Below wa.heap.size wa w9):=zhy (HBQ.o.trans (by rw [HWG.o];exact hM.2.1));have HZL':Hid (Z3.length=200):=zhy (hl3.trans HZL9.o);clear hl3 hz3 hM HMT HW HNX HRN HBQ yw HZL9;have HZL9:=HZL';go_upto_region 15 with (fail);have HE9:Hid (zv3 w (w9.setRow (B+1) (cer Z3).toArray) mm (qk d m L mm) (.returned (.tuple #[.agg (cer Z3).toArray,.int .i64 100]))):=zhy (zv3.mk HE.o (fun h=>by cases h) HZL9.o (fun u hu=>(HW'.o.2 u hu).past_row (HRES.o.keepB HBQ'.o (by rw [HWA.o];omega)) _) (below_setRow (S3.o.call HBQ'.o).1 (by rw [←HBB.o];omega) _));have HSZ9:Hid ((Tryz.prog.info? 170).map (·.size)=some (cer Z3).toArray.size):=zhy (by rw [zi HZL9.o];exact (zero_of_info Tryz.infoW10).2);have HSZ8:Hid ((cer Zz).toArray.size=(cer Z3).toArray.size):=zhy (by rw [zi HZL9.o,zi HZZ.o]);have HOLD:=zhy ((HBQ'.o.block (B+1) (by rw [HWA.o];omega)).trans HRES.o.1);go_wp2_with (first | refine wpList_load_row rfl 170 (.tmp 4) rfl g rfl 170 (cer Z3).toArray (0,0) _ HW'.o.1 Tryz.underlying170 rfl HSZ9.o ?_ | refine wpList_store_row rfl 170 (.tmp 2) (.tmp 62) rfl (B+1) (cer Z3).toArray rfl rfl 170 (cer Zz).toArray HOLD.o HSZ9.o HSZ8.o (zet _) ?_);exact zdz _ _ (B+1) (cer Z3).toArray 100 rfl rfl (zp HOLD.o _) (zi HZL9.o) _ HE9.o
      ·obtain rfl:i=kw:=by omega
       have HRS2:Hid (qk d m L (p+1)=((Z2.map rz).take mm,0)):=zhy (by
        rw [zb7 H20.o (by rw [HAT.o]) HAFX.o]
        have hs:za0 nx (wy9 L p) (qk d m L p).1=some ((Z2.map rz).take mm):=by
         rw [HWW.o,HRS.o];rw [HSW.o,List.drop_of_length_le (by rw [HKW.o];exact Nat.le_refl _)];rfl
        rw [hs])
       go_wp2_with fail;go_roundw
       case rel=>exact ⟨p+1,Z2,by omega,by go_num,HW,HRS2,HZL9,HBQ⟩
       case measure=>simp [intOf];omega
    ·have he2:(e != 0)=true:=by simpa using he
     have HE:Hid ((qk d m L mm).2=e):=zhy (zj5 (p:=p+1) (by omega) (e:=e) (by rw [zfb H20.o (by rw [HAT.o]) (e:=e) (by rw [HAFX.o]) he]) he);have HW7:Hid (Wr w7 170 g Z1):=zhy SE.o.2.2.2.2.2.2.2.1;have HZL9:=HZL1;have HNE:=zhy he;go_upto_region 9 with (fail);have HE9:Hid (zv3 w (w7.setRow (B+1) (cer Z1).toArray) mm (qk d m L mm) (.returned (.tuple #[.agg (cer Z1).toArray,.int .i64 e]))):=zhy (zv3.mk HE.o (fun h=>absurd h HNE.o) HZL9.o (fun u hu=>(HW7.o.2 u hu).past_row (HRES.o.keepB HB7.o (by rw [HWA.o];omega)) _) (below_setRow (S3.o.call HB7.o).1 (by rw [←HBB.o];omega) _));have HSZ9:Hid ((Tryz.prog.info? 170).map (·.size)=some (cer Z1).toArray.size):=zhy (by rw [zi HZL9.o];exact (zero_of_info Tryz.infoW10).2);have HSZ8:Hid ((cer Zz).toArray.size=(cer Z1).toArray.size):=zhy (by rw [zi HZL9.o,zi HZZ.o]);have HOLD:=zhy ((HB7.o.block (B+1) (by rw [HWA.o];omega)).trans HRES.o.1);go_wp2_with (first | refine wpList_load_row rfl 170 (.tmp 4) rfl g rfl 170 (cer Z1).toArray (0,0) _ HW7.o.1 Tryz.underlying170 rfl HSZ9.o ?_ | refine wpList_store_row rfl 170 (.tmp 2) (.tmp 41) rfl (B+1) (cer Z1).toArray rfl rfl 170 (cer Zz).toArray HOLD.o HSZ9.o HSZ8.o (zet _) ?_);exact zdz _ _ (B+1) (cer Z1).toArray e rfl rfl (zp HOLD.o _) (zi HZL9.o) _ HE9.o
  ·obtain rfl:mm=p:=by omega
   have HE:Hid ((qk d m L mm).2=0):=zhy (by rw [HRS.o]);have HE1:Hid ((Z1.map rz).take mm=(qk d m L mm).1):=zhy (by rw [HRS.o]);have HZL9:=HZL1;go_upto_region 18 with (fail);have HE9:Hid (zv3 w (wo0.setRow (B+1) (cer Z1).toArray) mm (qk d m L mm) (.returned (.tuple #[.agg (cer Z1).toArray,.int .i64 0]))):=zhy (zv3.mk HE.o (fun _=>HE1.o) HZL9.o (fun u hu=>(HW0.o.2 u hu).past_row (HRES.o.keepB HB0.o (by rw [HWA.o];omega)) _) (below_setRow (S3.o.call HB0.o).1 (by rw [←HBB.o];omega) _));have HSZ9:Hid ((Tryz.prog.info? 170).map (·.size)=some (cer Z1).toArray.size):=zhy (by rw [zi HZL9.o];exact (zero_of_info Tryz.infoW10).2);have HSZ8:Hid ((cer Zz).toArray.size=(cer Z1).toArray.size):=zhy (by rw [zi HZL9.o,zi HZZ.o]);have HOLD:=zhy ((HB0.o.block (B+1) (by rw [HWA.o];omega)).trans HRES.o.1);go_wp2_with (first | refine wpList_load_row rfl 170 (.tmp 4) rfl g rfl 170 (cer Z1).toArray (0,0) _ HW0.o.1 Tryz.underlying170 rfl HSZ9.o ?_ | refine wpList_store_row rfl 170 (.tmp 2) (.tmp 65) rfl (B+1) (cer Z1).toArray rfl rfl 170 (cer Zz).toArray HOLD.o HSZ9.o HSZ8.o (zet _) ?_);exact zdz _ _ (B+1) (cer Z1).toArray 0 rfl rfl (zp HOLD.o _) (zi HZL9.o) _ HE9.o
abbrev zbt:Array Value:=#[.slice none 0 0,.slice none 0 0,.slice none 0 0,.int .i64 0,.slice none 0 0,.slice none 0 0,.int .u8 0,.bool false,.int .i64 0,.int .i64 0,.int .i64 0,.slice none 0 0]
abbrev qag (y:Ma) (d:Md) (x:Mc) (m:Mh):Array Value:=#[.slice y.G d.g.length y.gc,.slice y.P d.p.length y.pc,.slice y.A d.s.length y.c,.int .i64 d.i,.slice x.A m.a.length x.c,.slice x.B m.l.length x.d,.int .u8 m.r,.bool m.q,.int .i64 m.f,.int .i64 m.s,.int .i64 m.h,.slice x.D x.k x.e]
theorem Tryz.infoS10:(Tryz.prog.info? 166).map (fun i=>(i.zero,i.size))=some (some (.agg zbt),12):=by kernel_rfl
theorem zbf:(Tryz.prog.info? 166).map (·.size)=some 12:=(zero_of_info Tryz.infoS10).2
theorem zem:zbt.all (·.oneCell')=true:=by simp [Value.oneCell']
theorem zu1 (y:Ma) (d:Md) (x:Mc) (m:Mh):(qag y d x m).all (·.oneCell')=true:=by simp [Value.oneCell']
abbrev qaf (g:Nat) (o:Obj):Fct:=⟨fun w=>w.heap[g]?=some o,fun _ _ h hb=>(hb.block g (zg9.1 h).1).trans h⟩
theorem zbj (tm:Array Value) (w':World) (r:Nat) (cs:Array Value) (e:Int) (h2:tm[4]?.getD undef=.pointer (some ⟨r,0,none⟩)) (h3:tm[5]?.getD undef=.int .i64 e) (hw:w'.heap[r]?=some (.cells cs 166 (0,0))) (hs:cs.size=12) (R:Ending→World→Prop)
  (hR:R (.returned (.tuple #[.agg cs,.int .i64 e])) w'):bodyPost Tryz.prog Tryz.f94 R .ret { tmps:=tm,defers:=[]} w':=by
 refine bodyPost_ret (v:=.tuple #[.agg cs,.int .i64 e]) ?_ rfl hR;rw [results_cell_tmp Tryz.results94];have e2:tm.getD 4 undef=.pointer (some ⟨r,0,none⟩):=by simpa using h2
 have e3:tm.getD 5 undef=.int .i64 e:=by simpa using h3
 rw [e2,e3];simp only [asAddr,Sem.run_pure,Result.andThen,run_loadVar_row w' r _ 166 cs (0,0) _ hw Tryz.underlying166 rfl (by rw [hs];exact zbf)]
def zok (w w':World) (y:Ma) (d:Md) (T:List Rz×Int) (e:Ending):Prop:=∃cs E,e=.returned (.tuple #[.agg cs,.int .i64 E])∧Below w.heap.size w w' ∧
 ((E≠0∧cs=zbt∧T=([],E))∨(E=0∧∃x m L,cs=qag y d x m∧Hq w' y d∧Hd w' x m∧Ri w' x.D x.e L∧L.length=x.k∧m.a.length≤100∧m.l.length≤100∧jc L=0∧L.all (zab d m)=true∧T=if (qk d m L L.length).2=0 then ((qk d m L L.length).1,0) else ([],(qk d m L L.length).2)))
theorem zok.err {w w':World} {y:Ma} {d:Md} {T:List Rz×Int} {e:Int} (hT:T=([],e)) (h0:e≠0) (hb:Below w.heap.size w w'):zok w w' y d T (.returned (.tuple #[.agg zbt,.int .i64 e])):=⟨zbt,e,rfl,hb,.inl ⟨h0,rfl,hT⟩⟩
theorem qas (y:Ma) (d:Md) (k:Int) (w:World) (hq:Hq w y d) (hg:qG d=false):Calls Tryz.prog 94 #[dv y d,.int .i64 k] w fun e w'=>zok w w' y d (ql d k) e:=by
 obtain ⟨G,gc,P,pc,AA,cc,Z⟩:=y;have HG:=zhy hg;have hzl:=hq.zlen;dsimp only at hzl;obtain ⟨sn,hsn⟩:∃sn,d.s.length=sn:=⟨_,rfl⟩;have HSN:=zhy hsn
 have hs40:sn≤40:=by
  rw [←hsn];simp only [qG,Bool.or_eq_false_iff,decide_eq_false_iff_not] at hg;omega
 have S0:=zhy ((((Sx.start w).add (fQm ⟨G,gc,P,pc,AA,cc,Z⟩ d) hq).mkD ⟨G,gc,P,pc,AA,cc,Z⟩ d));have HZL:=zhy (hzl.trans hsn);have hzero:=(zero_of_info Tryz.infoS10).1;obtain ⟨T,hT⟩:∃T,ql d k=T:=⟨_,rfl⟩;have HT:=zhy hT;rw [hT];obtain ⟨B,hB⟩:∃B,w.heap.size=B:=⟨_,rfl⟩;have HBB:=zhy hB;have hsz1:(w.alloc (zn ⟨G,gc,P,pc,AA,cc,Z⟩ d)).heap.size=B+1:=by rw [qn,hB]
 rw [hB] at S0;have HQ0:=zhy hq;clear hq hg hT hzl hsn;go_enter Tryz.func94,Tryz.ntmps94;go_upto_region 1 with (fail);have S1:Hid (Sx w ((w.alloc (zn ⟨G,gc,P,pc,AA,cc,Z⟩ d)).alloc (.cells zbt 166)) [qaf (B+1) (.cells zbt 166 (0,0)),fD B ⟨G,gc,P,pc,AA,cc,Z⟩ d,fQm ⟨G,gc,P,pc,AA,cc,Z⟩ d]):=zhy ((S0.o.mk1 _).add (qaf (B+1) (.cells zbt 166 (0,0))) (by rw [←hsz1];exact heap_alloc_last _ _));have hsz2:((w.alloc (zn ⟨G,gc,P,pc,AA,cc,Z⟩ d)).alloc (.cells zbt 166)).heap.size=B+1+1:=by rw [qn,hsz1]
 change Code.wp _ _ _ _ ((w.alloc (zn ⟨G,gc,P,pc,AA,cc,Z⟩ d)).alloc (.cells zbt 166));generalize (w.alloc (zn ⟨G,gc,P,pc,AA,cc,Z⟩ d)).alloc (.cells zbt 166)=w1 at S1 hsz2 ⊢;clear S0 hsz1 hzero;obtain ⟨-,-,⟨d0,d1,d2,d3,d4⟩,-⟩:=S1.o;dsimp only at d1 d2 d3;rw [HSN.o] at d3;by_cases hk0:k<0
 ·have HE:Hid (T=([],2)):=zhy (by rw [←HT.o,ql,if_pos (.inl hk0)]);go_upto_region 2 with (fail);have HE9:Hid (zok w (w1.setRow (B+1) (zbt)) ⟨G,gc,P,pc,AA,cc,Z⟩ d T (.returned (.tuple #[.agg (zbt),.int .i64 2]))):=zhy (zok.err HE.o (by decide) (below_setRow S1.o.1 (show w.heap.size≤B+1 by have:=HBB.o;omega) _));go_wp2_with (refine wpList_store_row rfl 166 (.tmp 4) (.tmp 19) rfl (B+1) (zbt) rfl rfl 166 zbt S1.o.2.1 zbf rfl (zem) ?_);exact zbj _ _ (B+1) (zbt) 2 rfl rfl (zp S1.o.2.1 _) rfl _ HE9.o
 by_cases hks:(sn:Int)≤k
 ·have HE:Hid (T=([],2)):=zhy (by rw [←HT.o,ql,if_pos (.inr (by rw [HSN.o];exact hks))]);go_upto_region 2 with (fail);have HE9:Hid (zok w (w1.setRow (B+1) (zbt)) ⟨G,gc,P,pc,AA,cc,Z⟩ d T (.returned (.tuple #[.agg (zbt),.int .i64 2]))):=zhy (zok.err HE.o (by decide) (below_setRow S1.o.1 (show w.heap.size≤B+1 by have:=HBB.o;omega) _));go_wp2_with (refine wpList_store_row rfl 166 (.tmp 4) (.tmp 19) rfl (B+1) (zbt) rfl rfl 166 zbt S1.o.2.1 zbf rfl (zem) ?_);exact zbj _ _ (B+1) (zbt) 2 rfl rfl (zp S1.o.2.1 _) rfl _ HE9.o
 obtain ⟨k,rfl⟩:∃k':Nat,k=k':=⟨k.toNat,by omega⟩;have hks2:k<sn:=by omega
 obtain ⟨ad8,hA8,hat,hok⟩:=S1.o.2.2.2.1.2.2.1.at_ (i:=k) (by rw [HZL.o];exact hks2);have hme:=S1.o.2.2.2.1.zat (i:=k) (by rw [HZL.o];exact hks2) (by rw [HSN.o];exact hks2);dsimp only at hA8 hat hok hme;obtain ⟨zz,hzz⟩:∃zz,Z[k]'(by rw [HZL.o];exact hks2)=zz:=⟨_,rfl⟩;obtain ⟨-,-,-,hok0⟩:=HQ0.o.2.2.1.at_ (i:=k) (by rw [HZL.o];exact hks2);dsimp only at hok0;rw [hzz] at hat hok hme hok0;obtain ⟨⟨XA,xc,XB,xd,XD,xk,xe⟩,h,L⟩:=zz;subst hA8
 have HTM:Hid (T=zfz d h L):=zhy (by
  rw [←HT.o,ql,if_neg (by rw [HSN.o];omega),Int.toNat_natCast,zg7 (by rw [HSN.o];exact hks2),hme];rfl)
 have hbd:h.a.length≤100∧h.l.length≤100∧L.length≤300:=by
  have hg:=HG.o;simp only [qG,Bool.or_eq_false_iff,decide_eq_false_iff_not,List.any_eq_false] at hg;have hh:=hg.2.2.2 _ (List.getElem_mem (by rw [HSN.o];exact hks2));rw [hme] at hh;simp only [qgE,gB,Bool.or_eq_true,decide_eq_true_eq,not_or] at hh;omega
 obtain ⟨hb1,hb2,hb3⟩:=hbd;obtain ⟨hH,hRi,hxk⟩:=hok;dsimp only at hH hRi hxk;obtain ⟨g0,g1,g2,g3,g4,g5,g6,g7⟩:=hat;dsimp only at g0 g1 g2 g3 g4 g5 g6 g7;obtain ⟨mm,hm⟩:∃mm,L.length=mm:=⟨_,rfl⟩;obtain rfl:mm=xk:=by rw [←hm];exact hxk
 have HLm:=zhy hm;have hmm3:mm≤300:=by rw [←hm];exact hb3
 have S2:Hid (Sx w w1 [qaf (B+1) (.cells zbt 166 (0,0)),fT XD xe L,fH ⟨XA,xc,XB,xd,XD,mm,xe⟩ h,fQm ⟨G,gc,P,pc,(some ad8),cc,Z⟩ d]):=zhy ⟨S1.o.1,S1.o.2.1,hRi,hH,S1.o.2.2.2.1,trivial⟩;have hks3:k<sn:=hks2;have hqb:(ad8.add (k*8)).block<w1.heap.size:=qi g0;have hqb2:(ad8.add (k*8)).block<B+1+1:=by rw [←hsz2];exact hqb
 have HK0:=zhy hok0;clear hzz hme hks hxk hm S1 hok0;go_upto_region 3 with (fail);go_region;have hsn:=HSN.o;subst hsn;have S3:Hid (Sx w ((w1.alloc (zw ⟨G,gc,P,pc,(some ad8),cc,Z⟩ d ⟨XA,xc,XB,xd,XD,mm,xe⟩ h)).drew) [fSc (B+1+1) ⟨G,gc,P,pc,(some ad8),cc,Z⟩ d ⟨XA,xc,XB,xd,XD,mm,xe⟩ h,qaf (B+1) (.cells zbt 166 (0,0)),fT XD xe L,fH ⟨XA,xc,XB,xd,XD,mm,xe⟩ h,fQm ⟨G,gc,P,pc,(some ad8),cc,Z⟩ d]):=Hsx.drew (zhy (by have h:=S2.o.mkS ⟨G,gc,P,pc,(some ad8),cc,Z⟩ d ⟨XA,xc,XB,xd,XD,mm,xe⟩ h;rwa [hsz2] at h));generalize (w1.alloc (zw ⟨G,gc,P,pc,(some ad8),cc,Z⟩ d ⟨XA,xc,XB,xd,XD,mm,xe⟩ h)).drew=w2 at S3 ⊢;clear g0 g1 g2 g3 g4 g5 g6 g7 d0 d1 d2 d3 d4 hsz2 hqb hqb2 S2;obtain ⟨-,⟨-,s0,s1,s2,s3,s4,s5,s6,s7,s8,s9,s10,s11⟩,-⟩:=S3.o;dsimp only at s0 s1 s2 s4 s5 s11;have HLO:=zhy (zsd XD xe mm L w2 S3.o.2.2.2.1 HLm.o (by rw [←HLm.o];exact hb3));obtain ⟨E,hE⟩:∃e,jc L=e:=⟨_,rfl⟩;have HEE:=zhy hE;rw [hE] at HLO;clear hE;go_wp2_with fail;refine HLO.o.mono ?_;rintro r w3 ⟨rfl,hb⟩;have S4:=zhy (S3.o.call hb);clear hb HLO S3 s0 s1 s2 s3 s4 s5 s6 s7 s8 s9 s10 s11;by_cases h0:E=0
 ·subst h0;have hcod:=qw (za HEE.o).1;have HOK:Hid (∀x∈L,0≤x.2.1):=zhy fun x hx=>zd5 (hcod.2.2 x hx);obtain ⟨⟨o0,a0,z0⟩,hx0⟩:∃x,L[0]?=some x:=⟨_,zg7 hcod.1⟩;obtain ⟨al,hA,-⟩:=S4.o.2.2.2.1.at9 hx0;subst hA;have HTM2:Hid (T=if L.all (zab d h)=true then (if (qk d h L L.length).2=0 then ((qk d h L L.length).1,0) else ([],(qk d h L L.length).2)) else ([],100)):=zhy (by rw [HTM.o,zfz,if_pos HEE.o]);clear hx0 hcod hRi hH HTM;obtain ⟨-,⟨-,s0,s1,s2,s3,s4,s5,s6,s7,s8,s9,s10,s11⟩,-⟩:=S4.o;dsimp only at s0 s1 s2 s4 s5 s11;go_wp2_with fail;clear s0 s1 s2 s3 s4 s5 s6 s7 s8 s9 s10 s11;go_loopw [39] (fun iv wq=>∃i:Nat,i≤mm∧iv=.int .i64 i∧Hid ((L.take i).all (zab d h)=true)∧Hid (Sx w wq [fSc (B+1+1) ⟨G,gc,P,pc,(some ad8),cc,Z⟩ d ⟨XA,xc,XB,xd,(some al),mm,xe⟩ h,qaf (B+1) (.cells zbt 166 (0,0)),fT (some al) xe L,fH ⟨XA,xc,XB,xd,(some al),mm,xe⟩ h,fQm ⟨G,gc,P,pc,(some ad8),cc,Z⟩ d])) (fun iv _=>mm-(intOf iv).toNat)
  case atStart=>exact ⟨0,by omega,rfl,zhy rfl,S4⟩
  case round =>
   clear S4;obtain ⟨i,hi,rfl,HI,SQ⟩:=hrel;rename World=>wq;by_cases h1:i<mm
   ·obtain ⟨⟨o,a,z⟩,hx⟩:∃x,L[i]?=some x:=⟨_,zg7 (by rw [HLm.o];exact h1)⟩;have ha0:=HOK.o _ (List.mem_of_getElem? hx);dsimp only at ha0;obtain ⟨b,rfl⟩:∃b:Nat,a=b:=⟨a.toNat,by omega⟩;obtain ⟨al2,hA,k1,k2,k3⟩:=SQ.o.2.2.2.1.at9 hx;injection hA with hA;subst hA;have HX:=zhy hx;clear hx ha0;go_upto_region 10 with (fail);have SO:=zhy (SQ.o.mkI o b z);obtain ⟨D,hD⟩:∃D,wq.heap.size=D:=⟨_,rfl⟩;rw [hD] at SO ⊢;have SO:=zhy SO.o;generalize wq.alloc (zik o b z)=wo at SO ⊢;clear k1 k2 k3 SQ hD;have HTH:=zhy (zt3 ⟨G,gc,P,pc,(some ad8),cc,Z⟩ d ⟨XA,xc,XB,xd,(some al),mm,xe⟩ h o b z wo (Nat.le_trans hb1 (by decide)) (Nat.le_trans hb2 (by decide)));obtain ⟨-,⟨-,i0,i1,i2⟩,⟨-,s0,s1,s2,s3,s4,s5,s6,s7,s8,s9,s10,s11⟩,-⟩:=SO.o;dsimp only at s0 s1 s2 s4 s5 s11;cases hv:zab d h (o,(b:Int),z) with
    | false =>
     have HE:Hid (T=([],100)):=zhy (by
      have:L.all (zab d h)=false:=List.all_eq_false.2 ⟨_,List.mem_of_getElem? HX.o,by rw [hv];simp⟩;rw [HTM2.o,this];rfl)
     rw [hv] at HTH;clear hv;go_wp2_with fail;refine HTH.o.mono ?_;rintro r w5 ⟨rfl,hb⟩;have S5:=zhy (SO.o.call hb);clear hb HTH SO i0 i1 i2 s0 s1 s2 s3 s4 s5 s6 s7 s8 s9 s10 s11;go_upto_region 11 with (fail);have HE9:Hid (zok w (w5.setRow (B+1) (zbt)) ⟨G,gc,P,pc,(some ad8),cc,Z⟩ d T (.returned (.tuple #[.agg (zbt),.int .i64 100]))):=zhy (zok.err HE.o (by decide) (below_setRow S5.o.1 (show w.heap.size≤B+1 by have:=HBB.o;omega) _));go_wp2_with (refine wpList_store_row rfl 166 (.tmp 4) (.tmp 47) rfl (B+1) (zbt) rfl rfl 166 zbt S5.o.2.2.2.1 zbf rfl (zem) ?_);exact zbj _ _ (B+1) (zbt) 100 rfl rfl (zp S5.o.2.2.2.1 _) rfl _ HE9.o
    | true =>
     have HI2:Hid ((L.take (i+1)).all (zab d h)=true):=zhy (by rw [List.take_add_one,HX.o,List.all_append,HI.o];simp [hv]);rw [hv] at HTH;clear hv;go_wp2_with fail;refine HTH.o.mono ?_;rintro r w5 ⟨rfl,hb⟩;have S5:Hid (Sx w w5 [fSc (B+1+1) ⟨G,gc,P,pc,(some ad8),cc,Z⟩ d ⟨XA,xc,XB,xd,(some al),mm,xe⟩ h,qaf (B+1) (.cells zbt 166 (0,0)),fT (some al) xe L,fH ⟨XA,xc,XB,xd,(some al),mm,xe⟩ h,fQm ⟨G,gc,P,pc,(some ad8),cc,Z⟩ d]):=zhy ⟨(SO.o.call hb).1,(SO.o.call hb).2.2⟩;clear hb HTH SO i0 i1 i2 s0 s1 s2 s3 s4 s5 s6 s7 s8 s9 s10 s11;go_wp2_with fail;go_roundw
     case rel=>exact ⟨i+1,by omega,by go_num,HI2,S5⟩
     case measure=>simp [intOf];omega
   ·obtain rfl:mm=i:=by omega
    have HALL:Hid (L.all (zab d h)=true):=zhy (by
     have h:=HI.o;rwa [List.take_of_length_le (by rw [HLm.o];exact Nat.le_refl _)] at h)
    have HTM3:Hid (T=if (qk d h L L.length).2=0 then ((qk d h L L.length).1,0) else ([],(qk d h L L.length).2)):=zhy (by rw [HTM2.o,if_pos HALL.o]);obtain ⟨-,⟨-,s0,s1,s2,s3,s4,s5,s6,s7,s8,s9,s10,s11⟩,-⟩:=SQ.o;dsimp only at s0 s1 s2 s4 s5 s11;go_upto_region 13 with (fail);have HE9:Hid (zok w (wq.setRow (B+1) (qag ⟨G,gc,P,pc,(some ad8),cc,Z⟩ d ⟨XA,xc,XB,xd,(some al),mm,xe⟩ h)) ⟨G,gc,P,pc,(some ad8),cc,Z⟩ d T (.returned (.tuple #[.agg (qag ⟨G,gc,P,pc,(some ad8),cc,Z⟩ d ⟨XA,xc,XB,xd,(some al),mm,xe⟩ h),.int .i64 0]))):=zhy (⟨_,_,rfl,below_setRow SQ.o.1 (show w.heap.size≤B+1 by have:=HBB.o;omega) _,.inr ⟨rfl,⟨XA,xc,XB,xd,(some al),mm,xe⟩,h,L,rfl,(HQ0.o.keep (below_setRow SQ.o.1 (show w.heap.size≤B+1 by have:=HBB.o;omega) _)),(HK0.o.1.keep (below_setRow SQ.o.1 (show w.heap.size≤B+1 by have:=HBB.o;omega) _)),(HK0.o.2.1.keepB (below_setRow SQ.o.1 (show w.heap.size≤B+1 by have:=HBB.o;omega) _)),HLm.o,hb1,hb2,HEE.o,HALL.o,HTM3.o⟩⟩);go_wp2_with (refine wpList_store_row rfl 166 (.tmp 4) (.tmp 49) rfl (B+1) (qag ⟨G,gc,P,pc,(some ad8),cc,Z⟩ d ⟨XA,xc,XB,xd,(some al),mm,xe⟩ h) rfl rfl 166 zbt SQ.o.2.2.1 zbf rfl (zu1 ⟨G,gc,P,pc,(some ad8),cc,Z⟩ d ⟨XA,xc,XB,xd,(some al),mm,xe⟩ h) ?_);exact zbj _ _ (B+1) (qag ⟨G,gc,P,pc,(some ad8),cc,Z⟩ d ⟨XA,xc,XB,xd,(some al),mm,xe⟩ h) 0 rfl rfl (zp SQ.o.2.2.1 _) rfl _ HE9.o
 ·have hne:(E != 0)=true:=by simpa using h0
  have HE:Hid (T=([],E)):=zhy (by rw [HTM.o,zfz,if_neg (by rw [HEE.o];exact h0),HEE.o]);go_upto_region 6 with (fail);have HE9:Hid (zok w (w3.setRow (B+1) (zbt)) ⟨G,gc,P,pc,(some ad8),cc,Z⟩ d T (.returned (.tuple #[.agg (zbt),.int .i64 E]))):=zhy (zok.err HE.o h0 (below_setRow S4.o.1 (show w.heap.size≤B+1 by have:=HBB.o;omega) _));go_wp2_with (refine wpList_store_row rfl 166 (.tmp 4) (.tmp 33) rfl (B+1) (zbt) rfl rfl 166 zbt S4.o.2.2.1 zbf rfl (zem) ?_);exact zbj _ _ (B+1) (zbt) E rfl rfl (zp S4.o.2.2.1 _) rfl _ HE9.o
theorem Tryz.infoT10:(Tryz.prog.info? 169).map (fun i=>(i.zero,i.size,i.bytes))=some (some (.agg #[.bool false,.slice none 0 0]),2,32):=by kernel_rfl
theorem qfb (ad:Addr) (i:Nat):ad.add (i*2+1)=⟨(ad.add (i*2)).block,(ad.add (i*2)).off+1,none⟩:=by
 unfold Addr.add;rw [if_neg (by omega)];split
 ·rename_i h0;simp [h0]
 ·simp;omega
theorem zxo:∀{Z:List Rx} {j:Nat} {u:Value},(cer Z)[j]?=some u→∃i z,Z[i]?=some z∧((j=i*2∧u=.bool z.r)∨(j=i*2+1∧u=.slice z.A z.K.length z.c)):=by
 intro Z j u h;have hj:=(zg8.1 h).1;rw [zce] at hj;have hi:j / 2<Z.length:=by omega
 have hz:Z[j / 2]?=some Z[j / 2]:=zg7 hi;obtain ⟨h1,h2⟩:=zio hz;refine ⟨j / 2,Z[j / 2],hz,?_⟩;rcases Nat.mod_two_eq_zero_or_one j with e | e
 ·left;have ej:j=j / 2*2:=by omega
  rw [←ej,h] at h1;injection h1 with h1;exact ⟨ej,h1⟩
 ·right;have ej:j=j / 2*2+1:=by omega
  rw [←ej,h] at h2;injection h2 with h2;exact ⟨ej,h2⟩
theorem zup {w:World} {ad:Addr} {c:Nat} {L:List Rx} (h:Rw w (some ad) c L) (hc:0<c):∀j u,(cer L)[j]?=some u→w.cell? (ad.add j)=some u:=by
 intro j u hj;obtain ⟨i,z,hz,hu⟩:=zxo hj;rcases h.2.2.2 with ⟨ha,_⟩ | ⟨ad',ha,hcell⟩
 ·cases ha
 ·injection ha with ha;subst ha;obtain ⟨h1,h2⟩:=hcell i z hz;rcases hu with ⟨rfl,rfl⟩ | ⟨rfl,rfl⟩
  ·exact h1
  ·rw [qfb];exact h2
theorem zta (L:List Rx):∀u∈cer L,u.oneCell'=true:=by
 intro u hu;simp only [cer,List.mem_flatMap] at hu;obtain ⟨z,-,hz⟩:=hu;simp at hz;rcases hz with rfl | rfl<;>rfl
theorem zzo:cer []=[]:=rfl
theorem Rw.of_own {w:World} {A:Option Addr} {c base e n:Nat} {Z:List Rx} (h:w.ownsRow base e 2 (.slice A n c) n (cer Z)) (hk:∀z∈Z,Rd w z.A z.c z.K):Rw w A c Z∧n=Z.length:=by
 have hn:n=Z.length:=by have:=h.1;rw [zce] at this;omega
 refine ⟨⟨hk,?_⟩,hn⟩;have hcell:=fun g=>h.cells (g:=g);rcases h.2 with ⟨hv,h0⟩ | ⟨g,cap,cur,hv,_,_,hcap,hm,_⟩
 ·injection hv with e1 e2 e3;exact ⟨by omega,by omega,.inl ⟨e1,e3⟩⟩
 ·injection hv with e1 e2 e3;subst e1 e3;refine ⟨by omega,hm,.inr ⟨_,rfl,fun i z hz=>?_⟩⟩;obtain ⟨h1,h2⟩:=zio hz;refine ⟨hcell g rfl _ _ h1,?_⟩;rw [←qfb];exact hcell g rfl _ _ h2
theorem qbb (w:World) (A:Option Addr) (m c:Nat):(binOp .eql 85 (.slice A m c) (.slice none 0 0)).run Tryz.prog w=.ok (.bool A.isNone) w:=by
 simp [binOp,run_equal_slice_nil w 85 169 A m c Tryz.underlying85]
theorem zt9 (ad:Addr) (c m:Nat) (L:List Rx) (w:World) (hr:Rw w (some ad) c L) (hc:0<c) (hm:L.length=m) (hl:m≤1000000):Calls Tryz.prog 96 #[.slice (some ad) m c] w fun e w'=>∃A' c',e=.returned (.slice A' m c')∧Rw w' A' c' L∧Below w.heap.size w w':=by
 have hinfo:=Tryz.infoT10;rw [Option.map_eq_some_iff] at hinfo;obtain ⟨i,hi,hz⟩:=hinfo;simp only [Prod.mk.injEq] at hz;obtain ⟨hz0,hz1,hz2⟩:=hz
 have HO:=zhy (show (w.alloc (.cells #[] 169)).ownsRow w.heap.size 169 2 (.slice (some ⟨w.heap.size,0,none⟩) 0 0) 0 (cer []) from
  World.ownsRow_lit (base:=w.heap.size) (e:=169) (size:=2) w #[] 0 (Nat.le_refl _) (by unfold maxLen;simp) (by simp))
 have HR:=zhy (hr.keep (qh (a:=.cells #[] 169)));have HRW:=zhy hr;have HCE:=zhy (zup HR.o hc);clear hr;have q:=fun w=>qbb w (some ad) m c;have hlen:(cer L).length=m*2:=by rw [zce,hm]
 have HL:=zhy hlen;clear hlen;go_enter Tryz.func96,Tryz.ntmps96;go_wp2_with (at_builtin;refine wpList_append_own_at _ rfl (.tmp 5) (.tmp 6) 85 rfl w.heap.size 169 i _ 2 32 Tryz.underlying85 hi hz0 hz1 hz2 rfl (by decide) _ 0 (cer []) rfl HO.o ad m c (cer L) rfl HL.o HCE.o (zta L) (by unfold maxLen;omega) (by omega) (by simp) ?_);intro v' w1 ho hg _ _;obtain ⟨A',c',rfl⟩:=qv ho;have HO1:=zhy ho;have HB:Hid (Below w.heap.size w w1):=zhy (qh.grown hg (by simp) fun g hg'=>(HO.o.lt g hg').1);clear ho hg;go_wp2_with fail;go_ret;refine ⟨A',c',by simp,(Rw.of_own (n:=m) (Z:=L) (by have h:=HO1.o;simpa [zzo] using h) fun z hz=>(HRW.o.1 z hz).keep HB.o).1,HB.o⟩
theorem qea {w:World} {y:Ma} {d:Md} (h:Hq w y d) (hg:qG d=false):∀u∈y.Z,u.m.a.length≤1000:=by
 intro u hu;have h1:ze u∈d.s:=by rw [←h.2.2.2.1];exact List.mem_map.2 ⟨u,hu,rfl⟩
 simp only [qG,Bool.or_eq_false_iff,decide_eq_false_iff_not,List.any_eq_false] at hg;have h2:=hg.2.2.2 _ h1;simp only [qgE,gB,Bool.or_eq_true,decide_eq_true_eq,not_or] at h2;have h3:(ze u).1.a.length=u.m.a.length:=rfl;omega
theorem Wr.rwt {w:World} {t g m:Nat} {Z:List Rx} (h:Wr w t g Z) (hl:Z.length=200) (hm:m≤200):Rw w (some ⟨g,0,none⟩) 200 (Z.take m):=by
 have h1:=h.rw hl (by omega);refine ⟨fun z hz=>h1.1 z (List.mem_of_mem_take hz),by rw [List.length_take];omega,h1.2.2.1,?_⟩;rcases h1.2.2.2 with ⟨h2,-⟩ | ⟨ad,ha,hc⟩
 ·cases h2
 ·refine .inr ⟨ad,ha,fun i z hz=>hc i z ?_⟩;rw [List.getElem?_take] at hz;split at hz
  ·exact hz
  ·cases hz
def qct (w w':World) (T:List Rz×Int) (e:Ending):Prop:=∃A c Z,e=.returned (.tuple #[.slice A Z.length c,.int .i64 T.2])∧Z.map rz=T.1∧Rw w' A c Z∧Below w.heap.size w w'
theorem qct.err {w w':World} {T:List Rz×Int} {e:Int} (hT:T=([],e)) (hb:Below w.heap.size w w'):qct w w' T (.returned (.tuple #[.slice none 0 0,.int .i64 e])):=by
 subst hT;exact ⟨none,0,[],rfl,rfl,⟨fun z hz=>(by cases hz),Nat.le_refl _,Nat.zero_le _,.inl ⟨rfl,rfl⟩⟩,hb⟩
theorem zo8 (y:Ma) (d:Md) (k:Int) (w:World) (hq:Hq w y d) (hg:qG d=false):Calls Tryz.prog 50 #[dv y d,.int .i64 k] w fun e w'=>qct w w' (ql d k) e:=by
 have S0:=zhy ((((Sx.start w).add (fQm y d) hq).mkD y d));have HAL:=zhy (qea hq hg);have HG:=zhy hg;have hzero:=(zero_of_info Tryz.infoW10).1;obtain ⟨zz,hzz⟩:∃zz,(cer (List.replicate 200 zeq)).toArray=zz:=⟨_,rfl⟩;have HZS:Hid (zz.size=400):=zhy (by rw [←hzz];exact zi List.length_replicate);rw [hzz] at hzero;obtain ⟨T,hT⟩:∃T,ql d k=T:=⟨_,rfl⟩;have HT:=zhy hT;rw [hT];obtain ⟨B,hB⟩:∃B,w.heap.size=B:=⟨_,rfl⟩;have HBB:=zhy hB;have hsz1:(w.alloc (zn y d)).heap.size=B+1:=by rw [qn,hB]
 rw [hB] at S0;clear hq hg hT hzz;go_enter Tryz.func50,Tryz.ntmps50;go_upto_region 1 with (fail);have S1:=S0;change Code.wp _ _ _ _ (w.alloc (zn y d));generalize w.alloc (zn y d)=w1 at S1 hsz1 ⊢;clear S0;obtain ⟨-,⟨d0,d1,d2,d3,d4⟩,-⟩:=S1.o;have HF:=zhy (qas y d k w1 S1.o.2.2.1 HG.o);rw [HT.o] at HF;go_wp2_with fail;refine HF.o.mono ?_;rintro r w2 ⟨cs,E,rfl,hb,hcase⟩;have HB2:=zhy ((S1.o.call hb).1);have S2:=zhy (S1.o.call hb);clear HF hb d0 d1 d2 d3 d4 hsz1;rcases hcase with ⟨h0,rfl,hTE⟩ | ⟨rfl,x,m,L,rfl,hq2,hx,hri,hlk,b1,b2,he,hth,hTT⟩
 ·have hne:(E != 0)=true:=by simpa using h0
  have HE:=zhy (qct.err hTE (S2.o.call (qh (a:=.cells zbt 166))).1);clear hTE h0;go_wp2_with fail;go_ret2;exact HE.o
 ·have S3:=zhy ((((S2.o.add (fT x.D x.e L) hri).add (fH x m) hx).mkS y d x m));have HTT:=zhy hTT;have HEE:=zhy he;have HTH:=zhy hth;have HLK:=zhy hlk;have hk2:x.k≤200:=by rw [←hlk];exact (qw (za he).1).2.1
  obtain ⟨D,hD⟩:∃D,w2.heap.size=D:=⟨_,rfl⟩;rw [hD] at S3;clear hq2 hx hri he hth hTT hlk S2 S1;go_upto_region 4 with (fail);have S3:Hid (Sx w (w2.alloc (zw y d x m)) [fSc D y d x m,fH x m,fT x.D x.e L,fD B y d,fQm y d]):=S3;generalize w2.alloc (zw y d x m)=w3 at S3 ⊢;clear hD;have HR:=zhy (qb7 y d x m L w3 S3.o.2.2.2.2.2.1 S3.o.2.2.1 S3.o.2.2.2.1 HLK.o (by omega) (by omega) HAL.o HEE.o HTH.o);obtain ⟨e,he⟩:∃e,(qk d m L L.length).2=e:=⟨_,rfl⟩;have HE:=zhy he;obtain ⟨-,⟨-,s0,s1,s2,s3,s4,s5,s6,s7,s8,s9,s10,s11⟩,-⟩:=S3.o;go_wp2_with fail;refine HR.o.mono ?_;rintro r w4 ⟨Z,rfl,hl,hrd,hrz,hb⟩;rw [he] at hrz ⊢;have S4:=zhy (S3.o.call hb);have HZ:=zhy hrd;have HL:=zhy hl;have HRZ:=zhy hrz;clear HR S3 hb hrd hl hrz s0 s1 s2 s3 s4 s5 s6 s7 s8 s9 s10 s11 he;have HO:=zhy (heap_alloc_last w4 (.cells zz 170));have HS1:Hid ((Tryz.prog.info? 170).map (·.size)=some (cer Z).toArray.size):=zhy (by rw [zi HL.o];exact (zero_of_info Tryz.infoW10).2);have HS2:Hid (zz.size=(cer Z).toArray.size):=zhy (by rw [zi HL.o,HZS.o]);go_upto_region 5 with (refine wpList_store_row rfl 170 (.tmp 8) (.tmp 21) rfl w4.heap.size (cer Z).toArray rfl rfl 170 zz HO.o HS1.o HS2.o (zet _) ?_);rw [World.setRow_alloc_new];obtain ⟨g,hg⟩:∃g,w4.heap.size=g:=⟨_,rfl⟩;have HW:Hid (Wr (w4.alloc (.cells (cer Z).toArray 170)) 170 g Z):=zhy ⟨by rw [←hg];exact heap_alloc_last _ _,fun z hz=>(HZ.o z hz).keep qh⟩;have S5:=zhy (S4.o.mk1 (.cells (cer Z).toArray 170));rw [hg];generalize w4.alloc (.cells (cer Z).toArray 170)=w5 at HW S5 ⊢;clear HO hg S4 HZ hzero;by_cases h0:e=0
  ·subst h0;have HR0:Hid ((Z.map rz).take L.length=(qk d m L L.length).1):=zhy (HRZ.o rfl);have HT0:Hid (T=((qk d m L L.length).1,0)):=zhy (by rw [HTT.o,HE.o,if_pos rfl]);have HLZ:Hid ((Z.take x.k).length=x.k):=zhy (by rw [List.length_take,HL.o];omega);have HCL:=zhy (zt9 ⟨g,0,none⟩ 200 x.k (Z.take x.k) w5 (HW.o.rwt HL.o hk2) (by omega) (by rw [List.length_take,HL.o];omega) (by omega));obtain ⟨-,⟨-,s0,s1,s2,s3,s4,s5,s6,s7,s8,s9,s10,s11⟩,-⟩:=S5.o;have hk200:(x.k:Int)≤200:=by omega
   go_wp2_with fail;refine HCL.o.mono ?_;rintro r w6 ⟨A',c',rfl,hrw,hb⟩;have HB6:=zhy (S5.o.call hb).1;have HRW:=zhy hrw;clear hb hrw HCL s0 s1 s2 s3 s4 s5 s6 s7 s8 s9 s10 s11;go_wp2_with fail;go_ret2;exact ⟨A',c',Z.take x.k,by rw [HT0.o,HLZ.o];rfl,by rw [HT0.o,←HR0.o,HLK.o,List.map_take],HRW.o,HB6.o⟩
  ·have hne:(e != 0)=true:=by simpa using h0
   have HBE:=zhy (qct.err (w:=w) (w':=w5) (T:=T) (e:=e) (by rw [HTT.o,HE.o,if_neg h0]) S5.o.1);go_wp2_with fail;go_ret2;exact HBE.o
theorem zxs (F:Fct):zxx F:=by
 intro y d k w _ hq hg;have S0:=zhy ((((Sx.start w).add (fQm y d) hq).mkD y d));have HG:=zhy hg;obtain ⟨T,hT⟩:∃T,ql d k=T:=⟨_,rfl⟩;have HT:=zhy hT;rw [hT];obtain ⟨B,hB⟩:∃B,w.heap.size=B:=⟨_,rfl⟩;have hsz1:(w.alloc (zn y d)).heap.size=B+1:=by rw [qn,hB]
 rw [hB] at S0;clear hq hg hT;go_enter Tryz.func24,Tryz.ntmps24;go_upto_region 1 with (fail);have S1:=S0;change Code.wp _ _ _ _ (w.alloc (zn y d));generalize w.alloc (zn y d)=w1 at S1 hsz1 ⊢;clear S0;obtain ⟨-,⟨d0,d1,d2,d3,d4⟩,-⟩:=S1.o;have HF:=zhy (zo8 y d k w1 S1.o.2.2.1 HG.o);rw [HT.o] at HF;go_wp2_with fail;refine HF.o.mono ?_;rintro r w2 ⟨A,c,Z,rfl,-,-,hb⟩;have HB2:=zhy ((S1.o.call hb).1);clear HF hb d0 d1 d2 d3 d4 hsz1;go_wp2_with fail;go_ret;exact ⟨rfl,HB2.o⟩
theorem zvl (F:Fct):zs9 F:=by
 intro A c n Z w _ hr hn hn3 hbz;have HR:=zhy hr;have HN:=zhy hn;have HBZ:=zhy hbz;clear hr hn hbz;go_enter Tryz.func167,Tryz.ntmps167;go_wp2_with fail;go_loopw [3,8] (fun nv iv wq=>∃i v:Nat,i≤n∧v≤1000000∧iv=.int .i64 i∧nv=.int .i64 v∧Hid (Below w.heap.size w wq)∧Hid (v=zc8 ((Z.take i).map rz))) (fun _ iv _=>n-(intOf iv).toNat)
 case atStart=>exact ⟨0,0,by omega,by omega,rfl,rfl,zhy (Below.refl _ _),zhy (by simp [zc8])⟩
 case round =>
  obtain ⟨i,v,hi,hv9,rfl,rfl,HB,HV⟩:=hrel;rename World=>wq;by_cases h1:i<n
  ·obtain ⟨⟨r,C,b,K⟩,hz⟩:∃z,Z[i]?=some z:=⟨_,zg7 (by rw [HN.o];exact h1)⟩;obtain ⟨ad,hA,⟨y0,y1⟩,hK⟩:=(HR.o.keep HB.o).at_ hz;have hKl:=HBZ.o _ (List.mem_of_getElem? hz);have HS:=zhy (zjs hz);subst hA;dsimp only at y0 y1 hKl;clear hz hK;obtain ⟨kn,hkn⟩:∃kn,K.length=kn:=⟨_,rfl⟩;rw [hkn] at y1 hKl;have HKN:=zhy hkn;clear hkn
   have HV2:Hid (max v kn=zc8 ((Z.take (i+1)).map rz)):=zhy (by
    rw [HS.o,←HV.o,←HKN.o])
   have HB2:Hid (Below w.heap.size w (wq.alloc (.cells #[.bool r,.slice C kn b] 169))):=zhy (qc HB.o qh);go_wp2_with fail;exact ⟨⟨i+1,max v kn,by omega,by omega,by congr 1,by congr 1;omega,HB2,HV2⟩,by simp [intOf];omega⟩
  ·obtain rfl:i=n:=by omega
   have HE:Hid (v=zc8 (Z.map rz)):=zhy (by rw [HV.o,List.take_of_length_le (by rw [HN.o];exact Nat.le_refl _)]);go_wp2_with fail;go_ret;exact ⟨by rw [HE.o];rfl,HB.o⟩
end Go.Proofs.YtnjgkkoiamiaaaaGreatDoor
