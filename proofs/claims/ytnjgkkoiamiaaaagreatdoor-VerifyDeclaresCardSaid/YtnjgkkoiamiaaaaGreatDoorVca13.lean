import Derived.Test.YtnjgkkoiamiaaaaGreatDoorVca1
import Derived.Test.YtnjgkkoiamiaaaaGreatDoorVca12
import Derived.Test.YtnjgkkoiamiaaaaGreatDoorVca9
import Derived.Test.YtnjgkkoiamiaaaaGreatDoorVca6
import Derived.Test.YtnjgkkoiamiaaaaGreatDoorVca4
set_option maxRecDepth 100000
set_option maxHeartbeats 16000000
set_option linter.unusedSimpArgs false
set_option linter.unusedVariables false
namespace Go.Proofs.YtnjgkkoiamiaaaaGreatDoor
open Go.RowKit
def Sc10 (w:World) (B:Nat) (y:Ma) (d:Md) (x:Mc) (m:Mh):Prop:=B<w.heap.size∧w.cell? ⟨B,0,none⟩=some (.slice y.G d.g.length y.gc)∧w.cell? ⟨B,1,none⟩=some (.slice y.P d.p.length y.pc)∧w.cell? ⟨B,2,none⟩=some (.slice y.A d.s.length y.c)∧w.cell? ⟨B,3,none⟩=some (.int .i64 d.i) ∧
 w.cell? ⟨B,4,none⟩=some (.slice x.A m.a.length x.c)∧w.cell? ⟨B,5,none⟩=some (.slice x.B m.l.length x.d)∧w.cell? ⟨B,6,none⟩=some (.int .u8 m.r)∧w.cell? ⟨B,7,none⟩=some (.bool m.q)∧w.cell? ⟨B,8,none⟩=some (.int .i64 m.f)∧w.cell? ⟨B,9,none⟩=some (.int .i64 m.s)∧w.cell? ⟨B,10,none⟩=some (.int .i64 m.h)∧w.cell? ⟨B,11,none⟩=some (.slice x.D x.k x.e)
def Ic10 (w:World) (B:Nat) (o:Int) (b:Nat) (z:Int):Prop:=B<w.heap.size∧w.cell? ⟨B,0,none⟩=some (.int .u8 o)∧w.cell? ⟨B,1,none⟩=some (.int .i64 b)∧w.cell? ⟨B,2,none⟩=some (.int .i64 z)
section
variable {w w' : World} {B : Nat} {y : Ma} {d : Md} {x : Mc} {m : Mh} {o z : Int} {b : Nat}
theorem Sc10.new (w:World) (y:Ma) (d:Md) (x:Mc) (m:Mh):Sc10 (w.alloc (scel10 y d x m)) w.heap.size y d x m:=by
 refine ⟨by simp,?_,?_,?_,?_,?_,?_,?_,?_,?_,?_,?_,?_⟩<;>simp [go_sem]
theorem Sc10.keep (h:Sc10 w B y d x m) (hb:Below w.heap.size w w'):Sc10 w' B y d x m:=by
 obtain ⟨h0,h1,h2,h3,h4,h5,h6,h7,h8,h9,h10,h11,h12⟩:=h;obtain ⟨hc,hf⟩:=bcell hb;exact ⟨Nat.lt_of_lt_of_le h0 hb.size,(hc _ _ h0).trans h1,(hc _ _ h0).trans h2,(hc _ _ h0).trans h3,(hc _ _ h0).trans h4,(hc _ _ h0).trans h5,(hc _ _ h0).trans h6,(hc _ _ h0).trans h7,(hc _ _ h0).trans h8,(hc _ _ h0).trans h9,(hc _ _ h0).trans h10,(hc _ _ h0).trans h11,(hc _ _ h0).trans h12⟩
theorem Ic10.new (w:World) (o:Int) (b:Nat) (z:Int):Ic10 (w.alloc (ic10 o b z)) w.heap.size o b z:=by
 refine ⟨by simp,?_,?_,?_⟩<;>simp [go_sem]
theorem Ic10.keep (h:Ic10 w B o b z) (hb:Below w.heap.size w w'):Ic10 w' B o b z:=by
 obtain ⟨h0,h1,h2,h3⟩:=h;obtain ⟨hc,hf⟩:=bcell hb;exact ⟨Nat.lt_of_lt_of_le h0 hb.size,(hc _ _ h0).trans h1,(hc _ _ h0).trans h2,(hc _ _ h0).trans h3⟩
end
abbrev fSc (B:Nat) (y:Ma) (d:Md) (x:Mc) (m:Mh):Fct:=⟨fun w=>Sc10 w B y d x m,fun _ _ h hb=>h.keep hb⟩
abbrev fIc (B:Nat) (o:Int) (b:Nat) (z:Int):Fct:=⟨fun w=>Ic10 w B o b z,fun _ _ h hb=>h.keep hb⟩
theorem Sx.mkS {w0 w:World} {L:List Fct} (h:Sx w0 w L) (y:Ma) (d:Md) (x:Mc) (m:Mh):Sx w0 (w.alloc (scel10 y d x m)) (fSc w.heap.size y d x m::L):=(h.mk1 _).add (fSc w.heap.size y d x m) (Sc10.new w y d x m)
theorem Sx.mkI {w0 w:World} {L:List Fct} (h:Sx w0 w L) (o:Int) (b:Nat) (z:Int):Sx w0 (w.alloc (ic10 o b z)) (fIc w.heap.size o b z::L):=(h.mk1 _).add (fIc w.heap.size o b z) (Ic10.new w o b z)
theorem lv10_byt {w:World} {y:Ma} {d:Md} {x:Mc} {m:Mh} (hq:Hq w y d) (hx:Hd w x m) (i:Ins) (hth:i.1=30→i.2.1.toNat<d.s.length) {T:List Int} (hT:∀i:Nat,0≤T[i]?.getD 0∧T[i]?.getD 0<256):Byt (lv10 d m i T):=by
 have h:=dc10_byt hq hx i hth;unfold dc10 at h;intro v hv;unfold lv10 at hv;by_cases c1:i.1=1
 ·rw [if_pos c1] at hv h;rw [List.mem_singleton.1 hv];exact h
 rw [if_neg c1] at hv h;by_cases c2:i.1=2
 ·rw [if_pos c2] at hv;rw [if_pos (.inl c2)] at h;rw [List.mem_singleton.1 hv];exact h
 rw [if_neg c2] at hv;by_cases c4:i.1=4
 ·rw [if_pos c4] at hv;rw [if_neg (by omega),if_pos (.inl c4)] at h;rw [List.mem_singleton.1 hv];exact h
 rw [if_neg c4] at hv;by_cases c7:i.1=7
 ·rw [if_pos c7] at hv;have h0:=hT 0;simp at hv;rw [hv];simpa using h0
 rw [if_neg c7] at hv;by_cases c8:i.1=8
 ·rw [if_pos c8] at hv;have h0:=hT 0;have h1:=hT 1;simp at hv;rcases hv with hv | hv
  ·rw [hv];simpa using h1
  ·rw [hv];simpa using h0
 rw [if_neg c8] at hv;by_cases c30:i.1=30
 ·rw [if_pos c30] at hv;rw [if_neg (by omega),if_neg (by omega),if_pos c30] at h;rw [List.mem_singleton.1 hv];exact h
 rw [if_neg c30] at hv;exact gvL_byt i.1 v hv
theorem rd_lt10 {w:World} {A:Option Addr} {c:Nat} {l:List Int} (h:Rd w A c l) {ad:Addr} (ha:A=some ad) (h0:0<l.length):ad.block<w.heap.size:=by
 obtain ⟨ad',e',hc⟩:=h.at_ h0;rw [ha] at e';injection e' with e';subst e';have:=cell_lt hc;rw [add_block] at this;exact this
theorem after_v (y:Ma) (d:Md) (x:Mc) (m:Mh) (o z:Int) (b:Nat) (A:Option Addr) (c n:Nat) (R:List Int) (w:World) (hq:Hq w y d) (hx:Hd w x m) (b1:m.a.length≤1000) (b2:m.l.length≤1000) (hth:th10 d m (o,(b:Int),z)=true)
  (hal:∀u∈y.Z,u.m.a.length≤1000) (hr:Rd w A c R) (hn:R.length=n) (hnb:n≤300000) :
  Calls Tryz.prog 158 #[sv10 y d x m,.agg #[.int .u8 o,.int .i64 b,.int .i64 z],.slice A n c] w fun e w' =>
   ∃A' c',e=.returned (.tuple #[.slice A' (af10s d m (o,(b:Int),z) R).1.length c',.int .i64 (af10s d m (o,(b:Int),z) R).2])∧Rd w' A' c' (af10s d m (o,(b:Int),z) R).1∧Below w.heap.size w w':=by
 subst hn
 have hdef:af10s d m (o,(b:Int),z) R=if (sk10 d m (o,(b:Int),z) R).2=0 then ((sk10 d m (o,(b:Int),z) R).1++lv10 d m (o,(b:Int),z) (R.drop (sk10 d m (o,(b:Int),z) R).1.length),0) else ([],(sk10 d m (o,(b:Int),z) R).2):=rfl
 have hK:(K10 d m (o,(b:Int),z)).2.foldr (st1 (K10 d m (o,(b:Int),z)).1) (R,0)=sk10 d m (o,(b:Int),z) R:=rfl
 have HK:=zhy hK
 have HLE:=zhy (fun he=>sk10_len (d:=d) (h:=m) (x:=(o,(b:Int),z)) (R:=R) he)
 have HB30:Hid (o=30→b<d.s.length):=zhy fun h=>by subst h;simpa [th10] using hth
 have HTH:=zhy hth
 have HBY:=zhy hr.byte
 have HLVB:=zhy (fun (T:List Int) hT=>lv10_byt hq hx (o,(b:Int),z) (T:=T) (fun h=>by have:=HB30.out h;simpa using this) hT)
 have HLV0:=zhy (fun T=>lv10_len d m (o,(b:Int),z) T)
 have HAP:Hid (∀(u:Me) (ad:Addr),u∈y.Z→u.x.A=some ad→0<u.m.a.length→ad.block≠w.heap.size+1+1):=zhy fun u ad hu he h0=>by
  have:=rd_lt10 (hq.2.2.1.1 u hu).1.1 he h0;omega
 have HAL:=zhy hal
 obtain ⟨⟨T,e⟩,ht⟩:∃t,sk10 d m (o,(b:Int),z) R=t:=⟨_,rfl⟩
 have HKL:Hid (o=7→(K10 d m (o,(b:Int),z)).2.length=1):=zhy fun h=>by simp [K10,h]
 have HKL8:Hid (o=8→(K10 d m (o,(b:Int),z)).2.length=2):=zhy fun h=>by simp [K10,h]
 rw [ht] at hdef
 have HDEF:=zhy hdef
 rw [Hid,ht] at HK
 rw [Hid,ht] at HLE
 have HK:=zhy HK
 have HLE:=zhy HLE
 have S2:=zhy ((((((Sx.start w).add (fR A c R) hr).add (fH x m) hx).add (fQm y d) hq).mkS y d x m).mkI o b z)
 rw [size1] at S2
 obtain ⟨B,hB⟩:∃B,w.heap.size=B:=⟨_,rfl⟩
 have HBB:=zhy hB
 have hsz2:((w.alloc (scel10 y d x m)).alloc (ic10 o b z)).heap.size=B+1+1:=by rw [size1,size1,hB]
 have HSZ:=zhy hsz2
 rw [hB] at S2 HAP
 clear hq hx hr hth hal hdef hK ht
 go_enter Tryz.func158,Tryz.ntmps158
 go_upto_region 1 with (fail)
 generalize (w.alloc (scel10 y d x m)).alloc (ic10 o b z)=w2 at S2 hsz2 HSZ ⊢
 have HS3:=zhy (Sk.new w2 282 S2.out.2.2.2.2.2.1)
 have HB3:Hid (Below w2.heap.size w2 (w2.alloc (.cells #[.slice A R.length c,.int .i64 0] 282))):=zhy new1
 rw [hsz2] at HS3
 go_upto_region 2 with (fail)
 generalize w2.alloc (.cells #[.slice A R.length c,.int .i64 0] 282)=w3 at HS3 HB3 ⊢
 have S3:=zhy (S2.out.call HB3.out)
 have HTK:=zhy (stake_v y d x m o z b (B+1+1) A c (R,0) w3 S3.out.2.2.2.1 S3.out.2.2.2.2.1 b1 b2 HTH.out HS3.out HAP.out HAL.out)
 obtain ⟨-,⟨-,i0,i1,i2⟩,⟨-,s0,s1,s2,s3,s4,s5,s6,s7,s8,s9,s10,s11⟩,-⟩:=S3.out
 go_wp2_with fail
 refine HTK.out.mono ?_
 rintro r4 w4 ⟨rfl,hs4,hp4⟩
 rw [HK.out] at hs4
 have HB4:Hid (Below w2.heap.size w2 w4):=zhy (HB3.out.trans ((hp4.toBelow (Nat.le_of_lt HS3.out.1)).mono (by rw [HSZ.out];exact Nat.le_refl _)))
 have S4:=zhy (S2.out.call HB4.out)
 have HS4:=zhy hs4
 obtain ⟨g0,g1,g2,g3,g4,g5⟩:=hs4
 dsimp only at g1 g2
 clear i0 i1 i2 s0 s1 s2 s3 s4 s5 s6 s7 s8 s9 s10 s11 hp4 HTK HS3 HB3 HB4 S2 S3 g5
 by_cases he:e=0
 case neg =>
  have he':(e != 0)=true:=by simpa using he
  have HAF:Hid (af10s d m (o,(b:Int),z) R=([],e)):=zhy (by rw [HDEF.out,if_neg he])
  have HBW:=zhy S4.out.1
  go_wp2_with fail
  go_quiet (fail)
  go_wp2
  go_ret2
  rw [HAF.out]
  exact ⟨none,0,rfl,Rd.none_ _,below_draws HBW.out _⟩
 subst he
 obtain ⟨hk1,hk2⟩:=HLE.out rfl
 obtain ⟨j,hj⟩:∃j,T.length=j:=⟨_,rfl⟩
 have hjk:j=R.length-(K10 d m (o,(b:Int),z)).2.length:=by rw [←hj,hk1,List.length_take];omega
 have hjR:j≤R.length:=by omega
 have hT:T=R.take j:=by rw [hk1,hjk]
 have HAF:Hid (af10s d m (o,(b:Int),z) R=(R.take j++lv10 d m (o,(b:Int),z) (R.drop j),0)):=zhy (by rw [HDEF.out,if_pos rfl,hj,hT])
 subst hT
 have P78:Hid ((o=7→1≤R.length-j)∧(o=8→2≤R.length-j)):=zhy ⟨fun h=>by have:=HKL.out h;omega,fun h=>by have:=HKL8.out h;omega⟩
 have hRc:=S4.out.2.2.2.2.2.1.le
 have hcap:=S4.out.2.2.2.2.2.1.cap
 have HRS:=zhy (S4.out.2.2.2.2.2.1.sub j R.length hjR (Nat.le_refl _))
 rw [hj] at g1
 have hneg:¬(j:Int)<0:=by omega
 clear hk1 hk2 hjk
 go_upto_region 6 with (fail)
 have HRS2:Hid (Rd w4 (if c=j then A else Option.map (fun x=>x.add j) A) (c-j) (R.drop j)):=zhy (by
  have h:=HRS.out;rwa [List.take_of_length_le (by rw [List.length_drop];exact Nat.le_refl _)] at h)
 clear HRS
 generalize (if c=j then A else Option.map (fun x=>x.add j) A)=A3 at HRS2 ⊢
 generalize c-j=c3 at HRS2 ⊢
 have HL3:Hid ((R.drop j).length=R.length-j):=zhy List.length_drop
 have HLJ:Hid ((R.take j).length=j):=zhy hj
 have HLV:Hid ((lv10 d m (o,(b:Int),z) (R.drop j)).length≤400000):=zhy (by have:=HLV0.out (R.drop j);omega)
 have HBL:Hid (Byt (R.take j++lv10 d m (o,(b:Int),z) (R.drop j))):=zhy (by
  intro v hv;rcases List.mem_append.1 hv with hv | hv
  ·exact S4.out.2.2.2.2.2.1.1 v (List.mem_of_mem_take hv)
  ·refine HLVB.out (R.drop j) (fun i=>?_) v hv;have:=HBY.out (j+i);rwa [←List.getElem?_drop] at this)
 have S6:Hid (Sx w w4 [fQm y d,fC1 ⟨B+1+1,0,none⟩ (.slice A j c),fSc B y d x m,fIc (B+1) o b z,fQm y d,fH x m,fR A3 c3 (R.drop j),fR A c (R.take j)]):=zhy ⟨S4.out.1,S4.out.2.2.2.1,g1,S4.out.2.2.1,S4.out.2.1,S4.out.2.2.2.1,S4.out.2.2.2.2.1,HRS2.out,S4.out.2.2.2.2.2.1.pre j,trivial⟩
 clear HRS2 HS4 S4 g0 g1 g2 g3 g4 HK HLE HDEF hj
 refine wp_region_held_drew (S:=fun w'=>Hid (Sx w w' [fQm y d,fC1 ⟨B+1+1,0,none⟩ (.slice A j c),fSc B y d x m,fIc (B+1) o b z,fQm y d,fH x m,fR A3 c3 (R.drop j),fR A c (R.take j)])) (by kernel_rfl) (Hsx.drew S6) (fun hHeld=>?_)
 refine ztk (i:=0) (v:=?_) rfl (by kernel_rfl) (fun _ _ _ h=>h) (Or.inl ⟨by rfl,?_⟩) (by assumption) ?_
 rotate_left 1
 ·intro w _;go_simp;try with_reducible rfl
 (try simp only [Act.put,zg1,zg2,zg3,zg4,zg5,zg6])
 refine ztk (i:=1) (v:=?_) rfl (by kernel_rfl) (fun _ _ _ h=>h) (Or.inl ⟨by rfl,?_⟩) (by assumption) ?_
 rotate_left 1
 ·intro w hSw;(try dsimp only at hSw);obtain ⟨-,-,q0,⟨-,s0,s1,s2,s3,s4,s5,s6,s7,s8,s9,s10,s11⟩,⟨-,i0,i1,i2⟩,-⟩:=hSw.out;dsimp only at q0;go_simp;try with_reducible rfl
 (try simp only [Act.put,zg1,zg2,zg3,zg4,zg5,zg6])
 refine ztk (i:=2) (v:=?_) rfl (by kernel_rfl) (fun _ _ _ h=>h) (Or.inl ⟨by rfl,?_⟩) (by assumption) ?_
 rotate_left 1
 ·intro w hSw;(try dsimp only at hSw);obtain ⟨-,-,q0,⟨-,s0,s1,s2,s3,s4,s5,s6,s7,s8,s9,s10,s11⟩,⟨-,i0,i1,i2⟩,-⟩:=hSw.out;dsimp only at q0;go_simp;try with_reducible rfl
 (try simp only [Act.put,zg1,zg2,zg3,zg4,zg5,zg6])
 refine ztk (i:=3) (v:=?_) rfl (by kernel_rfl) (fun _ _ _ h=>h) (Or.inl ⟨by rfl,?_⟩) (by assumption) ?_
 rotate_left 1
 ·intro w hSw;(try dsimp only at hSw);obtain ⟨-,-,q0,⟨-,s0,s1,s2,s3,s4,s5,s6,s7,s8,s9,s10,s11⟩,⟨-,i0,i1,i2⟩,-⟩:=hSw.out;dsimp only at q0;go_simp;try with_reducible rfl
 (try simp only [Act.put,zg1,zg2,zg3,zg4,zg5,zg6])
 refine ztk (i:=4) (v:=?_) rfl (by kernel_rfl) (fun _ _ _ h=>h) (Or.inl ⟨by rfl,?_⟩) (by assumption) ?_
 rotate_left 1
 ·intro w _;go_simp;try with_reducible rfl
 (try simp only [Act.put,zg1,zg2,zg3,zg4,zg5,zg6])
 refine wpAnyH_ready (rs:=[5]) (by kernel_rfl) (by simp) ?_
 refine AllReadyH.cons rfl (fun K hK=>?_) AllReadyH.nil
 go_simp
 refine (leaves_v y d x m o z b A3 c3 _ (R.drop j) _ hHeld.out.2.2.2.2.2.1 hHeld.out.2.2.2.2.2.2.1 b1 b2 HTH.out hHeld.out.2.2.2.2.2.2.2.1 HL3.out P78.out.1 P78.out.2).mono ?_
 rintro r1 wb ⟨A4,c4,rfl,hr4,hb⟩
 have HR4:=zhy hr4
 clear hr4
 go_wp2_with fail
 refine hK.out _ _ (Hsx.call hb hHeld) (fun hHeld=>?_)
 clear hK K
 refine wpAnyH_swap (S':=fun w'=>Hid (Sx w w' [fR A4 c4 (lv10 d m (o,(b:Int),z) (R.drop j)),fC1 ⟨B+1+1,0,none⟩ (.slice A j c),fSc B y d x m,fIc (B+1) o b z,fQm y d,fH x m,fR A3 c3 (R.drop j),fR A c (R.take j)])) (fun _ h=>⟨h.out.1,h.out.2.2.2.2.2.1,h.out.2.2⟩) _ _ _ _ ?_
 have hHeld2:Hid (Sx w wb [fR A4 c4 (lv10 d m (o,(b:Int),z) (R.drop j)),fC1 ⟨B+1+1,0,none⟩ (.slice A j c),fSc B y d x m,fIc (B+1) o b z,fQm y d,fH x m,fR A3 c3 (R.drop j),fR A c (R.take j)]):=zhy ⟨hHeld.out.1,HR4.out,hHeld.out.2.2⟩
 clear hHeld HR4
 have hHeld:=hHeld2
 clear hHeld2
 (try simp only [Act.put,zg1,zg2,zg3,zg4,zg5,zg6])
 refine wpAnyH_ready (rs:=[6]) (by kernel_rfl) (by simp) ?_
 refine AllReadyH.cons rfl (fun K hK=>?_) AllReadyH.nil
 go_simp
 refine hK.out _ _ (Hsx.call new1 hHeld) (fun hHeld=>?_)
 clear hK K
 (try simp only [Act.put,zg1,zg2,zg3,zg4,zg5,zg6])
 refine wpAnyH_ready (rs:=[7]) (by kernel_rfl) (by simp) ?_
 refine AllReadyH.cons rfl (fun K hK=>?_) AllReadyH.nil
 go_simp
 refine (concat2_v _ A A4 c c4 j _ (R.take j) (lv10 d m (o,(b:Int),z) (R.drop j)) _ (by simp [go_sem]) (by simp [go_sem]) hHeld.out.2.2.2.2.2.2.2.2.1 hHeld.out.2.1 HLJ.out rfl (by omega) HLV.out).mono ?_
 rintro r1 wb ⟨A5,c5,rfl,ho,hb⟩
 have HO5:=zhy ho
 clear ho
 go_wp2_with fail
 refine hK.out _ _ (Hsx.call hb hHeld) (fun hHeld=>?_)
 clear hK K
 (try simp only [Act.put,zg1,zg2,zg3,zg4,zg5,zg6])
 refine ztk (i:=8) (v:=?_) rfl (by kernel_rfl) (fun _ _ _ h=>h) (Or.inl ⟨by rfl,?_⟩) (by assumption) ?_
 rotate_left 1
 ·intro w _;go_simp;try with_reducible rfl
 (try simp only [Act.put,zg1,zg2,zg3,zg4,zg5,zg6])
 refine ztk (i:=9) (v:=?_) rfl (by kernel_rfl) (fun _ _ _ h=>h) (Or.inl ⟨by rfl,?_⟩) (by assumption) ?_
 rotate_left 1
 ·intro w _;go_simp;try with_reducible rfl
 (try simp only [Act.put,zg1,zg2,zg3,zg4,zg5,zg6])
 refine wpAnyH_done (by kernel_rfl) ?_ _
 go_wp2_with fail
 go_ret2
 exact ⟨A5,c5,by rw [HAF.out,List.length_append,HLJ.out];rfl,by rw [HAF.out];exact own_rd HO5.out HBL.out,hHeld.out.1⟩
def KTCheck (F:Fct):Prop:=∀(y:Ma) (d:Md) (k:Int) (w:World),F.p w→Hq w y d→qG d=false→Calls Tryz.prog 24 #[dv y d,.int .i64 k] w fun e w'=>e=.returned (.int .i64 (rw10s d k).2)∧Below w.heap.size w w'
def KTHeight (F:Fct):Prop:=∀(A:Option Addr) (c n:Nat) (Z:List Rx) (w:World),F.p w→Rw w A c Z→Z.length=n→n≤300→(∀z∈Z,z.K.length≤1000000)→Calls Tryz.prog 167 #[.slice A n c] w fun e w'=>e=.returned (.int .i64 (hg10 (Z.map rz)))∧Below w.heap.size w w'
end Go.Proofs.YtnjgkkoiamiaaaaGreatDoor
