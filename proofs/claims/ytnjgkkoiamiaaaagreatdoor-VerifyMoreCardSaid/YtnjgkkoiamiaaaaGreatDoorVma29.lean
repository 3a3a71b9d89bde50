import Derived.Test.YtnjgkkoiamiaaaaGreatDoorVma1
import Derived.Test.YtnjgkkoiamiaaaaGreatDoorVma28
set_option maxRecDepth 100000
set_option maxHeartbeats 16000000
set_option linter.unusedSimpArgs false
set_option linter.unusedVariables false
namespace Go.Proofs.YtnjgkkoiamiaaaaGreatDoor
open Go.RowKit
abbrev c2114:List Ce:=[(2,1,0)]
theorem bare14 {w w2 w3:World} {P T:Nat} {L:List Fct} (S:Sx w w2 L) (hb:Below w2.heap.size w2 w3) (hs:Sm14 w3 P 2) (hP:w2.heap.size≤P) (hsz:w3.heap.size=T) (hT:P+2<T) :
  Sx w ((w3.alloc (dcel (ys14 P 2) (ds14 2))).setCell ⟨P+2,7,none⟩ (.slice (some ⟨P+1,3,none⟩) 1 1)) (fD T (yb14 P) db14::fQm (yb14 P) db14::L):=by
 have hd:Db (w3.alloc (dcel (ys14 P 2) (ds14 2))) T (ys14 P 2) (ds14 2):=by rw [←hsz];exact Db.new _ _ _
 have h1:Below w2.heap.size w2 ((w3.alloc (dcel (ys14 P 2) (ds14 2))).setCell ⟨P+2,7,none⟩ (.slice (some ⟨P+1,3,none⟩) 1 1)):=(below_on hb new1).setCell (show w2.heap.size≤P+2 by omega) _
 have h2:=hd.other (p:=⟨P+2,7,none⟩) (by show P+2≠T;omega) (.slice (some ⟨P+1,3,none⟩) 1 1)
 have h3:=(hs.keep (w':=w3.alloc (dcel (ys14 P 2) (ds14 2))) new1).bare
 exact ((S.call h1).add (fQm (yb14 P) db14) h3).add (fD T (yb14 P) db14) h2
theorem moves14 {w w2 w3:World} {P T:Nat} {L:List Fct} (S:Sx w w2 L) (hb:Below w2.heap.size w2 w3) (hs:Sm14 w3 P 2) (hP:w2.heap.size≤P) (hsz:w3.heap.size=T) (hT:P+2<T) :
  Sx w (((w3.alloc (dcel (ys14 P 2) { ds14 2 with i:=0 })).alloc (.cells #[.int .u8 3] 5)).setCell ⟨P+2,0,none⟩ (.slice (some ⟨T+1,0,none⟩) 1 1)) (fD T (ym14 P (T+1)) dm14::fQm (ym14 P (T+1)) dm14::L):=by
 have hd:Db (w3.alloc (dcel (ys14 P 2) { ds14 2 with i:=0 })) T (ys14 P 2) { ds14 2 with i:=0 }:=by rw [←hsz];exact Db.new _ _ _
 have hsz2:(w3.alloc (dcel (ys14 P 2) { ds14 2 with i:=0 })).heap.size=T+1:=by rw [size1,hsz]
 have hr:=rd_lit (w3.alloc (dcel (ys14 P 2) { ds14 2 with i:=0 })) [3] (byt_of rfl) (by decide)
 rw [hsz2] at hr
 have h1:Below w2.heap.size w2 (((w3.alloc (dcel (ys14 P 2) { ds14 2 with i:=0 })).alloc (.cells #[.int .u8 3] 5)).setCell ⟨P+2,0,none⟩ (.slice (some ⟨T+1,0,none⟩) 1 1)):=(below_on (below_on hb new1) new1).setCell (show w2.heap.size≤P+2 by omega) _
 have h2:=(hd.keep (w':=(w3.alloc (dcel (ys14 P 2) { ds14 2 with i:=0 })).alloc (.cells #[.int .u8 3] 5)) new1).other (p:=⟨P+2,0,none⟩) (by show P+2≠T;omega) (.slice (some ⟨T+1,0,none⟩) 1 1)
 have h3:=((hs.keep (w':=w3.alloc (dcel (ys14 P 2) { ds14 2 with i:=0 })) new1).keep (w':=(w3.alloc (dcel (ys14 P 2) { ds14 2 with i:=0 })).alloc (.cells #[.int .u8 3] 5)) new1).moves hr (by omega)
 exact ((S.call h1).add (fQm (ym14 P (T+1)) dm14) h3).add (fD T (ym14 P (T+1)) dm14) h2
theorem Sm14.cells {w:World} {B:Nat} {f:Int} (h:Sm14 w B f):w.cell? ⟨B+2,0,none⟩=some (.slice none 0 0)∧w.cell? ⟨B+2,7,none⟩=some (.slice (some ⟨B+1,0,none⟩) 2 2)∧w.frozen? ⟨B+2,0,none⟩=false∧w.frozen? ⟨B+2,7,none⟩=false∧B+2<w.heap.size:=by
 refine ⟨?_,?_,frozen_of_row w _ 0 _ _ h.2.2,frozen_of_row w _ 7 _ _ h.2.2,(zg9.1 h.2.2).1⟩<;>rw [cell_of_row w _ _ _ _ (0,0) h.2.2]<;>rfl
theorem awake14_v (w:World) (hw:fWM.p w):Calls Tryz.prog 20 #[] w fun e w'=>e=.returned (.bool true)∧Below w.heap.size w w':=by
 have S0:=zhy ((Sx.start w).add fWM hw);clear hw;go_enter Tryz.func20,Tryz.ntmps20;go_wp2_with fail;refine (small14_v 2 w (by omega)).mono ?_;rintro e w1 ⟨rfl,hs,-,hb⟩;have S1:=zhy ((S0.out.call hb).add (fQm (ys14 (w.heap.size+1) 2) (ds14 2)) (hs.hq (by omega)));clear hs hb S0
 have HA:Hid (Calls Tryz.prog 12 #[dv (ys14 (w.heap.size+1) 2) (ds14 2)] w1 fun r w'=>Ac14 w1 w' c2114 0 r):=by
  have h:=accept14_v (ys14 (w.heap.size+1) 2) (ds14 2) w1 S1.out.2.2.1 S1.out.2.1 ex14_b.1;rw [ex14_a.1] at h;exact h
 go_wp2_with fail;refine HA.out.mono ?_;rintro r w2 ⟨A,c,rfl,ho,hb⟩
 have S2:Hid (Sx w w2 [fRg ce3 3 A c c2114,fWM]):=by
  have h:=(S1.out.call hb);exact zhy (Sx.add (w0:=w) (L:=[fWM]) ⟨h.1,h.2.2⟩ (fRg ce3 3 A c c2114) (Rg.of_own ce3_len (by decide) ho).1)
 clear ho hb S1 HA;rw [show c2114.length=1 from rfl];obtain ⟨b2,hb2⟩:∃b,w2.heap.size=b:=⟨_,rfl⟩;have HB2:=zhy hb2;clear hb2;go_wp2_with fail;refine (small14_v 2 w2 (by omega)).mono ?_;rintro e w3 ⟨rfl,hs,hsz,hb⟩;rw [HB2.out] at hs hsz ⊢;obtain ⟨P,hP⟩:∃P,b2+1=P:=⟨_,rfl⟩;obtain ⟨T,hT⟩:∃T,b2+4=T:=⟨_,rfl⟩;rw [hP] at hs ⊢;rw [hT] at hsz;have HX:=zhy (bare14 S2.out hb hs (by rw [HB2.out];omega) hsz (by omega));have hpt:P+2<T:=by omega
 obtain ⟨m0,m7,m2,m3,m4⟩:=(hs.keep (w':=w3.alloc (dcel (ys14 P 2) (ds14 2))) new1).cells;have HD:Hid (Db (w3.alloc (dcel (ys14 P 2) (ds14 2))) T (ys14 P 2) (ds14 2)):=by rw [←hsz];exact zhy (Db.new _ _ _)
 clear hs hb hP hT S2 HB2;go_upto_region 3 with (fail);change Code.wp _ _ _ _ (w3.alloc (dcel (ys14 P 2) (ds14 2)));try rw [hsz]
 clear hsz;generalize w3.alloc (dcel (ys14 P 2) (ds14 2))=W3 at HX HD m0 m7 m2 m3 m4 ⊢;obtain ⟨t0,t1,t2,t3,t4⟩:=HD.out;simp only [ys14,ds14,List.length_cons,List.length_nil] at t1 t2 t3 t4;go_region;have HX2:=zhy (HX.out.drewN 1);change Exit.then _ _ _ _ ((W3.setCell ⟨P+2,7,none⟩ (.slice (some ⟨P+1,3,none⟩) 1 1)).drewN 1);generalize (W3.setCell ⟨P+2,7,none⟩ (.slice (some ⟨P+1,3,none⟩) 1 1)).drewN 1=W4 at HX2 ⊢;clear HX HD m0 m7 m2 m3 m4 t0 t1 t2 t3 t4;obtain ⟨b4,hb4⟩:∃b,W4.heap.size=b:=⟨_,rfl⟩;have HB4:=zhy hb4;clear hb4;go_wp2_with fail;refine (small14_v 2 W4 (by omega)).mono ?_;rintro e w5 ⟨rfl,hs,hsz,hb⟩;rw [HB4.out] at hs hsz ⊢;obtain ⟨P5,hP⟩:∃P,b4+1=P:=⟨_,rfl⟩;obtain ⟨T5,hT⟩:∃T,b4+4=T:=⟨_,rfl⟩;rw [hP] at hs ⊢;rw [hT] at hsz;have HY:=zhy (moves14 HX2.out hb hs (by rw [HB4.out];omega) hsz (by omega));have hpt5:P5+2<T5:=by omega
 obtain ⟨m0,m7,m2,m3,m4⟩:=hs.cells;clear hs hb hP hT HX2 HB4
 have HE:((w5.alloc (dcel (ys14 P5 2) { ds14 2 with i:=0 })).alloc (.cells #[.int .u8 3] 5)).setCell ⟨P5+2,0,none⟩ (.slice (some ⟨T5+1,0,none⟩) 1 1) =
   ((w5.setCell ⟨P5+2,0,none⟩ (.slice (some ⟨T5+1,0,none⟩) 1 1)).alloc (.cells #[.slice (some ⟨P5,0,none⟩) 1 1,.slice none 0 0,.slice (some ⟨P5+2,0,none⟩) 1 1,.int .i64 0] 25)).alloc (.cells #[.int .u8 3] 5):=by
  simp only [dcel,ys14,ds14,List.length_cons,List.length_nil]
  go_simp
 rw [HE] at HY;clear HE;simp only [ys14,ds14,List.length_cons,List.length_nil];go_upto_region 7 with (fail);generalize ((w5.setCell ⟨P5+2,0,none⟩ (.slice (some ⟨T5+1,0,none⟩) 1 1)).alloc (.cells #[.slice (some ⟨P5,0,none⟩) 1 1,.slice none 0 0,.slice (some ⟨P5+2,0,none⟩) 1 1,.int .i64 0] 25)).alloc (.cells #[.int .u8 3] 5)=W6 at HY ⊢;clear m0 m7 m2 m3 m4 hsz;obtain ⟨X,hX⟩:∃X,lo14 [0,0,0,255]=X:=⟨_,rfl⟩;obtain ⟨d7,X7⟩:=X;have HC:=ex14_c;rw [hX] at HC;dsimp only at HC;obtain ⟨hi7,hs7,hX7⟩:=HC;subst hX7
 have HLD:Hid (Calls Tryz.prog 18 #[.slice (some ⟨W6.heap.size,0,none⟩) 4 4] (W6.alloc (.cells #[.int .u8 0,.int .u8 0,.int .u8 0,.int .u8 255] 5)) fun r w'=>Ld14 (W6.alloc (.cells #[.int .u8 0,.int .u8 0,.int .u8 0,.int .u8 255] 5)) w' (d7,[],0) r):=by
  have h:=load14_v (some ⟨W6.heap.size,0,none⟩) 4 4 [0,0,0,255] _ ((HY.out.call new1).2.2.2.2.2.2.1) (rd_lit W6 [0,0,0,255] (byt_of rfl) (by decide)) rfl (by decide);rw [hX] at h;exact h
 have HI7:=zhy hi7;have HS7:=zhy hs7;clear hX hi7 hs7;go_wp2_with fail;refine HLD.out.mono ?_;rintro r w8 ⟨y7,A7,c7,rfl,hq7,-,hb7⟩;have HZ:=zhy (((HY.out.call new1).call hb7).mkD y7 d7);obtain ⟨T7,hT7⟩:∃T,w8.heap.size=T:=⟨_,rfl⟩;rw [hT7] at HZ;clear HLD hq7 hb7 HY;go_upto_region 8 with (fail);change Code.wp _ _ _ _ (w8.alloc (dcel y7 d7));try rw [hT7]
 clear hT7;generalize w8.alloc (dcel y7 d7)=W8 at HZ ⊢;have EQ:=eq_cert 9998 2 1 0 2 1 0 true rfl;have HSX:=zhy (fun wq (h:Sx w wq [fD T7 y7 d7,fD T5 (ym14 P5 (T5+1)) dm14,fQm (ym14 P5 (T5+1)) dm14,fD T (yb14 P) db14,fQm (yb14 P) db14,fRg ce3 3 A c c2114,fWM])=>h)
 have HM1:Hid (∀wq y,fWM.p wq→Hq wq y (ds14 1)→Calls Tryz.prog 13 #[dv y (ds14 1)] wq fun r w'=>r=.returned (.int .i64 120)∧Below wq.heap.size wq w'):=zhy fun wq y h1 h2=>by
  have h:=vmay14_v y (ds14 1) wq h1 h2 ex14_b.2.1;rw [ex14_a.2.1] at h;exact h
 have HM2:Hid (∀wq,fWM.p wq→Hq wq (yb14 P) db14→Calls Tryz.prog 13 #[dv (yb14 P) db14] wq fun r w'=>r=.returned (.int .i64 101)∧Below wq.heap.size wq w'):=zhy fun wq h1 h2=>by
  have h:=vmay14_v (yb14 P) db14 wq h1 h2 ex14_b.2.2.1;rw [ex14_a.2.2.1] at h;exact h
 have HM3:Hid (∀wq,fWM.p wq→Hq wq (yb14 P) db14→Calls Tryz.prog 15 #[dv (yb14 P) db14] wq fun r w'=>r=.returned (.int .i64 0)∧Below wq.heap.size wq w'):=zhy fun wq h1 h2=>by
  have h:=blame14_v (yb14 P) db14 wq h1 h2 ex14_b.2.2.1;rw [ex14_a.2.2.2.1] at h;exact h
 have HM4:Hid (∀wq,fWM.p wq→Hq wq (ym14 P5 (T5+1)) dm14→Calls Tryz.prog 13 #[dv (ym14 P5 (T5+1)) dm14] wq fun r w'=>r=.returned (.int .i64 70)∧Below wq.heap.size wq w'):=zhy fun wq h1 h2=>by
  have h:=vmay14_v (ym14 P5 (T5+1)) dm14 wq h1 h2 ex14_b.2.2.2;rw [ex14_a.2.2.2.2] at h;exact h
 obtain ⟨gA,hgA,hgl,hgc⟩:=HZ.out.2.2.2.2.2.2.1.at_ ce3_len (i:=0) (x:=(2,1,0)) rfl;subst hgA;have g0:W8.cell? ⟨gA,0,none⟩=some (.int .i64 2):=hgc 0 (by decide);have g1:W8.cell? ⟨gA,1,none⟩=some (.int .i64 1):=hgc 1 (by decide);have g2:W8.cell? ⟨gA,2,none⟩=some (.int .i64 0):=hgc 2 (by decide);clear hgc;go_wp2_with fail;refine (small14_v 1 W8 (by omega)).mono ?_;rintro e w9 ⟨rfl,hs,-,hb⟩;have S9:=zhy (HZ.out.call hb);have HQ1:=zhy (hs.hq (by omega));clear hs hb HZ g0 g1 g2 hgl;go_wp2_with fail;refine (HM1.out _ _ S9.out.2.2.2.2.2.2.2.1 HQ1.out).mono ?_;rintro e w10 ⟨rfl,hb⟩;have S10:=zhy (S9.out.call hb);clear hb S9 HQ1;obtain ⟨-,-,-,-,⟨t0,t1,t2,t3,t4⟩,-⟩:=S10.out;go_wp2_with fail;refine (HM2.out _ S10.out.2.2.2.2.2.2.2.1 S10.out.2.2.2.2.2.1).mono ?_;rintro e w11 ⟨rfl,hb⟩;have S11:=zhy (S10.out.call hb);clear hb S10 t0 t1 t2 t3 t4;obtain ⟨-,-,-,-,⟨t0,t1,t2,t3,t4⟩,-⟩:=S11.out;go_wp2_with fail;refine (HM3.out _ S11.out.2.2.2.2.2.2.2.1 S11.out.2.2.2.2.2.1).mono ?_;rintro e w12 ⟨rfl,hb⟩;have S12:=zhy (S11.out.call hb);clear hb S11 t0 t1 t2 t3 t4;obtain ⟨-,-,⟨t0,t1,t2,t3,t4⟩,-⟩:=S12.out;go_wp2_with fail;refine (HM4.out _ S12.out.2.2.2.2.2.2.2.1 S12.out.2.2.2.1).mono ?_;rintro e w13 ⟨rfl,hb⟩;have S13:=zhy (S12.out.call hb);clear hb S12 t0 t1 t2 t3 t4;obtain ⟨-,⟨t0,t1,t2,t3,t4⟩,-⟩:=S13.out;rw [HS7.out] at t3;rw [HI7.out] at t4;dsimp only [List.length_nil] at t3;go_wp2_with fail;go_ret;exact ⟨rfl,S13.out.1⟩
end Go.Proofs.YtnjgkkoiamiaaaaGreatDoor
