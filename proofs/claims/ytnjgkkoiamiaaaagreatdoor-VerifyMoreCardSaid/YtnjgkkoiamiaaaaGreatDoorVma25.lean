import Derived.Test.YtnjgkkoiamiaaaaGreatDoorVma1
import Derived.Test.YtnjgkkoiamiaaaaGreatDoorVma4
import Derived.Recover
import Derived.OwnWalk
import Derived.Laws.OwnMore
import Derived.Laws.Pointers
set_option maxRecDepth 100000
set_option maxHeartbeats 16000000
set_option linter.unusedSimpArgs false
set_option linter.unusedVariables false
namespace Go.Proofs.YtnjgkkoiamiaaaaGreatDoor
open Go.RowKit
theorem own_same {w w':World} {base e size n:Nat} {v:Value} {xs:List Value} (h:w.ownsRow base e size v n xs) (hb:Below w.heap.size w w'):w'.ownsRow base e size v n xs:=own_below h hb (Nat.le_refl _)
def mcB (n:Int):Bool:=decide (1≤n)&&decide (n≤200)
theorem mayc_v (n:Int) (v:Bool) (w:World) (h:mcB n=v):Calls Tryz.prog 170 #[.int .i64 n] w fun e w'=>e=.returned (.bool v)∧w=w':=by
 subst h;go_enter Tryz.func170,Tryz.ntmps170;by_cases h1:1≤n
 ·by_cases h2:n≤200
  ·go_wp2_with fail;go_ret;exact ⟨by simp [mcB,h1,h2],rfl⟩
  ·go_wp2_with fail;go_ret;exact ⟨by simp [mcB,h1,h2],rfl⟩
 ·go_wp2_with fail;go_ret;exact ⟨by simp [mcB];omega,rfl⟩
theorem hasop_v (n:Int) (v:Bool) (w:World) (h:wdB n=v):Calls Tryz.prog 112 #[.int .u8 n] w fun e w'=>e=.returned (.bool v)∧w=w':=by
 subst h;have hB:=zhy (bounds_any n w);rw [wdB];generalize opLo n=p at *;generalize opHi n=q at *;go_enter Tryz.func112,Tryz.ntmps112;go_wp2_with fail;refine hB.out.mono ?_;rintro e w1 ⟨rfl,rfl⟩;go_wp2_with fail;go_ret;exact ⟨rfl,rfl⟩
theorem codM_len {L:List Ins} (h:mcB L.length=false):codM L=false:=by
 unfold mcB at h;unfold codM;cases h1:decide (1≤L.length) with
 | false=>rfl
 | true =>
  have e1:(1:Int)≤L.length:=by have:=of_decide_eq_true h1;omega
  rw [decide_eq_true e1,Bool.true_and] at h;have e2:¬L.length≤200:=by have:=of_decide_eq_false h;omega
  rw [decide_eq_false e2];rfl
theorem codM_all5 {L:List Ins} (h:mcB L.length=true):codM L=L.all inM:=by
 unfold mcB at h;rw [Bool.and_eq_true,decide_eq_true_eq,decide_eq_true_eq] at h;unfold codM;rw [decide_eq_true (show 1≤L.length by omega),decide_eq_true (show L.length≤200 by omega)];rfl
theorem cmay_any (A:Option Addr) (c m:Nat) (L:List Ins) (w:World) (hr:Ri w A c L) (hm:L.length=m):Calls Tryz.prog 110 #[.slice A m c] w fun e w'=>e=.returned (.bool (codM L))∧Below w.heap.size w w':=by
 subst hm;have hlen:=hr.len;have HR:=zhy hr;clear hr;cases hv0:mcB L.length with
 | false =>
  have HN:=zhy (codM_len hv0);go_enter Tryz.func110,Tryz.ntmps110;go_wp2_with fail;refine (mayc_v _ _ _ hv0).mono ?_;rintro e w1 ⟨rfl,rfl⟩;go_wp2_with fail;go_ret;exact ⟨by rw [HN.out];rfl,Below.refl _ _⟩
 | true =>
  have HC:=zhy (codM_all5 hv0);go_enter Tryz.func110,Tryz.ntmps110;go_wp2_with fail;refine (mayc_v _ _ _ hv0).mono ?_;rintro e w1 ⟨rfl,rfl⟩;clear hv0;go_wp2_with fail;go_loopw [11] (fun i wr=>∃j:Nat,j≤L.length∧i=.int .i64 j∧Hid ((L.take j).all inM=true)∧Hid (Below w.heap.size w wr)) (fun i _=>L.length-(intOf i).toNat)
  case atStart=>exact ⟨0,by omega,rfl,rfl,zhy (Below.refl _ _)⟩
  case round =>
   obtain ⟨j,hj,rfl,HA,HB⟩:=hrel;by_cases h1:j<L.length
   ·obtain ⟨ad,rfl,hc0,hc1,hc2⟩:=(HR.out.keep HB.out).at_ h1;go_wp2_with fail;refine (omay_v L[j].1 L[j].2.1 L[j].2.2 _ _ rfl).mono ?_;rintro e w1 ⟨rfl,hb1⟩;have HB1:=zhy (below_on (below_on HB.out new1) hb1);clear hb1 hc0 hc1 hc2 HB;cases hv:opM L[j].1 L[j].2.1 L[j].2.2 with
    | true =>
     have HN:Hid ((L.take (j+1)).all inM=true):=by
      rw [Hid,List.take_add_one,zg7 h1];simp only [Option.toList_some,List.all_append,HA.out,List.all_cons,List.all_nil,Bool.and_true,Bool.true_and];exact hv
     clear HA;go_wp2_with fail;go_roundw
     case rel=>exact ⟨j+1,by omega,by go_num,HN,HB1⟩
     case measure=>simp [intOf];omega
    | false =>
     have HN:Hid (codM L=false):=by
      have:L.all inM=false:=List.all_eq_false.2 ⟨L[j],List.getElem_mem h1,by simp [inM,hv]⟩;rw [Hid,HC.out,this]
     go_wp2_with fail;go_ret;exact ⟨by rw [HN.out];rfl,HB1.out⟩
   ·obtain rfl:j=L.length:=by omega
    have HN:Hid (codM L=true):=by
     have h2:=HA.out;rw [List.take_length] at h2;rw [Hid,HC.out,h2]
    clear HA;go_wp2_with fail;go_ret;exact ⟨by rw [HN.out];rfl,HB.out⟩
theorem grown_of {w w':World} (hb:Below w.heap.size w w') (row:Option Nat):w.grownBy w' row:=⟨hb.os,hb.tape,hb.output,hb.size,fun i hi _=>hb.block i hi⟩
theorem In.grown {w w':World} {B:Nat} {k a b:Int} (h:In w B k a b) {row:Option Nat} (hg:w.grownBy w' row) (hne:some B≠row):In w' B k a b:=by
 obtain ⟨h1,h2,h3,h4,h5,h6,h7⟩:=h;have hB:=hg.block B h1 hne;have hc:∀i,w'.cell? ⟨B,i,none⟩=w.cell? ⟨B,i,none⟩:=fun i=>World.cell?_of_block (w:=w) hB;have hf:∀i,w'.frozen? ⟨B,i,none⟩=w.frozen? ⟨B,i,none⟩:=fun i=>World.frozen?_of_block (w:=w) hB;exact ⟨Nat.lt_of_lt_of_le h1 hg.size,(hc _).trans h2,(hc _).trans h3,(hc _).trans h4,(hf _).trans h5,(hf _).trans h6,(hf _).trans h7⟩
theorem putL_1 {n:Int} (h0:0≤n) (h:n<256):putL 1 n=[n]:=by
 have:=(put_yes (k:=1) (n:=n) (by omega) (by omega) h0 (by simpa [p256] using h)).2;rw [show ((1:Nat):Int)=1 from rfl] at this;rw [this];simp [digs];omega
theorem putL_2 {n:Int} (h0:0≤n) (h:n≤1024):putL 2 n=[n % 256,n / 256]:=by
 have:=(put_yes (k:=2) (n:=n) (by omega) (by omega) h0 (by simp [p256];omega)).2;rw [show ((2:Nat):Int)=2 from rfl] at this;rw [this];simp [digs];omega
def Fresh (B:Nat) (v v':Value):Prop:=v'.ownBlock=v.ownBlock∨∃g,v'.ownBlock=some g∧B≤g
theorem cput_t (base:Nat) (W k:Int) (D:List Int) (hD:putL W k=D) (A:Option Addr) (n c:Nat) (X:List Int) (w:World) (hown:w.ownsRow base 5 1 (.slice A n c) n (cel X)) (hbase:base≤w.heap.size) (hs:n+D.length≤1000000) :
  Calls Tryz.prog 111 #[.slice A n c,.int .i64 W,.int .i64 k] w fun e w'=>∃A' c',e=.returned (.slice A' (n+D.length) c')∧w'.ownsRow base 5 1 (.slice A' (n+D.length) c') (n+D.length) (cel (X++D)) ∧
   w.grownBy w' (Value.slice A n c).ownBlock∧Below base w w'∧Fresh w.heap.size (.slice A n c) (.slice A' (n+D.length) c'):=by
 have hinfo:=Tryz.info5
 rw [Option.map_eq_some_iff] at hinfo
 obtain ⟨i0,hi,hz⟩:=hinfo
 simp only [Prod.mk.injEq] at hz
 obtain ⟨hz0,hz1,hz2⟩:=hz
 have P:=fun w=>zhy (put_any W k w)
 have hBy:=byt_putL W k
 rw [hD] at *
 have HBY:=zhy hBy
 clear hBy
 generalize putE W k=E at *
 go_enter Tryz.func111,Tryz.ntmps111
 go_wp2_with fail
 refine (P _).out.mono ?_
 rintro e w1 ⟨A1,c1,rfl,ho1,hb1⟩
 have HOW:=zhy hown
 have HR:=zhy (own_rd ho1 HBY.out)
 have HB:=zhy hb1
 have hsz:=hb1.size
 clear ho1 hb1 hown P
 go_wp2_with (at_builtin;refine wpList_append_rd _ rfl _ _ 40 rfl base 5 i0 Tryz.underlying40 hi hz0 hz1 hz2 _ n X rfl (own_same HOW.out HB.out) _ _ c1 D rfl HR.out rfl (by omega) (by omega) ?_)
 intro A2 c2 w2 ho2 hg2 hb2 hor
 have H1:=zhy ho2
 have H2:=zhy hg2
 have H3:=zhy hb2
 have H4:=zhy hor
 clear ho2 hg2 hb2 hor
 go_wp2_with fail
 go_ret
 refine ⟨A2,c2,rfl,H1.out,(grown_of HB.out _).trans H2.out,(HB.out.mono hbase).trans H3.out,?_⟩
 rcases H4.out with h | h
 ·exact .inl h
 ·exact .inr ⟨_,h,hsz⟩
theorem cbytes_t (A:Option Addr) (c m:Nat) (L:List Ins) (w:World) (hr:Ri w A c L) (hm:L.length=m) (hc:codM L=true):Calls Tryz.prog 67 #[.slice A m c] w fun e w'=>∃A' c',e=.returned (.tuple #[.slice A' (codB L).length c',.int .i64 0])∧w'.ownsRow w.heap.size 5 1 (.slice A' (codB L).length c') (codB L).length (cel (codB L))∧Below w.heap.size w w':=by
 subst hm;have hc':=hc;simp only [codM,Bool.and_eq_true,decide_eq_true_eq] at hc';obtain ⟨⟨hl1,hl2⟩,hall⟩:=hc';have HALL:=zhy (List.all_eq_true.1 hall);have HC:=zhy hc;have HW:=zhy hr;clear hc hall;have hp1:putL 1 (L.length:Int)=[(L.length:Int)]:=putL_1 (by omega) (by omega);go_enter Tryz.func67,Tryz.ntmps67;go_wp2_with fail;refine (cmay_any A c _ L _ hr rfl).mono ?_;rintro e w1 ⟨rfl,hb1⟩;rw [HC.out];have HB1:=zhy hb1;clear hb1 hr;go_wp2_with fail;refine (cput_t w.heap.size 1 L.length [(L.length:Int)] hp1 none 0 0 [] _ (World.ownsRow_nil _ _ _ _) HB1.out.size (by simp)).mono ?_;rintro e w2 ⟨A2,c2,rfl,ho2,-,hb2,-⟩;have HO2:=zhy ho2;have HB2:=zhy (HB1.out.trans hb2);clear ho2 hb2 hp1;go_wp2_with fail
 go_loopw [4,15] (fun o i wr=>∃(j:Nat) (A':Option Addr) (c':Nat) (X:List Int) (N:Nat),j≤L.length∧i=.int .i64 j∧o=.slice A' N c'∧N≤1+3*j∧Hid (X=(L.length:Int)::(L.take j).flatMap opr∧X.length=N∧wr.ownsRow w.heap.size 5 1 (.slice A' N c') N (cel X))∧Hid (Below w.heap.size w wr))
  (fun _ i _=>L.length-(intOf i).toNat)
 case atStart=>exact ⟨0,_,_,[(L.length:Int)],1,by omega,rfl,rfl,by omega,zhy ⟨by simp,rfl,HO2.out⟩,HB2⟩
 case round =>
  obtain ⟨j,A',c',X,N,hj,rfl,rfl,hN,HX,HB3⟩:=hrel;clear HO2 HB2 HB1;by_cases h1:j<L.length
  ·obtain ⟨ad,rfl,x0,x1,x2⟩:=(HW.out.keep HB3.out).at_ h1;have hok:=HW.out.1 _ (List.getElem_mem h1);obtain ⟨g1,g2,g3⟩:=opM_bd (HALL.out _ (List.getElem_mem h1));have hb0:=hok.1;have hq1:=zhy (putL_1 hb0.1 hb0.2);have hq2:=zhy (putL_2 g1 g2);have HI:=zhy (In.new wr L[j].1 L[j].2.1 L[j].2.2);have HO:=zhy (own_same HX.out.2.2 (new1 (a:=.cells #[.int .u8 L[j].1,.int .i64 L[j].2.1,.int .i64 L[j].2.2] 57)));have HB4:=zhy (HB3.out.alloc HB3.out.size (.cells #[.int .u8 L[j].1,.int .i64 L[j].2.1,.int .i64 L[j].2.2] 57));have hne:Hid (some wr.heap.size≠(Value.slice A' N c').ownBlock):=zhy fun e=>by have:=HX.out.2.2.lt _ e.symm;omega
   have HX1:=zhy HX.out.1;have HX2:=zhy HX.out.2.1;have HN1:Hid ((X++[L[j].1]).length=N+1):=by rw [Hid,List.length_append,HX2.out];rfl
   clear HX hok;have hH0:wr.heap.size<(wr.alloc (.cells #[.int .u8 L[j].1,.int .i64 L[j].2.1,.int .i64 L[j].2.2] 57)).heap.size:=by simp
   go_wp2_with fail;refine (cput_t w.heap.size 1 L[j].1 [L[j].1] hq1.out A' N c' X _ HO.out HB4.out.size (by simp;omega)).mono ?_;rintro e w4 ⟨A4,c4,rfl,ho4,hg4,hb4,hf4⟩;have HO4:=zhy ho4;have HI4:=zhy (HI.out.grown hg4 hne.out);have HB5:=zhy (HB4.out.trans hb4);clear ho4 hg4 hb4 hf4 x0 x1 x2 HI HB4 HO hne;obtain ⟨z,z0,z1,z2,-⟩:=HI4.out;go_wp2_with fail;refine (hasop_v _ _ _ rfl).mono ?_;rintro e w5 ⟨rfl,rfl⟩;cases hv:wdB L[j].1 with
   | true =>
    have HN:Hid (X++[L[j].1]++[L[j].2.1 % 256,L[j].2.1 / 256]=(L.length:Int)::(L.take (j+1)).flatMap opr):=by
     rw [Hid,HX1.out,List.take_add_one,zg7 h1,Option.toList_some,List.flatMap_append,List.flatMap_cons,List.flatMap_nil,List.append_nil,opr,hv,if_pos rfl,List.append_assoc,List.cons_append];rfl
    go_wp2_with fail;refine (cput_t w.heap.size 2 L[j].2.1 [L[j].2.1 % 256,L[j].2.1 / 256] hq2.out A4 (N+1) c4 (X++[L[j].1]) _ HO4.out HB5.out.size (by simp;omega)).mono ?_;rintro e w6 ⟨A6,c6,rfl,ho6,-,hb6,-⟩;have HO6:=zhy ho6;have HB6:=zhy (HB5.out.trans hb6);clear ho6 hb6 z0 z1 z2;go_wp2_with fail;go_roundw
    case rel=>exact ⟨j+1,A6,c6,_,N+1+2,by omega,by go_num,rfl,by omega,zhy ⟨HN.out,by rw [List.length_append,HN1.out];rfl,HO6.out⟩,HB6⟩
    case measure=>simp [intOf];omega
   | false =>
    have HN:Hid (X++[L[j].1]=(L.length:Int)::(L.take (j+1)).flatMap opr):=by
     rw [Hid,HX1.out,List.take_add_one,zg7 h1,Option.toList_some,List.flatMap_append,List.flatMap_cons,List.flatMap_nil,List.append_nil,opr,hv,if_neg (by decide),List.cons_append]
    go_wp2_with fail;go_roundw
    case rel=>exact ⟨j+1,A4,c4,_,N+1,by omega,by go_num,rfl,by omega,zhy ⟨HN.out,HN1.out,HO4.out⟩,HB5⟩
    case measure=>simp [intOf];omega
  ·obtain rfl:j=L.length:=by omega
   have hx:=HX.out;rw [List.take_length,←codB] at hx;obtain ⟨rfl,rfl,ho⟩:=hx;have HO:=zhy ho;clear ho HX;go_wp2_with fail;go_ret2;exact ⟨A',c',rfl,HO.out,HB3.out⟩
theorem cbytes_f (A:Option Addr) (c m:Nat) (L:List Ins) (w:World) (hr:Ri w A c L) (hm:L.length=m) (hc:codM L=false):Calls Tryz.prog 67 #[.slice A m c] w fun e w'=>e=.returned (.tuple #[.slice none 0 0,.int .i64 40])∧Below w.heap.size w w':=by
 subst hm;have HC:=zhy hc;clear hc;go_enter Tryz.func67,Tryz.ntmps67;go_wp2_with fail;refine (cmay_any A c _ L _ hr rfl).mono ?_;rintro e w1 ⟨rfl,hb1⟩;rw [HC.out];have HB:=zhy hb1;clear hb1;go_wp2_with fail;go_ret2;exact ⟨rfl,HB.out⟩
theorem kbytes (F:Fct):KBytes F:=fun A c m L w _ hr hm _=>by
 cases hc:codM L with
 | true =>
  refine (cbytes_t A c m L w hr hm hc).mono ?_;rintro e w1 ⟨A',c',rfl,ho,hb⟩;refine ⟨A',c',?_,?_,hb⟩
  ·rw [byL,cdE,hc];rfl
  ·rw [byL,hc];exact ho
 | false =>
  refine (cbytes_f A c m L w hr hm hc).mono ?_;rintro e w1 ⟨rfl,hb⟩;refine ⟨none,0,?_,?_,hb⟩
  ·rw [byL,cdE,hc];rfl
  ·rw [byL,hc];exact World.ownsRow_nil _ _ _ _
def Rr (w:World) (B:Nat) (A:Option Addr) (c n:Nat) (p:Int):Prop:=B<w.heap.size∧w.cell? ⟨B,0,none⟩=some (.slice A n c)∧w.cell? ⟨B,1,none⟩=some (.int .i64 p)∧w.frozen? ⟨B,0,none⟩=false∧w.frozen? ⟨B,1,none⟩=false
section
variable {w w' : World} {B : Nat} {A : Option Addr} {c n : Nat} {p : Int}
theorem Rr.keep (h:Rr w B A c n p) (hb:Below w.heap.size w w'):Rr w' B A c n p:=by
 obtain ⟨h1,h2,h3,h4,h5⟩:=h;obtain ⟨hc,hf⟩:=bcell hb;exact ⟨Nat.lt_of_lt_of_le h1 hb.size,(hc _ _ h1).trans h2,(hc _ _ h1).trans h3,(hf _ _ h1).trans h4,(hf _ _ h1).trans h5⟩
theorem Rr.set1 (h:Rr w B A c n p) (q:Int):Rr (w.setCell ⟨B,1,none⟩ (.int .i64 q)) B A c n q:=by
 obtain ⟨h1,h2,h3,h4,h5⟩:=h;refine ⟨by simpa using h1,?_,?_,?_,?_⟩<;>simp [go_sem,h2,h3,h4,h5]
theorem Rr.other (h:Rr w B A c n p) {q:Addr} (hp:q.block≠B) (v:Value):Rr (w.setCell q v) B A c n p:=by
 obtain ⟨h1,h2,h3,h4,h5⟩:=h;have ne:∀i,q≠(⟨B,i,none⟩:Addr):=fun i e=>hp (by rw [e]);refine ⟨by simpa using h1,?_,?_,?_,?_⟩
 ·rw [World.cell?_setCell_other _ _ _ _ (ne 0)];exact h2
 ·rw [World.cell?_setCell_other _ _ _ _ (ne 1)];exact h3
 ·simpa using h4
 ·simpa using h5
theorem Rr.new (w:World) (A:Option Addr) (c n:Nat) (p:Int) (t:Nat):Rr (w.alloc (.cells #[.slice A n c,.int .i64 p] t)) w.heap.size A c n p:=by
 refine ⟨by simp,?_,?_,?_,?_⟩<;>simp [go_sem]
end
abbrev fQ (B:Nat) (A:Option Addr) (c n:Nat) (p:Int):Fct:=⟨fun w=>Rr w B A c n p,fun _ _ h hb=>h.keep hb⟩
theorem grown_set {w w1:World} {row:Option Nat} (h:w.grownBy w1 row) {p:Addr} (hp:w.heap.size≤p.block∨row=some p.block) (v:Value):w.grownBy (w1.setCell p v) row:=by
 have hb:=(Below.refl p.block w1).setCell (Nat.le_refl _) v;refine ⟨hb.os.trans h.os,hb.tape.trans h.tape,hb.output.trans h.output,Nat.le_trans h.size hb.size,fun i hi hne=>(Below.heap_setCell w1 p v i ?_).trans (h.block i hi hne)⟩;rintro rfl;rcases hp with hp | hp
 ·omega
 ·exact hne hp.symm
theorem grown_on {w w1 w2:World} {row:Option Nat} (h:w.grownBy w1 row) (hb:Below w1.heap.size w1 w2):w.grownBy w2 row:=h.trans (grown_of hb row)
theorem num_ok (B:Nat) (A:Option Addr) (c n:Nat) (l:List Int) (p W v q:Int) (w:World) (hr:Rd w A c l) (hn:l.length=n) (h:Rr w B A c n p) (hE:getE l p W=0) (hv:getV l p W=v) (hq:getN l p W=q):Calls Tryz.prog 244 #[.pointer (some ⟨B,0,none⟩),.int .i64 W] w fun e w'=>e=.returned (.int .i64 v)∧w.grownBy w' (some B)∧Rr w' B A c n q:=by
 have HG:=fun w hr=>zhy (get_m A n c l p W w hr hn);rw [hE,hv,hq] at HG;have S0:=zhy (((Sx.start w).add (fR A c l) hr).add (fQ B A c n p) h);clear hr h hE hv hq hn;go_enter Tryz.func244,Tryz.ntmps244;go_upto_region 1 with (fail);refine wp_region_held_drew (S:=fun w'=>Hid (Sx w w' [fQ B A c n p,fR A c l])) (by kernel_rfl) (Hsx.drew S0) (fun hHeld=>?_);refine zq 0 (h:=?_);refine zq 1 (h:=?_);refine zq 2 (h:=?_);refine zq 3 (hy:=fun w hSw=>by (try dsimp only at hSw);obtain ⟨-,⟨-,s0,s1,-⟩,-⟩:=hSw.out;go_simp;try with_reducible rfl) (h:=?_);refine zq 4 (h:=?_);refine zq 5 (h:=?_);refine zq 6 (h:=?_);refine zq 7 (hy:=fun w hSw=>by (try dsimp only at hSw);obtain ⟨-,⟨-,s0,s1,-⟩,-⟩:=hSw.out;go_simp;try with_reducible rfl) (h:=?_);refine zq 8 (h:=?_);refine wpAnyH_ready (rs:=[9]) (by kernel_rfl) (by simp) ?_;refine AllReadyH.cons rfl (fun K hK=>?_) AllReadyH.nil;go_simp;refine (HG _ hHeld.out.2.2.1).out.mono ?_;rintro e w1 ⟨rfl,hb⟩;go_wp2_with fail;refine hK.out _ _ (Hsx.call hb hHeld) (fun hHeld=>?_);clear hK K;(try simp only [Act.put,zg1,zg2,zg3,zg4,zg5,zg6]);refine zq 10 (h:=?_);refine zq 11 (h:=?_);refine zq 12 (h:=?_);refine zq 13 (h:=?_);refine zq 14 (h:=?_);refine zq 15 (h:=?_);refine zq 16 (h:=?_);refine wpAnyH_done (by kernel_rfl) ?_ _;obtain ⟨-,hQ,-⟩:=hHeld.out;have HQ:=zhy hQ;have HB:=zhy hHeld.out.1;obtain ⟨z,s0,s1,z0,z1⟩:=hQ;clear hHeld;go_wp2_with fail;go_ret;refine ⟨rfl,grown_set (grown_of HB.out _) (.inr rfl) _,HQ.out.set1 _⟩
theorem num_bad (B:Nat) (A:Option Addr) (c n:Nat) (l:List Int) (p W E:Int) (w:World) (hr:Rd w A c l) (hn:l.length=n) (h:Rr w B A c n p) (hE:getE l p W=E) (h0:E≠0):Calls Tryz.prog 244 #[.pointer (some ⟨B,0,none⟩),.int .i64 W] w fun e w'=>e=.panicked [{ v:=.iface 31 (.int .i64 E),recovered:=false }]∧Below w.heap.size w w':=by
 have HG:=fun w hr=>zhy (get_m A n c l p W w hr hn);rw [hE] at HG;generalize getV l p W=v at *;generalize getN l p W=q at *;have S0:=zhy (((Sx.start w).add (fR A c l) hr).add (fQ B A c n p) h);clear hr h hE hn;go_enter Tryz.func244,Tryz.ntmps244;go_upto_region 1 with (fail);refine wp_region_held_drew (S:=fun w'=>Hid (Sx w w' [fQ B A c n p,fR A c l])) (by kernel_rfl) (Hsx.drew S0) (fun hHeld=>?_);refine zq 0 (h:=?_);refine zq 1 (h:=?_);refine zq 2 (h:=?_);refine zq 3 (hy:=fun w hSw=>by (try dsimp only at hSw);obtain ⟨-,⟨-,s0,s1,-⟩,-⟩:=hSw.out;go_simp;try with_reducible rfl) (h:=?_);refine zq 4 (h:=?_);refine zq 5 (h:=?_);refine zq 6 (h:=?_);refine zq 7 (hy:=fun w hSw=>by (try dsimp only at hSw);obtain ⟨-,⟨-,s0,s1,-⟩,-⟩:=hSw.out;go_simp;try with_reducible rfl) (h:=?_);refine zq 8 (h:=?_);refine wpAnyH_ready (rs:=[9]) (by kernel_rfl) (by simp) ?_;refine AllReadyH.cons rfl (fun K hK=>?_) AllReadyH.nil;go_simp;refine (HG _ hHeld.out.2.2.1).out.mono ?_;rintro e w1 ⟨rfl,hb⟩;go_wp2_with fail;refine hK.out _ _ (Hsx.call hb hHeld) (fun hHeld=>?_);clear hK K;(try simp only [Act.put,zg1,zg2,zg3,zg4,zg5,zg6]);refine zq 10 (h:=?_);refine zq 11 (h:=?_);refine zq 12 (h:=?_);refine zq 13 (h:=?_);refine zq 14 (h:=?_);refine zq 15 (h:=?_);refine zq 16 (h:=?_);refine wpAnyH_done (by kernel_rfl) ?_ _;have HB:=zhy hHeld.out.1;clear hHeld;have hcc:Tryz.prog.concrete 31=true:=by kernel_rfl
 have hne:(E==0)=false:=by simpa using h0
 go_wp2_with fail;exact ⟨rfl,rfl,HB.out⟩
def Ix (w w':World) (B:Nat) (A:Option Addr) (c n:Nat) (q:Nat) (I Z:Nat) (o a:Int):Prop:=
 w.grownBy w' (some B)∧Rr w' B A c n q∧In w' I o a 0∧w.heap.size≤Z∧(Z≠I∧Z≠B)∧∃k x y,In w' Z k x y
theorem Ix.call {w w1 w2:World} {B:Nat} {A:Option Addr} {c n q I Z:Nat} {o a:Int} (h:Ix w w1 B A c n q I Z o a) (hb:Below w1.heap.size w1 w2):Ix w w2 B A c n q I Z o a:=by
 obtain ⟨h1,h2,h3,h4,h5,k,x,y,h6⟩:=h;exact ⟨grown_on h1 hb,h2.keep hb,h3.keep hb,h4,h5,k,x,y,h6.keep hb⟩
theorem Ix.drew1 {w w1:World} {B:Nat} {A:Option Addr} {c n q I Z:Nat} {o a:Int} (h:Ix w w1 B A c n q I Z o a):Hid (Ix w w1.drew B A c n q I Z o a):=zhy (h.call (below_draws (Below.refl _ _) 1))
theorem In.set0 {w:World} {B:Nat} {k a b:Int} (h:In w B k a b) (k':Int):In (w.setCell ⟨B,0,none⟩ (.int .u8 k')) B k' a b:=by
 obtain ⟨h1,h2,h3,h4,h5,h6,h7⟩:=h;refine ⟨by simpa using h1,?_,?_,?_,?_,?_,?_⟩<;>simp [go_sem,h2,h3,h4,h5,h6,h7]
theorem Ix.put {w w1:World} {B:Nat} {A:Option Addr} {c n q I Z:Nat} {o a:Int} (h:Ix w w1 B A c n q I Z o a) {k' a' b':Int}:Ix w (((w1.setCell ⟨Z,0,none⟩ (.int .u8 k')).setCell ⟨Z,1,none⟩ (.int .i64 a')).setCell ⟨Z,2,none⟩ (.int .i64 b')) B A c n q I Z o a:=by
 obtain ⟨h1,h2,h3,h4,⟨h5,h5'⟩,k,x,y,h6⟩:=h;exact ⟨grown_set (grown_set (grown_set h1 (.inl h4) _) (.inl h4) _) (.inl h4) _,((h2.other h5' _).other h5' _).other h5' _,((h3.other h5 _).other h5 _).other h5 _,h4,⟨h5,h5'⟩,_,_,_,((h6.set0 k').set1 a').set2 b'⟩
theorem cget1 {l:List Int} (hb:Byt l) {p:Nat} (h:p<l.length):getE l p 1=0∧getV l p 1=l[p]?.getD 0∧getN l p 1=(p:Int)+1:=by
 have e:(l.drop (p:Int).toNat).take (1:Int).toNat=[l[p]?.getD 0]:=by
  rw [Int.toNat_natCast,show (1:Int).toNat=1 from rfl,List.drop_eq_getElem_cons h,zg7 h];rfl
 have hx:=hb _ (List.getElem_mem h);have:=get_ok (l:=l) (p:=p) (W:=1) (by omega) (by omega) (by omega) (by omega) (by rw [e,zg7 h];simp [num];omega);rw [e] at this;refine ⟨this.1,this.2.1.trans ?_,this.2.2⟩;simp [num]
theorem get2 {l:List Int} (hb:Byt l) {p:Nat} (h:p+2≤l.length):getE l p 2=0∧getV l p 2=l[p]?.getD 0+256*l[p+1]?.getD 0∧getN l p 2=(p:Int)+2:=by
 have e:(l.drop (p:Int).toNat).take (2:Int).toNat=[l[p]?.getD 0,l[p+1]?.getD 0]:=by
  rw [Int.toNat_natCast,show (2:Int).toNat=2 from rfl,List.drop_eq_getElem_cons (show p<l.length by omega),List.drop_eq_getElem_cons (show p+1<l.length by omega),zg7 (show p<l.length by omega),zg7 (show p+1<l.length by omega)];rfl
 have hx:=hb _ (List.getElem_mem (show p<l.length by omega));have hy:=hb _ (List.getElem_mem (show p+1<l.length by omega));have:=get_ok (l:=l) (p:=p) (W:=2) (by omega) (by omega) (by omega) (by omega) (by rw [e,zg7 (show p<l.length by omega),zg7 (show p+1<l.length by omega)];simp [num];omega);rw [e] at this;refine ⟨this.1,this.2.1.trans ?_,this.2.2⟩;simp [num]
def IR (w w' : World) (B : Nat) (A : Option Addr) (c n : Nat) (l : List Int) (p : Nat) (e : Ending) : Prop := w.grownBy w' (some B) ∧
  ((e = .panicked [{ v := .iface 31 (.int .i64 10), recovered := false }] ∧ (rd1 l p).1 = 10) ∨
   ∃ (x : Ins) (v : Bool) (q : Nat), e = .returned (.tuple #[.agg #[.int .u8 x.1, .int .i64 x.2.1, .int .i64 x.2.2], .bool v]) ∧ Rr w' B A c n q ∧ InOk x ∧ q ≤ l.length ∧ (if v = true then rd1 l p = (0, x, q) else (rd1 l p).1 = 40))
theorem opM_no {o a:Int} (h:¬o<33):opM o a 0=false:=by
 cases hv:opM o a 0 with
 | false=>rfl
 | true=>have:=(opM_bd (x:=(o,a,0)) hv).2.2;omega
theorem instr_any (B:Nat) (A:Option Addr) (c n:Nat) (l:List Int) (p:Nat) (w:World) (hr:Rd w A c l) (hn:l.length=n) (hp:p≤l.length) (h:Rr w B A c n p) (hA:∀ad,A=some ad→0<l.length→some ad.block≠some B):Calls Tryz.prog 245 #[.pointer (some ⟨B,0,none⟩)] w fun e w'=>IR w w' B A c n l p e:=by
 have HR:=zhy hr;have HBY:=zhy hr.byt;have hB:=h.1;have hQ0:=zhy (h.keep (new1 (a:=.cells #[.int .u8 0,.int .i64 0,.int .i64 0] 57)));have HA:=zhy hA;clear hA h;by_cases h1:p<l.length
 ·obtain ⟨o,ho⟩:∃o,l[p]?.getD 0=o:=⟨_,rfl⟩;have hoB:=hr.byte p;rw [ho] at hoB;obtain ⟨e1,e2,e3⟩:=cget1 hr.byt h1;rw [ho] at e2;have K1:=fun w hr h=>zhy (num_ok B A c n l p 1 o (p+1) w hr hn h e1 e2 e3);have HO:=zhy ho;clear e1 e2 e3 hr ho;have hmod:o % 256=o:=by omega
  go_enter Tryz.func245,Tryz.ntmps245;go_wp2_with fail;refine (K1 _ (HR.out.alloc _) hQ0.out).out.mono ?_;rintro e w2 ⟨rfl,hg2,hq2⟩;have HG2:=zhy (show w.grownBy w2 (some B) from (grown_of new1 _).trans hg2);have HZ2:=zhy ((In.new w 0 0 0).grown hg2 (fun e=>by injection e with e;omega));have HQ2:=zhy (hq2.keep (new1 (a:=.cells #[.int .u8 o,.int .i64 0,.int .i64 0] 57)));have HI2:=zhy (In.new w2 o 0 0);have hsz2:w.heap.size+1≤w2.heap.size:=by have:=hg2.size;simpa using this
  have HR2:=zhy ((HR.out.grown HG2.out (fun ad e h=>HA.out ad e h)).alloc (.cells #[.int .u8 o,.int .i64 0,.int .i64 0] 57));have HG3:=zhy (grown_on HG2.out (new1 (a:=.cells #[.int .u8 o,.int .i64 0,.int .i64 0] 57)));have HZ3:=zhy (HZ2.out.keep (new1 (a:=.cells #[.int .u8 o,.int .i64 0,.int .i64 0] 57)));clear hg2 hq2 HG2 HZ2;cases hw:wdB o with
  | false =>
   obtain ⟨v,hv⟩:∃v,opM o 0 0=v:=⟨_,rfl⟩;have HV:=zhy hv
   have HN:Hid (if v=true then rd1 l p=(0,(o,0,0),p+1) else (rd1 l p).1=40):=by
    rw [Hid];by_cases h33:o<33
    ·rw [rd1_slim (v:=v) h1 (by rw [HO.out];exact h33) (by rw [HO.out];exact hw) (by rw [HO.out];exact hv),HO.out];cases v<;>rfl
    ·have:v=false:=by rw [←hv];exact opM_no h33
     subst this;rw [if_neg (by decide),rd1_op h1 (by rw [HO.out];exact h33)]
   clear hv;have HOK:Hid (InOk (o,0,0)):=⟨hoB,by simp,by simp⟩;go_wp2_with fail;refine (hasop_v _ _ _ hw).mono ?_;rintro e w3 ⟨rfl,rfl⟩;clear hw;go_upto_region 4 with (fail);obtain ⟨q,hq⟩:∃q,p+1=q:=⟨_,rfl⟩;have HQ3:Hid (Rr (w2.alloc (.cells #[.int .u8 o,.int .i64 0,.int .i64 0] 57)) B A c n q):=by rw [←hq];exact HQ2.out
   rw [hq] at HN;have HQL:Hid (q≤l.length):=by rw [←hq];exact h1
   have HX:Hid (Ix w (w2.alloc (.cells #[.int .u8 o,.int .i64 0,.int .i64 0] 57)) B A c n q w2.heap.size w.heap.size o 0):=⟨HG3.out,HQ3.out,HI2.out,Nat.le_refl _,⟨by omega,by omega⟩,0,0,0,HZ3.out⟩;clear HQ2 HQ3 HG3 HZ3 HI2 HR2 hq h1 hp;generalize w2.alloc (.cells #[.int .u8 o,.int .i64 0,.int .i64 0] 57)=wx at *;obtain ⟨a,ha⟩:∃a:Int,a=0:=⟨_,rfl⟩;replace HX:Hid (Ix w wx B A c n q w2.heap.size w.heap.size o a):=by rw [ha];exact HX
   replace HV:Hid (opM o a 0=v):=by rw [ha];exact HV
   replace HN:Hid (if v=true then rd1 l p=(0,(o,a,0),q) else (rd1 l p).1=40):=by rw [ha];exact HN
   replace HOK:Hid (InOk (o,a,0)):=by rw [ha];exact HOK
   clear ha;refine wp_region_held_drew (S:=fun w'=>Hid (Ix w w' B A c n q w2.heap.size w.heap.size o a)) (by kernel_rfl) (Ix.drew1 HX.out) (fun hHeld=>?_);refine zq 0 (hy:=fun w hSw=>by (try dsimp only at hSw);obtain ⟨-,-,⟨-,s0,s1,s2,-⟩,-⟩:=hSw.out;go_simp;try with_reducible rfl) (h:=?_);refine zq 1 (hy:=fun w hSw=>by (try dsimp only at hSw);obtain ⟨-,-,⟨-,s0,s1,s2,-⟩,-⟩:=hSw.out;go_simp;try with_reducible rfl) (h:=?_);refine wpAnyH_ready (rs:=[2]) (by kernel_rfl) (by simp) ?_;refine AllReadyH.cons rfl (fun K hK=>?_) AllReadyH.nil;go_simp;refine (omay_v o a 0 v _ HV.out).mono ?_;rintro e w7 ⟨rfl,hb⟩;go_wp2_with fail;refine hK.out _ _ (zhy (hHeld.out.call hb)) (fun hHeld=>?_);clear hK K;(try simp only [Act.put,zg1,zg2,zg3,zg4,zg5,zg6]);refine wpAnyH_ready (rs:=[3]) (by kernel_rfl) (by simp) ?_;refine AllReadyH.cons rfl (fun K hK=>?_) AllReadyH.nil;obtain ⟨-,-,⟨-,q0,q1,q2,-⟩,-,-,k',x',y',⟨y0,y1,y2,y3,y4,y5,y6⟩⟩:=hHeld.out;go_simp;refine hK.out _ _ (zhy hHeld.out.put) (fun hHeld=>?_);clear hK K;(try simp only [Act.put,zg1,zg2,zg3,zg4,zg5,zg6]);refine zq 4 (h:=?_);refine wpAnyH_done (by kernel_rfl) ?_ _;obtain ⟨hg,hq,-⟩:=hHeld.out;have HG:=zhy hg;have HQ:=zhy hq;clear hHeld hg hq;go_wp2_with fail;exact bodyPost_ret (v:=.tuple #[.agg #[.int .u8 o,.int .i64 a,.int .i64 0],.bool v]) (by simp [results,Tryz.results245,go_sem,y1,y2,y3]) rfl ⟨HG.out,.inr ⟨(o,a,0),v,q,rfl,HQ.out,HOK.out,HQL.out,HN.out⟩⟩
  | true =>
   have h33:o<33:=Int.not_le.1 fun hge=>by
    have h2:¬o<33:=by omega
    revert hw;unfold wdB opHi;repeat' split
    all_goals first | omega | simp
   by_cases h2:p+3≤l.length
   ·obtain ⟨a,ha⟩:∃a,l[p+1]?.getD 0+256*l[p+1+1]?.getD 0=a:=⟨_,rfl⟩;have b1:=HR.out.byte (p+1);have b2:=HR.out.byte (p+1+1);obtain ⟨e1,e2,e3⟩:=get2 HBY.out (p:=p+1) (by omega);rw [ha] at e2;rw [show (((p+1:Nat):Int))=(p:Int)+1 by omega] at e1 e2 e3;have K2:=fun w hr h=>zhy (num_ok B A c n l (p+1) 2 a (p+1+2) w hr hn h e1 e2 e3);have haB:0≤a∧a<65536:=by omega
    obtain ⟨v,hv⟩:∃v,opM o a 0=v:=⟨_,rfl⟩;have HV:=zhy hv
    have HN:Hid (if v=true then rd1 l p=(0,(o,a,0),p+3) else (rd1 l p).1=40):=by
     rw [Hid,rd1_wide (v:=v) (by rw [HO.out];exact h33) (by rw [HO.out];exact hw) h2 (by rw [HO.out];exact (by rw [ha];exact hv)),HO.out,show p+2=p+1+1 from rfl,ha];cases v<;>rfl
    clear hv e1 e2 e3 ha b1 b2;have HOK:Hid (InOk (o,a,0)):=⟨hoB,by simp;omega,by simp⟩;go_wp2_with fail;refine (hasop_v _ _ _ hw).mono ?_;rintro e w3 ⟨rfl,rfl⟩;clear hw;go_wp2_with fail;refine (K2 _ HR2.out HQ2.out).out.mono ?_;rintro e w4 ⟨rfl,hg4,hq4⟩;have HG4:=zhy (HG3.out.trans hg4);have HZ4:=zhy (HZ3.out.grown hg4 (fun e=>by injection e with e;omega));have HI4:=zhy (HI2.out.grown hg4 (fun e=>by injection e with e;omega));have HQ4:=zhy hq4;clear hg4 hq4 HG3 HZ3 HI2 HQ2 HR2 K1 K2;obtain ⟨-,z0,z1,z2,z3,z4,z5⟩:=HI4.out;go_upto_region 4 with (fail);obtain ⟨q,hq⟩:∃q,p+3=q:=⟨_,rfl⟩;have HQ5:Hid (Rr w4 B A c n q):=by rw [←hq];have:=HQ4.out;rwa [show (p:Int)+1+2=((p+3:Nat):Int) by omega] at this
    rw [hq] at HN;have HQL:Hid (q≤l.length):=by rw [←hq];exact h2
    have HX:Hid (Ix w (w4.setCell ⟨w2.heap.size,1,none⟩ (.int .i64 a)) B A c n q w2.heap.size w.heap.size o a):=⟨grown_set HG4.out (.inl (by simp;omega)) _,HQ5.out.other (by simp;omega) _,HI4.out.set1 a,Nat.le_refl _,⟨by omega,by omega⟩,0,0,0,HZ4.out.other (by simp;omega) _⟩;clear HQ4 HQ5 HG4 HZ4 HI4 hq h1 hp h2 z0 z1 z2 z3 z4 z5;generalize w4.setCell ⟨w2.heap.size,1,none⟩ (.int .i64 a)=wx at *;refine wp_region_held_drew (S:=fun w'=>Hid (Ix w w' B A c n q w2.heap.size w.heap.size o a)) (by kernel_rfl) (Ix.drew1 HX.out) (fun hHeld=>?_);refine zq 0 (hy:=fun w hSw=>by (try dsimp only at hSw);obtain ⟨-,-,⟨-,s0,s1,s2,-⟩,-⟩:=hSw.out;go_simp;try with_reducible rfl) (h:=?_);refine zq 1 (hy:=fun w hSw=>by (try dsimp only at hSw);obtain ⟨-,-,⟨-,s0,s1,s2,-⟩,-⟩:=hSw.out;go_simp;try with_reducible rfl) (h:=?_);refine wpAnyH_ready (rs:=[2]) (by kernel_rfl) (by simp) ?_;refine AllReadyH.cons rfl (fun K hK=>?_) AllReadyH.nil;go_simp;refine (omay_v o a 0 v _ HV.out).mono ?_;rintro e w7 ⟨rfl,hb⟩;go_wp2_with fail;refine hK.out _ _ (zhy (hHeld.out.call hb)) (fun hHeld=>?_);clear hK K;(try simp only [Act.put,zg1,zg2,zg3,zg4,zg5,zg6]);refine wpAnyH_ready (rs:=[3]) (by kernel_rfl) (by simp) ?_;refine AllReadyH.cons rfl (fun K hK=>?_) AllReadyH.nil;obtain ⟨-,-,⟨-,q0,q1,q2,-⟩,-,-,k',x',y',⟨y0,y1,y2,y3,y4,y5,y6⟩⟩:=hHeld.out;go_simp;refine hK.out _ _ (zhy hHeld.out.put) (fun hHeld=>?_);clear hK K;(try simp only [Act.put,zg1,zg2,zg3,zg4,zg5,zg6]);refine zq 4 (h:=?_);refine wpAnyH_done (by kernel_rfl) ?_ _;obtain ⟨hg,hq,-⟩:=hHeld.out;have HG:=zhy hg;have HQ:=zhy hq;clear hHeld hg hq;go_wp2_with fail;exact bodyPost_ret (v:=.tuple #[.agg #[.int .u8 o,.int .i64 a,.int .i64 0],.bool v]) (by simp [results,Tryz.results245,go_sem,y1,y2,y3]) rfl ⟨HG.out,.inr ⟨(o,a,0),v,q,rfl,HQ.out,HOK.out,HQL.out,HN.out⟩⟩
   ·have e1:=get_short (l:=l) (p:=(p:Int)+1) (W:=2) (by omega) (by omega) (by omega) (by omega);have K2:=fun w hr h=>zhy (num_bad B A c n l (p+1) 2 10 w hr hn h e1 (by decide));have HN:Hid ((rd1 l p).1=10):=by rw [Hid,rd1_few h1 (by rw [HO.out];exact h33) (by rw [HO.out];exact hw) (by omega)]
    clear e1;go_wp2_with fail;refine (hasop_v _ _ _ hw).mono ?_;rintro e w3 ⟨rfl,rfl⟩;clear hw;go_wp2_with fail;refine (K2 _ HR2.out HQ2.out).out.mono ?_;rintro e w4 ⟨rfl,hb4⟩;have HG4:=zhy (grown_on HG3.out hb4);clear hb4;go_wp2_with fail;exact ⟨rfl,HG4.out,.inl ⟨rfl,HN.out⟩⟩
 ·have e1:=get_short (l:=l) (p:=(p:Int)) (W:=1) (by omega) (by omega) (by omega) (by omega);have K2:=fun w hr h=>zhy (num_bad B A c n l p 1 10 w hr hn h e1 (by decide));have HN:Hid ((rd1 l p).1=10):=by rw [Hid,rd1_short (by omega)]
  clear e1 hr;go_enter Tryz.func245,Tryz.ntmps245;go_wp2_with fail;refine (K2 _ (HR.out.alloc _) hQ0.out).out.mono ?_;rintro e w2 ⟨rfl,hb4⟩;have HG4:=zhy ((grown_of (new1 (w:=w) (a:=.cells #[.int .u8 0,.int .i64 0,.int .i64 0] 57)) (some B)).trans (grown_of hb4 _));clear hb4;go_wp2_with fail;exact ⟨rfl,HG4.out,.inl ⟨rfl,HN.out⟩⟩
theorem cei_put {xs:List Value} {K:List Ins} {j:Nat} (hj:K.length=j) (hx:xs.take (j*3)=cei K) (hl:j*3+3≤xs.length) (y:Ins) :
  (((xs.set (j*3) (.int .u8 y.1)).set (j*3+1) (.int .i64 y.2.1)).set (j*3+2) (.int .i64 y.2.2)).take ((j+1)*3)=cei (K++[y]):=by
 have h3:(cei K).length=j*3:=by rw [length_cei,hj]
 have hd:xs=cei K++xs.drop (j*3):=by rw [←hx,List.take_append_drop]
 have hdl:3≤(xs.drop (j*3)).length:=by rw [List.length_drop];omega
 match hr:xs.drop (j*3),hdl with
 | u::v::t::r,_ =>
  rw [hr] at hd
  rw [hd,List.set_append_right _ _ (by omega),h3,Nat.sub_self,List.set_cons_zero,List.set_append_right _ _ (by omega),h3,show j*3+1-j*3=0+1 by omega,List.set_cons_succ,List.set_cons_zero,
   List.set_append_right _ _ (by omega),h3,show j*3+2-j*3=0+1+1 by omega,List.set_cons_succ,List.set_cons_succ,List.set_cons_zero,List.take_append,h3,List.take_of_length_le (by omega),
   show (j+1)*3-j*3=3 by omega,cei_append,cei_cons]
  rfl
def CR (w w' : World) (B : Nat) (A : Option Addr) (c n : Nat) (l : List Int) (p : Int) (e : Ending) : Prop := w.grownBy w' (some B) ∧
  ((∃ E, e = .panicked [{ v := .iface 31 (.int .i64 E), recovered := false }] ∧ E ≠ 0 ∧ (rdC l p).1 = E) ∨
   (∃ q : Int, e = .returned (.tuple #[.slice none 0 0, .int .i64 40]) ∧ (rdC l p).1 = 40 ∧ Rr w' B A c n q) ∨
   ∃ (A' : Option Addr) (c' : Nat) (L : List Ins) (q : Nat), e = .returned (.tuple #[.slice A' L.length c', .int .i64 0]) ∧ rdC l p = (0, L, q) ∧ Ri w' A' c' L ∧ Rr w' B A c n q ∧ ∃ g, A' = some ⟨g, 0, none⟩ ∧ w.heap.size ≤ g ∧ w'.ownsRow w.heap.size 57 3 (.slice A' L.length c') L.length (cei L))
theorem rdC_e {l:List Int} {p:Int} {K:List Ins} {k q:Nat} {E:Int} (h:rdC l p=apC K (rdS l (k+1) q)) (h1:(rd1 l q).1=E) (h0:E≠0):(rdC l p).1=E:=by
 rw [h,rdS_no h1 h0,apC,if_neg h0]
theorem rcode_any (B:Nat) (A:Option Addr) (c n:Nat) (l:List Int) (p:Int) (w:World) (hr:Rd w A c l) (hn:l.length=n) (h:Rr w B A c n p) (hA:∀ad,A=some ad→0<l.length→some ad.block≠some B):Calls Tryz.prog 226 #[.pointer (some ⟨B,0,none⟩)] w fun e w'=>CR w w' B A c n l p e:=by
 have HR:=zhy hr;have HBY:=zhy hr.byt;have hB:=h.1;have hQ0:=zhy h;have HA:=zhy hA;clear hA h;by_cases hp:p<0∨l.length<p
 ·have e1:getE l p 1=2:=by rw [get_eq (by omega),(cut_arg hp).1];rfl
  have K2:=fun w hr h=>zhy (num_bad B A c n l p 1 2 w hr hn h e1 (by decide));have HN:Hid ((rdC l p).1=2):=by rw [Hid,rdC_neg hp]
  clear e1 hr hp;go_enter Tryz.func226,Tryz.ntmps226;go_wp2_with fail;refine (K2 _ HR.out hQ0.out).out.mono ?_;rintro e w2 ⟨rfl,hb4⟩;have HG4:=zhy (grown_of hb4 (some B));clear hb4;go_wp2_with fail;exact ⟨rfl,HG4.out,.inl ⟨_,rfl,by decide,HN.out⟩⟩
 ·obtain ⟨p,rfl⟩:∃k:Nat,p=k:=⟨p.toNat,by omega⟩;by_cases h1:p<l.length
  ·obtain ⟨m,hm⟩:∃m:Nat,l[p]?.getD 0=m:=⟨(l[p]?.getD 0).toNat,by have:=hr.byte p;omega⟩;have hoB:=hr.byte p;rw [hm] at hoB;obtain ⟨e1,e2,e3⟩:=cget1 hr.byt h1;rw [hm] at e2;have K1:=fun w hr h=>zhy (num_ok B A c n l p 1 m (p+1) w hr hn h e1 e2 e3);have HO:=zhy hm;clear e1 e2 e3 hr hm;go_enter Tryz.func226,Tryz.ntmps226;go_wp2_with fail;refine (K1 _ HR.out hQ0.out).out.mono ?_;rintro e w2 ⟨rfl,hg2,hq2⟩;have HG2:=zhy hg2;have HQ2:=zhy hq2;have hsz2:=hg2.size;clear hg2 hq2 hQ0 K1;cases hv:mcB m with
   | false =>
    have HN:Hid ((rdC l p).1=40):=by
     rw [Hid,rdC_many h1 (by rw [HO.out];unfold mcB at hv;by_cases g:(1:Int)≤m<;>simp_all<;>omega)]
    go_wp2_with fail;refine (mayc_v _ _ _ hv).mono ?_;rintro e w3 ⟨rfl,rfl⟩;go_wp2_with fail;go_ret2;exact ⟨HG2.out,.inr (.inl ⟨_,rfl,HN.out,HQ2.out⟩)⟩
   | true =>
    have hm12:1≤m∧m≤200:=by
     unfold mcB at hv;rw [Bool.and_eq_true,decide_eq_true_eq,decide_eq_true_eq] at hv;omega
    have HC:=zhy (rdC_yes h1 HO.out hm12);go_wp2_with fail;refine (mayc_v _ _ _ hv).mono ?_;rintro e w3 ⟨rfl,rfl⟩;clear hv;have hinfo:=Tryz.infoI;rw [Option.map_eq_some_iff] at hinfo;obtain ⟨i0,hi,hz⟩:=hinfo;simp only [Prod.mk.injEq] at hz;obtain ⟨hz0,hz1,hz2⟩:=hz;go_wp2_with (at_make;refine wpList_make_full _ rfl _ _ 48 rfl w.heap.size 57 i0 _ 3 Tryz.underlying48 hi hz0 hz1 .i64 .i64 m m m rfl rfl rfl rfl (by rw [hz2];omega) (by unfold maxLen;omega) hsz2 ?_);intro w4 ho4 hg4;obtain ⟨xs0,hx0⟩:∃xs0,(madeCells #[.int .u8 0,.int .i64 0,.int .i64 0] (m*3)).toList=xs0:=⟨_,rfl⟩;rw [hx0] at ho4;have HO4:=zhy ho4;have HG4:=zhy ((HG2.out).trans (show w2.grownBy w4 (some B) from ⟨hg4.os,hg4.tape,hg4.output,hg4.size,fun i hi _=>hg4.block i hi (by simp)⟩))
    have HQ4:Hid (Rr w4 B A c n ((p+1:Nat):Int)):=zhy (by
     have:=HQ2.out.keep (w':=w4) ⟨hg4.os,hg4.tape,hg4.output,hg4.size,fun i hi=>hg4.block i hi (by simp)⟩;rwa [show (p:Int)+1=((p+1:Nat):Int) by omega] at this)
    clear ho4 hg4 hx0 hi hz0 hz1 hz2 i0 HG2 HQ2;generalize hg:w2.heap.size=g at *;have hgB:B<g:=by omega
    have hwg:w.heap.size≤g:=by omega
    clear hg hsz2;go_wp2_with fail;go_loopw [18] (fun i wr=>∃(j q:Nat) (K:List Ins) (xs:List Value),j≤m∧i=.int .i64 j∧Hid (rdC l p=apC K (rdS l (m-j) q)∧K.length=j∧(∀x∈K,InOk x)∧q≤l.length)∧Hid (wr.ownsRow w.heap.size 57 3 (.slice (some ⟨g,0,none⟩) m m) m xs∧xs.take (j*3)=cei K)∧Hid (w.grownBy wr (some B))∧Hid (Rr wr B A c n q)) (fun i _=>m-(intOf i).toNat)
    case atStart=>exact ⟨0,p+1,[],xs0,by omega,rfl,zhy ⟨by rw [HC.out,apC_nil (rdS_err _ _ _)];rfl,rfl,fun x hx=>(by cases hx),h1⟩,zhy ⟨HO4.out,by simp [cei]⟩,HG4,HQ4⟩
    case round =>
     obtain ⟨j,q,K,xs,hj,rfl,HX,HO5,HG5,HQ5⟩:=hrel;clear HO4 HG4 HQ4 HC;by_cases hjm:j<m
     ·have HR5:=zhy (HR.out.grown HG5.out (fun ad e h=>HA.out ad e h));have hX1:Hid (rdC l p=apC K (rdS l ((m-(j+1))+1) q)):=by rw [Hid,HX.out.1,show m-(j+1)+1=m-j by omega]
      go_wp2_with fail;refine (instr_any B A c n l q _ HR5.out hn HX.out.2.2.2 HQ5.out HA.out).mono ?_;rintro e w6 ⟨hg6,hh⟩;have HG6:=zhy (HG5.out.trans hg6);have HO6:=zhy (HO5.out.1.kept hg6 (.inr (by simp [Value.ownBlock];omega)));clear hg6 HR5;rcases hh with ⟨rfl,h10⟩ | ⟨x,v,q',rfl,hq6,hok,hql,hif⟩
      ·have HN:=zhy (rdC_e hX1.out h10 (by decide));clear h10;go_wp2_with fail;exact ⟨rfl,HG6.out,.inl ⟨_,rfl,by decide,HN.out⟩⟩
      ·have HQ6:=zhy hq6;have HOK:=zhy hok;have HQL:=zhy hql;have HIF:=zhy hif;clear hq6 hok hql hif;have HG7:=zhy (grown_on HG6.out (new1 (a:=.cells #[.int .u8 x.1,.int .i64 x.2.1,.int .i64 x.2.2] 57)));have HQ7:=zhy (HQ6.out.keep (new1 (a:=.cells #[.int .u8 x.1,.int .i64 x.2.1,.int .i64 x.2.2] 57)));have HO7:=zhy (own_same HO6.out (new1 (a:=.cells #[.int .u8 x.1,.int .i64 x.2.1,.int .i64 x.2.2] 57)));cases v with
       | false =>
        have HN:=zhy (rdC_e hX1.out (by simpa using HIF.out) (by decide));go_wp2_with fail;go_ret2;exact ⟨HG7.out,.inr (.inl ⟨_,rfl,HN.out,HQ7.out⟩)⟩
       | true =>
        have HRD:Hid (rd1 l q=(0,x,q')):=zhy (by simpa using HIF.out);have hxl:xs.length=m*3:=by simpa using HO7.out.1
        have c0:=HO7.out.cellAt (j*3) (by omega);have c1:=HO7.out.cellAt (j*3+1) (by omega);have c2:=HO7.out.cellAt (j*3+2) (by omega);have f0:=HO7.out.frozenAt (j*3);have f1:=HO7.out.frozenAt (j*3+1);have f2:=HO7.out.frozenAt (j*3+2);rw [zg7 (by omega)] at c0 c1 c2;have HO8:=zhy (((((HO7.out.stored (j*3) (.int .u8 x.1)).1).stored (j*3+1) (.int .i64 x.2.1)).1).stored (j*3+2) (.int .i64 x.2.2)).1;have HP:=zhy (cei_put HX.out.2.1 HO5.out.2 (by omega) x);have HG8:=zhy (grown_set (grown_set (grown_set HG7.out (.inl (show w.heap.size≤(⟨g,j*3,none⟩:Addr).block from hwg)) (.int .u8 x.1)) (.inl (show w.heap.size≤(⟨g,j*3+1,none⟩:Addr).block from hwg)) (.int .i64 x.2.1)) (.inl (show w.heap.size≤(⟨g,j*3+2,none⟩:Addr).block from hwg)) (.int .i64 x.2.2));have HQ8:=zhy (((HQ7.out.other (show (⟨g,j*3,none⟩:Addr).block≠B from by simp;omega) (.int .u8 x.1)).other (show (⟨g,j*3+1,none⟩:Addr).block≠B from by simp;omega) (.int .i64 x.2.1)).other (show (⟨g,j*3+2,none⟩:Addr).block≠B from by simp;omega) (.int .i64 x.2.2))
        have HX8:Hid (rdC l p=apC (K++[x]) (rdS l (m-(j+1)) q')∧(K++[x]).length=j+1∧(∀y∈K++[x],InOk y)∧q'≤l.length):=by
         refine ⟨by rw [hX1.out,rdS_yes HRD.out,apC_apC],by rw [List.length_append,HX.out.2.1];rfl,fun y hy=>?_,HQL.out⟩;rcases List.mem_append.1 hy with hy | hy
         ·exact HX.out.2.2.1 y hy
         ·rw [List.mem_singleton.1 hy];exact HOK.out
        go_wp2_with fail;go_roundw
        case rel=>exact ⟨j+1,q',K++[x],_,by omega,by go_num,HX8,zhy ⟨HO8.out,HP.out⟩,HG8,HQ8⟩
        case measure=>simp [intOf];omega
     ·obtain rfl:j=m:=by omega
      have hxl:xs.length=j*3:=by simpa using HO5.out.1.1
      have hxs:xs=cei K:=by rw [←HO5.out.2,List.take_of_length_le (by omega)]
      have HRI:=zhy (Ri.of_own (L:=K) (by have:=HO5.out.1;rwa [hxs] at this) HX.out.2.2.1).1
      have HOw:Hid (wr.ownsRow w.heap.size 57 3 (.slice (some ⟨g,0,none⟩) K.length j) K.length (cei K)):=by
       have:=HO5.out.1;rw [hxs] at this;rw [HX.out.2.1];exact this
      have HN:Hid (rdC l p=(0,K,q)):=by rw [Hid,HX.out.1,Nat.sub_self,rdS,apC,if_pos rfl,List.append_nil]
      have HL:=zhy HX.out.2.1;clear HX HO5;go_wp2_with fail;go_ret2;exact ⟨HG5.out,.inr (.inr ⟨some ⟨g,0,none⟩,j,K,q,by rw [HL.out];rfl,HN.out,HRI.out,HQ5.out,g,rfl,hwg,HOw.out⟩)⟩
  ·have e1:=get_short (l:=l) (p:=(p:Int)) (W:=1) (by omega) (by omega) (by omega) (by omega);have K2:=fun w hr h=>zhy (num_bad B A c n l p 1 10 w hr hn h e1 (by decide));have HN:Hid ((rdC l p).1=10):=by rw [Hid,rdC_end (by omega)]
   clear e1 hr;go_enter Tryz.func226,Tryz.ntmps226;go_wp2_with fail;refine (K2 _ HR.out hQ0.out).out.mono ?_;rintro e w2 ⟨rfl,hb4⟩;have HG4:=zhy (grown_of hb4 (some B));clear hb4;go_wp2_with fail;exact ⟨rfl,HG4.out,.inl ⟨_,rfl,by decide,HN.out⟩⟩
theorem shut_panic (a0 a1 a2:Addr) (E:Int) (x0 x1 x2:Value) (w:World) (h0:w.cell? a0=some x0) (h1:w.cell? a1=some x1) (h2:w.cell? a2=some x2) (f0:w.frozen? a0=false) (f1:w.frozen? a1=false) (f2:w.frozen? a2=false)
  (n01:a0≠a1) (n02:a0≠a2) (n12:a1≠a2) (hE:(E != 0)=true) :
  CallsD Tryz.prog 225 #[.pointer (some a0),.pointer (some a1),.pointer (some a2)] (.panicking [{ v:=.iface 31 (.int .i64 E),recovered:=false }]) w fun e u' w' =>
   e=.returned (.tuple #[])∧u'=.panicking [{ v:=.iface 31 (.int .i64 E),recovered:=true }]∧w'=((w.setCell a0 (.int .i64 E)).setCell a1 (.slice none 0 0)).setCell a2 (.int .i64 0):=by
 have h1':(w.setCell a0 (.int .i64 E)).cell? a1=some x1:=by rw [World.cell?_setCell_other _ _ _ _ n01];exact h1
 have h2':((w.setCell a0 (.int .i64 E)).setCell a1 (.slice none 0 0)).cell? a2=some x2:=by rw [World.cell?_setCell_other _ _ _ _ n12,World.cell?_setCell_other _ _ _ _ n02];exact h2
 have h0':(w.setCell a0 (.int .i64 E)).cell? a0=some (.int .i64 E):=World.cell?_setCell_same _ _ _ h0
 have hE':(E==0)=false:=by simpa using hE
 have hta:∀(w:World) (v:Value),(Instr.typeAssert (.iface 31 v) 20 31 false).run Tryz.prog w=.ok v w:=by
  intro w v;simp [Instr.typeAssert,run_underlying Tryz.underlying31,go_sem,Result.andThen]
 refine callsD_of_wpS Tryz.func225 rfl fun c₀ cs hu=>?_
 apply wpS_seq
 apply wpS_seq
 apply wpS_region
 simp [wpOpsS,go_sem,recoverD,hu,Tryz.ntmps225,Exit.thenS,Array.replicate]
 refine wpS_of_wp ?_
 go_wp2_with fail
 simp only [Exit.thenS]
 refine wpS_of_wp ?_
 go_wp2_with fail
 simp [bodyPostS,results,Tryz.results225]
theorem shut_err (a0 a1 a2:Addr) (E:Int) (x1 x2:Value) (w:World) (h0:w.cell? a0=some (.int .i64 E)) (h1:w.cell? a1=some x1) (h2:w.cell? a2=some x2) (f1:w.frozen? a1=false) (f2:w.frozen? a2=false)
  (n12:a1≠a2) (hE:(E != 0)=true) :
  CallsD Tryz.prog 225 #[.pointer (some a0),.pointer (some a1),.pointer (some a2)] .returning w fun e u' w' =>
   e=.returned (.tuple #[])∧u'=.returning∧w'=(w.setCell a1 (.slice none 0 0)).setCell a2 (.int .i64 0):=by
 have h2':(w.setCell a1 (.slice none 0 0)).cell? a2=some x2:=by rw [World.cell?_setCell_other _ _ _ _ n12];exact h2
 have hE':(E==0)=false:=by simpa using hE
 refine callsD_of_wpS Tryz.func225 rfl fun c₀ cs hu=>?_
 apply wpS_seq
 apply wpS_seq
 apply wpS_region
 simp [wpOpsS,go_sem,recoverD,hu,Tryz.ntmps225,Exit.thenS,Array.replicate]
 refine wpS_of_wp ?_
 go_wp2_with fail
 simp only [Exit.thenS]
 refine wpS_of_wp ?_
 go_wp2_with fail
 cases c₀
 simp_all [bodyPostS,results,Tryz.results225]
theorem shut_ok (a0 a1 a2:Addr) (w:World) (h0:w.cell? a0=some (.int .i64 0)) :
  CallsD Tryz.prog 225 #[.pointer (some a0),.pointer (some a1),.pointer (some a2)] .returning w fun e u' w' =>
   e=.returned (.tuple #[])∧u'=.returning∧w'=w:=by
 refine callsD_of_wpS Tryz.func225 rfl fun c₀ cs hu=>?_
 apply wpS_seq
 apply wpS_seq
 apply wpS_region
 simp [wpOpsS,go_sem,recoverD,hu,Tryz.ntmps225,Exit.thenS,Array.replicate]
 refine wpS_of_wp ?_
 go_wp2_with fail
 simp only [Exit.thenS]
 refine wpS_of_wp ?_
 go_wp2_with fail
 cases c₀
 simp_all [bodyPostS,results,Tryz.results225]
def C1 (w:World) (b:Nat) (v:Value):Prop:=b<w.heap.size∧w.cell? ⟨b,0,none⟩=some v∧w.frozen? ⟨b,0,none⟩=false
theorem C1.keep {w w':World} {b:Nat} {v:Value} (h:C1 w b v) (hb:Below w.heap.size w w'):C1 w' b v:=by
 obtain ⟨h1,h2,h3⟩:=h;obtain ⟨hc,hf⟩:=bcell hb;exact ⟨Nat.lt_of_lt_of_le h1 hb.size,(hc _ _ h1).trans h2,(hf _ _ h1).trans h3⟩
theorem C1.new (w:World) (v:Value) (t:Nat):C1 (w.alloc (.cells #[v] t)) w.heap.size v:=by
 refine ⟨by simp,?_,?_⟩<;>simp [go_sem]
theorem C1.grown {w w':World} {b:Nat} {v:Value} (h:C1 w b v) {row:Option Nat} (hg:w.grownBy w' row) (hne:some b≠row):C1 w' b v:=by
 obtain ⟨h1,h2,h3⟩:=h;have hB:=hg.block b h1 hne;exact ⟨Nat.lt_of_lt_of_le h1 hg.size,(World.cell?_of_block (w:=w) hB).trans h2,(World.frozen?_of_block (w:=w) hB).trans h3⟩
theorem C1.other {w:World} {b:Nat} {v:Value} (h:C1 w b v) {p:Addr} (hp:p.block≠b) (u:Value):C1 (w.setCell p u) b v:=by
 obtain ⟨h1,h2,h3⟩:=h;have ne:p≠(⟨b,0,none⟩:Addr):=fun e=>hp (by rw [e]);refine ⟨by simpa using h1,?_,by simpa using h3⟩;rw [World.cell?_setCell_other _ _ _ _ ne];exact h2
theorem C1.set {w:World} {b:Nat} {v:Value} (h:C1 w b v) (u:Value):C1 (w.setCell ⟨b,0,none⟩ u) b u:=by
 obtain ⟨h1,h2,h3⟩:=h;exact ⟨by simpa using h1,World.cell?_setCell_same _ _ _ h2,by simpa using h3⟩
theorem C1.drew {w:World} {b:Nat} {v:Value} (h:C1 w b v):C1 w.drew b v:=h.keep (below_draws (Below.refl _ _) 1)
theorem rdC_bad {l:List Int} {p E:Int} (h:(rdC l p).1=E) (h0:E≠0):rdC l p=(E,[],0):=by
 have key:(rdC l p).1≠0→(rdC l p).2.1=[]∧(rdC l p).2.2=0:=by
  unfold rdC;split
  ·exact fun _=>⟨rfl,rfl⟩
  ·split
   ·exact fun _=>⟨rfl,rfl⟩
   ·simp only;split
    ·exact fun _=>⟨rfl,rfl⟩
    ·exact rdS_err _ _ _
 obtain ⟨h1,h2⟩:=key (by rw [h];exact h0);generalize rdC l p=R at *;obtain ⟨a,b,c⟩:=R;simp only at h h1 h2;rw [h,h1,h2]
theorem Ri.drew1 {w:World} {A:Option Addr} {c:Nat} {L:List Ins} (h:Ri w A c L):Ri w.drew A c L:=h.keep (below_draws (Below.refl _ _) 1)
theorem Ri.other {w:World} {g c:Nat} {L:List Ins} (h:Ri w (some ⟨g,0,none⟩) c L) {p:Addr} (hp:p.block≠g) (v:Value):Ri (w.setCell p v) (some ⟨g,0,none⟩) c L:=
 h.grown (grown_set (World.grownBy.refl w (some p.block)) (.inr rfl) v) (fun ad e=>by injection e with e;subst e;intro e;injection e with e;exact hp e.symm)
theorem creadw_any (A:Option Addr) (c n:Nat) (l:List Int) (p:Int) (w:World) (hr:Rd w A c l) (hn:l.length=n):Calls Tryz.prog 190 #[.slice A n c,.int .i64 p] w fun e w'=>∃A' c',e=.returned (.tuple #[.slice A' (rdC l p).2.1.length c',.int .i64 (rdC l p).2.2,.int .i64 (rdC l p).1])∧Ri w' A' c' (rdC l p).2.1∧w'.ownsRow w.heap.size 57 3 (.slice A' (rdC l p).2.1.length c') (rdC l p).2.1.length (cei (rdC l p).2.1)∧Below w.heap.size w w':=by
 have hmf:∀(fn:Fn) (first cap:Array Value) (w:World),(Instr.makeFunc fn first cap).run Tryz.prog w=.ok (.func fn first cap) w:=fun _ _ _ _=>rfl;have HR:=zhy hr
 have hA:∀ad,A=some ad→l.length=0∨ad.block<w.heap.size:=by
  intro ad ha;by_cases h0:0<l.length
  ·obtain ⟨ad',e,hc⟩:=hr.at_ (i:=0) h0;rw [ha] at e;injection e with e;subst e;have:=cell_lt hc;have hb:(ad.add 0).block=ad.block:=by unfold Addr.add;split<;>rfl
   exact .inr (by omega)
  ·exact .inl (by omega)
 clear hr;go_enter_defers Tryz.func190,Tryz.ntmps190;go_wp2_with fail;have hsz:∀o1 o2 o3:Obj,(((w.alloc o1).alloc o2).alloc o3).heap.size=w.heap.size+1+1+1:=fun _ _ _=>by simp
 have hb4:=(below_on (new3 (w:=w) (a:=.cells #[.slice none 0 0] 48) (b:=.cells #[.int .i64 0] 3) (c:=.cells #[.int .i64 0] 31)) (new1 (a:=.cells #[.slice A n c,.int .i64 p] 321)));have hq4:=Rr.new (((w.alloc (.cells #[.slice none 0 0] 48)).alloc (.cells #[.int .i64 0] 3)).alloc (.cells #[.int .i64 0] 31)) A c n p 321;have k1:=(((C1.new w (.slice none 0 0) 48).keep (new1 (a:=.cells #[.int .i64 0] 3))).keep (new1 (a:=.cells #[.int .i64 0] 31))).keep (new1 (a:=.cells #[.slice A n c,.int .i64 p] 321));have k2:=((C1.new (w.alloc (.cells #[.slice none 0 0] 48)) (.int .i64 0) 3).keep (new1 (a:=.cells #[.int .i64 0] 31))).keep (new1 (a:=.cells #[.slice A n c,.int .i64 p] 321));have k3:=(C1.new ((w.alloc (.cells #[.slice none 0 0] 48)).alloc (.cells #[.int .i64 0] 3)) (.int .i64 0) 31).keep (new1 (a:=.cells #[.slice A n c,.int .i64 p] 321));rw [size1] at k2;rw [size1,size1] at k3;rw [hsz] at hq4;have hz4:w.heap.size+4≤((((w.alloc (.cells #[.slice none 0 0] 48)).alloc (.cells #[.int .i64 0] 3)).alloc (.cells #[.int .i64 0] 31)).alloc (.cells #[.slice A n c,.int .i64 p] 321)).heap.size:=by rw [size1,hsz];omega
 clear hsz;generalize ((((w.alloc (.cells #[.slice none 0 0] 48)).alloc (.cells #[.int .i64 0] 3)).alloc (.cells #[.int .i64 0] 31)).alloc (.cells #[.slice A n c,.int .i64 p] 321))=w4 at *;refine (rcode_any _ A c n l p _ (HR.out.keep hb4) hn hq4 (fun ad e h=>by rcases hA ad e with h' | h'<;>simp<;>omega)).mono ?_;rintro e w5 ⟨hg5,hh⟩;have h41:=k1.grown hg5 (by simp;try omega);have h42:=k2.grown hg5 (by simp;try omega);have h43:=k3.grown hg5 (by simp;try omega);have HB5:=zhy (hb4.grown hg5 (Nat.le_of_lt (by have:=k1.1;omega)) (fun k e=>by injection e with e;omega));clear k1 k2 k3 hb4 hq4 hg5;rcases hh with ⟨E,rfl,hE,hN⟩ | ⟨q,rfl,hN,hq⟩ | ⟨A',c',L,q,rfl,hN,hri,hq,g,hAg,hgs,how⟩
 ·have HN:=zhy (rdC_bad hN hE);clear hN
  have HC:Hid (∀w'',w''=((w5.setCell ⟨w.heap.size+1+1,0,none⟩ (.int .i64 E)).setCell ⟨w.heap.size,0,none⟩ (.slice none 0 0)).setCell ⟨w.heap.size+1,0,none⟩ (.int .i64 0)→w''.cell? ⟨w.heap.size,0,none⟩=some (.slice none 0 0)∧w''.cell? ⟨w.heap.size+1,0,none⟩=some (.int .i64 0)∧w''.cell? ⟨w.heap.size+1+1,0,none⟩=some (.int .i64 E)∧Below w.heap.size w w''):=by
   rintro w'' rfl
   exact ⟨(((h41.other (by simp;try omega) _).set _).other (by simp;try omega) _).2.1,(((h42.other (by simp;try omega) _).other (by simp;try omega) _).set _).2.1,(((h43.set _).other (by simp;try omega) _).other (by simp;try omega) _).2.1,
    ((HB5.out.setCell (by simp;omega) _).setCell (by simp) _).setCell (by simp) _⟩
  obtain ⟨-,a1,b1⟩:=h41;obtain ⟨-,a2,b2⟩:=h42;obtain ⟨-,a3,b3⟩:=h43;go_wp2_with fail;refine leaves_cons (f:=225) (args:=#[.pointer (some ⟨w.heap.size+1+1,0,none⟩),.pointer (some ⟨w.heap.size,0,none⟩),.pointer (some ⟨w.heap.size+1,0,none⟩)]) (by simp) (by simp [go_sem]) ?_;refine (shut_panic _ _ _ E _ _ _ _ a3 a1 a2 b3 b1 b2 (by simp;try omega) (by simp;try omega) (by simp;try omega) (by simpa using hE)).mono ?_;rintro e u' w'' ⟨rfl,rfl,hw⟩;obtain ⟨c1,c2,c3,hbl⟩:=HC.out _ hw;clear hw HC a1 a2 a3 b1 b2 b3;have HBL:=zhy hbl;clear hbl;simp [Leaves,settle,results,Tryz.results190,go_sem,c1,c2,c3,HN.out];exact ⟨none,0,⟨rfl,rfl⟩,Ri.none_ _,World.ownsRow_nil _ _ _ _,HBL.out⟩
 ·have HN:=zhy (rdC_bad hN (by decide));clear hN;have hF1:=fun u2 u3 u4=>((((((h41.set (.slice none 0 0)).other (show (⟨w.heap.size+1+1,0,none⟩:Addr).block≠w.heap.size from by simp;omega) u2).set (.slice none 0 0)).other (show (⟨w.heap.size+1,0,none⟩:Addr).block≠w.heap.size from by simp) u3).other (show (⟨w.heap.size+1+1,0,none⟩:Addr).block≠w.heap.size from by simp;omega) u4)).drew;have hF2:=fun u1 u2 u3 u4=>((((((h42.other (show (⟨w.heap.size,0,none⟩:Addr).block≠w.heap.size+1 from by simp) u1).other (show (⟨w.heap.size+1+1,0,none⟩:Addr).block≠w.heap.size+1 from by simp) u2).other (show (⟨w.heap.size,0,none⟩:Addr).block≠w.heap.size+1 from by simp) u3).set (.int .i64 q)).other (show (⟨w.heap.size+1+1,0,none⟩:Addr).block≠w.heap.size+1 from by simp) u4)).drew;have hF3:=fun u1 u2 u3 u4=>((((((h43.other (show (⟨w.heap.size,0,none⟩:Addr).block≠w.heap.size+1+1 from by simp;omega) u1).set u2).other (show (⟨w.heap.size,0,none⟩:Addr).block≠w.heap.size+1+1 from by simp;omega) u3).other (show (⟨w.heap.size+1,0,none⟩:Addr).block≠w.heap.size+1+1 from by simp) u4).set (.int .i64 40))).drew;have HF1:=zhy hF1;have HF2:=zhy hF2;have HF3:=zhy hF3
  have HBF:Hid (∀u1 u2 u3 u4 u5:Value,Below w.heap.size w (((((w5.setCell ⟨w.heap.size,0,none⟩ u1).setCell ⟨w.heap.size+1+1,0,none⟩ u2).setCell ⟨w.heap.size,0,none⟩ u3).setCell ⟨w.heap.size+1,0,none⟩ u4).setCell ⟨w.heap.size+1+1,0,none⟩ u5).drew):=
   fun u1 u2 u3 u4 u5=>(((((HB5.out.setCell (by simp) _).setCell (by simp;omega) _).setCell (by simp) _).setCell (by simp) _).setCell (by simp;omega) _).drew
  clear hF1 hF2 hF3;obtain ⟨-,a1,b1⟩:=h41;obtain ⟨-,a2,b2⟩:=h42;obtain ⟨-,a3,b3⟩:=h43;obtain ⟨-,q0,q1,q2,q3⟩:=hq;go_wp2_with fail;go_region;go_wp2_with fail;have g1:=HF1.out (.int .i64 40) (.int .i64 q) (.int .i64 40);have g2:=HF2.out (.slice none 0 0) (.int .i64 40) (.slice none 0 0) (.int .i64 40);have g3:=HF3.out (.slice none 0 0) (.int .i64 40) (.slice none 0 0) (.int .i64 q);have gB:=HBF.out (.slice none 0 0) (.int .i64 40) (.slice none 0 0) (.int .i64 q) (.int .i64 40);generalize (((((w5.setCell ⟨w.heap.size,0,none⟩ (.slice none 0 0)).setCell ⟨w.heap.size+1+1,0,none⟩ (.int .i64 40)).setCell ⟨w.heap.size,0,none⟩ (.slice none 0 0)).setCell ⟨w.heap.size+1,0,none⟩ (.int .i64 q)).setCell ⟨w.heap.size+1+1,0,none⟩ (.int .i64 40)).drew=wF at *;refine leaves_cons (f:=225) (args:=#[.pointer (some ⟨w.heap.size+1+1,0,none⟩),.pointer (some ⟨w.heap.size,0,none⟩),.pointer (some ⟨w.heap.size+1,0,none⟩)]) (by simp) (by simp [go_sem]) ?_
  have HC:Hid (∀w'',w''=(wF.setCell ⟨w.heap.size,0,none⟩ (.slice none 0 0)).setCell ⟨w.heap.size+1,0,none⟩ (.int .i64 0)→w''.cell? ⟨w.heap.size,0,none⟩=some (.slice none 0 0)∧w''.cell? ⟨w.heap.size+1,0,none⟩=some (.int .i64 0)∧w''.cell? ⟨w.heap.size+1+1,0,none⟩=some (.int .i64 40)∧Below w.heap.size w w''):=by
   rintro w'' rfl;exact ⟨((g1.set _).other (by simp) _).2.1,((g2.other (by simp) _).set _).2.1,((g3.other (by simp;omega) _).other (by simp) _).2.1,(gB.setCell (by simp) _).setCell (by simp) _⟩
  refine (shut_err _ _ _ 40 _ _ _ g3.2.1 g1.2.1 g2.2.1 g1.2.2 g2.2.2 (by simp) (by decide)).mono ?_;rintro e u' w'' ⟨rfl,rfl,hw⟩;obtain ⟨c1,c2,c3,hbl⟩:=HC.out _ hw;clear hw HC;have HBL:=zhy hbl;clear hbl;simp [Leaves,settle,results,Tryz.results190,go_sem,c1,c2,c3,HN.out];exact ⟨none,0,⟨rfl,rfl⟩,Ri.none_ _,World.ownsRow_nil _ _ _ _,HBL.out⟩
 ·have HN:=zhy hN;clear hN;have hF1:=fun u2 u3 u4=>((((((h41.set (.slice A' L.length c')).other (show (⟨w.heap.size+1+1,0,none⟩:Addr).block≠w.heap.size from by simp;omega) u2).set (.slice A' L.length c')).other (show (⟨w.heap.size+1,0,none⟩:Addr).block≠w.heap.size from by simp) u3).other (show (⟨w.heap.size+1+1,0,none⟩:Addr).block≠w.heap.size from by simp;omega) u4)).drew;have hF2:=fun u1 u2 u3 u4=>((((((h42.other (show (⟨w.heap.size,0,none⟩:Addr).block≠w.heap.size+1 from by simp) u1).other (show (⟨w.heap.size+1+1,0,none⟩:Addr).block≠w.heap.size+1 from by simp) u2).other (show (⟨w.heap.size,0,none⟩:Addr).block≠w.heap.size+1 from by simp) u3).set (.int .i64 q)).other (show (⟨w.heap.size+1+1,0,none⟩:Addr).block≠w.heap.size+1 from by simp) u4)).drew;have hF3:=fun u1 u2 u3 u4=>((((((h43.other (show (⟨w.heap.size,0,none⟩:Addr).block≠w.heap.size+1+1 from by simp;omega) u1).set u2).other (show (⟨w.heap.size,0,none⟩:Addr).block≠w.heap.size+1+1 from by simp;omega) u3).other (show (⟨w.heap.size+1,0,none⟩:Addr).block≠w.heap.size+1+1 from by simp) u4).set (.int .i64 0))).drew;have HF1:=zhy hF1;have HF2:=zhy hF2;have HF3:=zhy hF3
  have HBF:Hid (∀u1 u2 u3 u4 u5:Value,Below w.heap.size w (((((w5.setCell ⟨w.heap.size,0,none⟩ u1).setCell ⟨w.heap.size+1+1,0,none⟩ u2).setCell ⟨w.heap.size,0,none⟩ u3).setCell ⟨w.heap.size+1,0,none⟩ u4).setCell ⟨w.heap.size+1+1,0,none⟩ u5).drew):=
   fun u1 u2 u3 u4 u5=>(((((HB5.out.setCell (by simp) _).setCell (by simp;omega) _).setCell (by simp) _).setCell (by simp) _).setCell (by simp;omega) _).drew
  clear hF1 hF2 hF3;obtain ⟨-,a1,b1⟩:=h41;obtain ⟨-,a2,b2⟩:=h42;obtain ⟨-,a3,b3⟩:=h43;obtain ⟨-,q0,q1,q2,q3⟩:=hq;have hlen:=hri.len
  have HOW0:Hid (∀u1 u2 u3 u4 u5:Value,(((((w5.setCell ⟨w.heap.size,0,none⟩ u1).setCell ⟨w.heap.size+1+1,0,none⟩ u2).setCell ⟨w.heap.size,0,none⟩ u3).setCell ⟨w.heap.size+1,0,none⟩ u4).setCell ⟨w.heap.size+1+1,0,none⟩ u5).drew.ownsRow w.heap.size 57 3 (.slice A' L.length c') L.length (cei L)):=by
   intro u1 u2 u3 u4 u5;have l0:(⟨w.heap.size,0,none⟩:Addr).block<w4.heap.size:=by show w.heap.size<_;omega
   have l1:(⟨w.heap.size+1,0,none⟩:Addr).block<w4.heap.size:=by show w.heap.size+1<_;omega
   have l2:(⟨w.heap.size+1+1,0,none⟩:Addr).block<w4.heap.size:=by show w.heap.size+1+1<_;omega
   exact own_base (own_below (ownsRow_setCell_below (ownsRow_setCell_below (ownsRow_setCell_below (ownsRow_setCell_below (ownsRow_setCell_below how l0 u1) l2 u2) l0 u3) l1 u4) l2 u5) (below_draws (Below.refl _ _) 1) (Nat.le_refl _)) (by omega)
  have HRI0:Hid (∀u1 u2 u3 u4 u5:Value,Ri (((((w5.setCell ⟨w.heap.size,0,none⟩ u1).setCell ⟨w.heap.size+1+1,0,none⟩ u2).setCell ⟨w.heap.size,0,none⟩ u3).setCell ⟨w.heap.size+1,0,none⟩ u4).setCell ⟨w.heap.size+1+1,0,none⟩ u5).drew A' c' L):=by
   intro u1 u2 u3 u4 u5;subst hAg;have h1:=hri.other (p:=⟨w.heap.size,0,none⟩) (by simp;omega) u1;have h2:=h1.other (p:=⟨w.heap.size+1+1,0,none⟩) (by simp;omega) u2;have h3:=h2.other (p:=⟨w.heap.size,0,none⟩) (by simp;omega) u3;have h4:=h3.other (p:=⟨w.heap.size+1,0,none⟩) (by simp;omega) u4;have h5:=h4.other (p:=⟨w.heap.size+1+1,0,none⟩) (by simp;omega) u5;exact h5.drew1
  clear hri hAg how;go_wp2_with fail;go_region;go_wp2_with fail;have g1:=HF1.out (.int .i64 0) (.int .i64 q) (.int .i64 0);have g2:=HF2.out (.slice A' L.length c') (.int .i64 0) (.slice A' L.length c') (.int .i64 0);have g3:=HF3.out (.slice A' L.length c') (.int .i64 0) (.slice A' L.length c') (.int .i64 q);have HRI:=zhy (HRI0.out (.slice A' L.length c') (.int .i64 0) (.slice A' L.length c') (.int .i64 q) (.int .i64 0));have HOW:=zhy (HOW0.out (.slice A' L.length c') (.int .i64 0) (.slice A' L.length c') (.int .i64 q) (.int .i64 0));clear HRI0 HOW0;have gB:=HBF.out (.slice A' L.length c') (.int .i64 0) (.slice A' L.length c') (.int .i64 q) (.int .i64 0);generalize (((((w5.setCell ⟨w.heap.size,0,none⟩ (.slice A' L.length c')).setCell ⟨w.heap.size+1+1,0,none⟩ (.int .i64 0)).setCell ⟨w.heap.size,0,none⟩ (.slice A' L.length c')).setCell ⟨w.heap.size+1,0,none⟩ (.int .i64 q)).setCell ⟨w.heap.size+1+1,0,none⟩ (.int .i64 0)).drew=wF at *;refine leaves_cons (f:=225) (args:=#[.pointer (some ⟨w.heap.size+1+1,0,none⟩),.pointer (some ⟨w.heap.size,0,none⟩),.pointer (some ⟨w.heap.size+1,0,none⟩)]) (by simp) (by simp [go_sem]) ?_;refine (shut_ok _ _ _ _ g3.2.1).mono ?_;rintro e u' w'' ⟨rfl,rfl,rfl⟩;have c1:=g1.2.1;have c2:=g2.2.1;have c3:=g3.2.1;have HBL:=zhy gB;clear gB g1 g2 g3;simp [Leaves,settle,results,Tryz.results190,go_sem,c1,c2,c3,HN.out];exact ⟨A',c',⟨rfl,rfl⟩,HRI.out,HOW.out,HBL.out⟩
end Go.Proofs.YtnjgkkoiamiaaaaGreatDoor
