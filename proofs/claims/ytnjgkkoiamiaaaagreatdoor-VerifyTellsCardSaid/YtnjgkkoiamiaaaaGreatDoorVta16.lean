import Derived.Test.YtnjgkkoiamiaaaaGreatDoorVta1
import Derived.Test.YtnjgkkoiamiaaaaGreatDoorVta7
import Derived.Test.YtnjgkkoiamiaaaaGreatDoorVta14
import Derived.Maps.AppendAt
import Derived.Test.YtnjgkkoiamiaaaaGreatDoorVta6
import Derived.Test.YtnjgkkoiamiaaaaGreatDoorVta10
import Derived.Sort.OwnSortedInts
import Derived.Lib.RowBridge
import Derived.Test.YtnjgkkoiamiaaaaGreatDoorVta8
import Derived.RangeFuncLeaves
import Derived.RangeFuncCalls
import Derived.RangeFuncRecord
import Derived.Shelf.Abstract
import Derived.Shelf.RegionOpen
import Derived.OwnWalkIn
import Derived.TacticsInMore
import Derived.LoopNIn
import Derived.LoopIn
set_option maxRecDepth 100000
set_option maxHeartbeats 16000000
set_option linter.unusedSimpArgs false
set_option linter.unusedVariables false
namespace Go.Proofs.YtnjgkkoiamiaaaaGreatDoor
open Go.RowKit
theorem zdx {w:World} {base e n:Nat} {v:Value} {xs:List Value} (h:w.ownsRow base e 1 v n xs) (hn:0<n):∃g c,v=.slice (some ⟨g,0,none⟩) n c:=by
 rcases h.2 with ⟨_,h0⟩ | ⟨g,cap,cur,hv,_⟩
 ·omega
 ·exact ⟨g,cap,hv⟩
theorem zbp {A:Option Addr} {n c j:Nat} (h:some j=(Value.slice A n c).ownBlock):zie A j:=by
 cases A with
 | none=>cases h
 | some ad=>exact ⟨ad,rfl,by injection h⟩
theorem _root_.Go.Boxed.drew11 {w:World} {B t:Nat} {v:Value} (h:Boxed w B t v):Boxed w.drew B t v:=h
theorem zc6 (w:World) (S ty:TypeId) (hS:Tryz.prog.underlying S=some (.slice 3)) (base:Nat) (v:Value) (n:Nat) (K0:List Int) (hown:w.ownsRow base 3 1 v n (ci9 K0))
  (ad:Addr) (y:Int) (hc:w.cell? (ad.add 0)=some (.int .i64 y)) (hb:n+1≤1000000) (hbase:base≤w.heap.size) :
  ∃g' c' w',(Builtin.append_ #[S,S] ty #[v,.slice (some ad) 1 1]).run Tryz.prog w=.ok (.slice (some ⟨g',0,none⟩) (n+1) c') w'∧w'.ownsRow base 3 1 (.slice (some ⟨g',0,none⟩) (n+1) c') (n+1) (ci9 (K0++[y]))∧w.grownBy w' v.ownBlock∧(v.ownBlock=some g'∨g'=w.heap.size):=by
 have hinfo:=Tryz.infoN;rw [Option.map_eq_some_iff] at hinfo;obtain ⟨i,hi,hz⟩:=hinfo;simp only [Prod.mk.injEq] at hz;obtain ⟨hz0,hz1,hz2⟩:=hz
 obtain ⟨v',w',hr',h2,h3,h4,h5⟩:=run_append_own_at (P:=Tryz.prog) w base S ty 3 i _ 1 8 hS hi hz0 hz1 hz2 rfl (by decide) v n (ci9 K0) hown ad 1 1 (ci9 [y]) (by simp [ci9]) (fun j u hj=>by
  match j,hj with
  | 0,hj =>
   simp [ci9] at hj;subst hj;exact hc) (zhi [y]) (by unfold maxLen;omega) (by omega) hbase
 obtain ⟨g',c',rfl⟩:=zdx h2 (by omega)
 exact ⟨g',c',w',hr',by rw [ci9,List.map_append];exact h2,h3,by
  rcases h5 with h5 | h5
  ·exact .inl h5.symm
  ·injection h5 with h5;exact .inr h5⟩
theorem zf2 {w:World} {ops:Array Oper} {o:Oper} {a:Act} {K:Act→World→Prop} {Q:Exit→Act→World→Prop} {E:Prop} (hgd:o.guard=none) (s x:Operand) (S:TypeId) (hS:Tryz.prog.underlying S=some (.slice 3))
  (ho:o.op=.call { callee:=.builtin .append,args:=#[s,x],argTypes:=#[S,S]})
  (base:Nat) (v:Value) (n:Nat) (K0:List Int) (hs:a.eval s=v) (hown:w.ownsRow base 3 1 v n (ci9 K0))
  (ad:Addr) (y:Int) (hx:a.eval x=.slice (some ad) 1 1) (hc:w.cell? (ad.add 0)=some (.int .i64 y)) (hb:n+1≤1000000) (hbase:base≤w.heap.size)
  (h:∀g' c' w',w'.ownsRow base 3 1 (.slice (some ⟨g',0,none⟩) (n+1) c') (n+1) (ci9 (K0++[y]))→w.grownBy w' v.ownBlock→(v.ownBlock=some g'∨g'=w.heap.size)→K (a.put o.dst (.slice (some ⟨g',0,none⟩) (n+1) c')) w') :
  if Region.wanted o (yielded ops a.tmps)=true then Oper.wp Tryz.prog o a w K Q else E:=by
 have hw:Region.wanted o (yielded ops a.tmps)=true:=by simp [Region.wanted,hgd]
 rw [if_pos hw];obtain ⟨g',c',w',hr,h2,h3,h4⟩:=zc6 w S o.type hS base v n K0 hown ad y hc hb hbase;unfold Oper.wp;simp [execOp,ho,resolve,invoke,builtin,hs,hx,hr,Result.andThen];exact h g' c' w' h2 h3 h4
theorem zaq {w:World} {ops:Array Oper} {rest:List Oper} {o:Oper} {a:Act} {Q:Exit→Act→World→Prop} (hgd:o.guard=none) (s x:Operand) (S:TypeId) (hS:Tryz.prog.underlying S=some (.slice 3))
  (ho:o.op=.call { callee:=.builtin .append,args:=#[s,x],argTypes:=#[S,S]})
  (base:Nat) (v:Value) (n:Nat) (K0:List Int) (hs:a.eval s=v) (hown:w.ownsRow base 3 1 v n (ci9 K0))
  (ad:Addr) (y:Int) (hx:a.eval x=.slice (some ad) 1 1) (hc:w.cell? (ad.add 0)=some (.int .i64 y)) (hb:n+1≤1000000) (hbase:base≤w.heap.size)
  (h:∀g' c' w',w'.ownsRow base 3 1 (.slice (some ⟨g',0,none⟩) (n+1) c') (n+1) (ci9 (K0++[y]))→w.grownBy w' v.ownBlock→(v.ownBlock=some g'∨g'=w.heap.size)→wpList Tryz.prog ops Q rest (a.put o.dst (.slice (some ⟨g',0,none⟩) (n+1) c')) w') :
  wpList Tryz.prog ops Q (o::rest) a w:=by
 obtain ⟨g',c',w',hr,h2,h3,h4⟩:=zc6 w S o.type hS base v n K0 hown ad y hc hb hbase;refine wpList_plain hgd fun K hK=>?_;unfold Oper.wp;simp [execOp,ho,resolve,invoke,builtin,hs,hx,hr,Result.andThen];exact hK _ _ (h g' c' w' h2 h3 h4)
theorem zqu {w:World} {base e n m:Nat} {A:Option Addr} {c:Nat} {xs:List Value} (h:w.ownsRow base e 1 (.slice A n c) n xs) (hm:m≤n):w.ownsRow base e 1 (.slice A m c) m (xs.take m):=by
 obtain ⟨h1,h2⟩:=h;refine ⟨by rw [List.length_take,h1];omega,?_⟩;rcases h2 with ⟨h2,h0⟩ | ⟨g,cap,cur,hv,hg,hh,h3,h4,h5,h6⟩
 ·left;injection h2 with e1 e2 e3;obtain rfl:m=0:=by omega
  rw [e1,e3];exact ⟨rfl,rfl⟩
 ·injection hv with e1 e2 e3;subst e1 e3;refine .inr ⟨g,c,cur,rfl,hg,hh,by omega,h4,h5,?_⟩;rw [←h6,List.take_take];congr 1;omega
theorem qe8 (x:Int) (w:World):(Instr.makeInterface 3 (.int .i64 x)).run Tryz.prog w=.ok (.iface 3 (.int .i64 x)) w:=by kernel_rfl
theorem qfa (x:Int) (w:World):(Instr.typeAssert (.iface 3 (.int .i64 x)) 20 3 false).run Tryz.prog w=.ok (.int .i64 x) w:=by kernel_rfl
theorem zov (N B n c:Nat) (A:Option Addr) (l:List Int) (x:Int) (w:World) (h:zc2 w N B A c l) (hl:l.length=n) (hn:n<100000) (hN:N≤w.heap.size):Calls Tryz.prog 276 #[.pointer (some ⟨B,0,none⟩),.iface 3 (.int .i64 x)] w fun e w'=>e=.returned (.tuple #[])∧∃g' c',zc2 w' N B (some ⟨g',0,none⟩) c' (l++[x])∧zv (fun k=>k=B∨zie A k) w w'∧(zie A g'∨w.heap.size≤g'):=by
 have hbx:=h.box;have hox:=h.own;rw [hl] at hbx hox;have HB:=zhy hbx;have HLN:=zhy hl;have HB0:Hid (Boxed w.drew B 240 (.slice A n c))∧w.drew.cell? ⟨B,0,none⟩=some (.slice A n c):=⟨zhy hbx.drew11,hbx.drew11.cell⟩;have HO1:Hid ((w.drew.alloc (.cells #[.int .i64 x] 3)).ownsRow N 3 1 (.slice A n c) n (ci9 l)):=zhy (hox.drew.alloc _);have hc1:(w.drew.alloc (.cells #[.int .i64 x] 3)).cell? ((⟨w.heap.size,0,none⟩:Addr).add 0)=some (.int .i64 x):=by simp [go_sem,Addr.add]
 have HF1:Hid (zv (fun k=>k=B∨zie A k) w (w.drew.alloc (.cells #[.int .i64 x] 3))):=zhy (((zv.refl _ w).drewN 1).alloc _);have HNR:=zhy (Boxed.not_row hbx (by decide) hox);clear hbx hox h hl;have hta:=qfa x;go_enter Tryz.func276,Tryz.ntmps276;refine zu [11] (S:=fun w'=>Hid (Boxed w' B 240 (.slice A n c))∧w'.cell? ⟨B,0,none⟩=some (.slice A n c)) (by kernel_rfl) (HB0) (fun hHeld=>?_);refine qd (i:=0) (v:=?_) rfl (by kernel_rfl) (fun _ _ _ h=>h) (Or.inl ⟨by rfl,?_⟩) (Or.inr (by assumption)) ?_;rotate_left 1
 ·intro w _;go_simp;try with_reducible rfl
 (try simp only [Act.put,zg1,zg2,zg3,zg4,zg5,zg6]);refine qd (i:=1) (v:=?_) rfl (by kernel_rfl) (fun _ _ _ h=>h) (Or.inl ⟨by rfl,?_⟩) (Or.inr (by assumption)) ?_;rotate_left 1
 ·intro w _;go_simp;try with_reducible rfl
 (try simp only [Act.put,zg1,zg2,zg3,zg4,zg5,zg6]);refine qd (i:=2) (v:=?_) rfl (by kernel_rfl) (fun _ _ _ h=>h) (Or.inl ⟨by rfl,?_⟩) (Or.inr (by assumption)) ?_;rotate_left 1
 ·intro w _;go_simp;try with_reducible rfl
 (try simp only [Act.put,zg1,zg2,zg3,zg4,zg5,zg6]);refine qd (i:=3) (v:=?_) rfl (by kernel_rfl) (fun _ _ _ h=>h) (Or.inl ⟨by rfl,?_⟩) (Or.inr (by assumption)) ?_;rotate_left 1
 ·intro w _;go_simp;try with_reducible rfl
 (try simp only [Act.put,zg1,zg2,zg3,zg4,zg5,zg6]);refine qq (i:=4) (v:=?_) rfl (by kernel_rfl) (fun _ _ _ h=>h) (Or.inl ⟨by rfl,?_⟩) (by assumption) ?_;rotate_left 1
 ·intro w hSw;(try dsimp only at hSw);obtain ⟨-,s0⟩:=hSw;go_simp;try with_reducible rfl
 (try simp only [Act.put,zg1,zg2,zg3,zg4,zg5,zg6]);refine qd (i:=5) (v:=?_) rfl (by kernel_rfl) (fun _ _ _ h=>h) (Or.inl ⟨by rfl,?_⟩) (Or.inr (by assumption)) ?_;rotate_left 1
 ·intro w _;go_simp;try with_reducible rfl
 (try simp only [Act.put,zg1,zg2,zg3,zg4,zg5,zg6]);refine qd (i:=6) (v:=?_) rfl (by kernel_rfl) (fun _ _ _ h=>h) (Or.inl ⟨by rfl,?_⟩) (Or.inr (by assumption)) ?_;rotate_left 1
 ·intro w _;go_simp;try with_reducible rfl
 (try simp only [Act.put,zg1,zg2,zg3,zg4,zg5,zg6]);refine qp (rs:=[7]) (by kernel_rfl) (by simp) ?_;refine zad.cons rfl (fun K hK=>?_) zad.nil;go_simp;go_simp;go_wp2_with fail;refine hK.out _ _ (⟨zhy ((HB.o.drew11).alloc _),(HB.o.drew11.alloc _).cell⟩) (fun hHeld=>?_);clear hK K;(try simp only [Act.put,zg1,zg2,zg3,zg4,zg5,zg6]);refine qp (rs:=[8]) (by kernel_rfl) (by simp) ?_;refine zad.cons rfl (fun K hK=>?_) zad.nil;refine zf2 rfl (.tmp 8) (.tmp 11) 238 Tryz.underlying238 rfl N _ n l rfl HO1.o _ x rfl hc1 (by omega) (by simp;omega) ?_;intro g' c' w9 ho hg hl;have HO9:=zhy ho;have HF9:Hid (zv (fun k=>k=B∨zie A k) w w9):=zhy ((HF1.o).trans (zv.of_grown (X:=zie A) hg (fun j e=>zbp e)) fun _ _ h=>.inr h)
 have HL9:Hid (zie A g'∨w.heap.size≤g'):=zhy (by
  rcases hl with hl | hl
  ·exact .inl (zbp hl.symm)
  ·exact .inr (by rw [hl];simp))
 have HB9:Hid (Boxed w9 B 240 (.slice A n c)):=zhy ((HB.o.drew11.alloc _).kept hg HNR.o);have hb9:=HB9.o.cell;have hf9:=HB9.o.frozen;clear ho hg hl;refine hK.out _ _ (⟨HB9,hb9⟩) (fun hHeld=>?_);clear hK K;(try simp only [Act.put,zg1,zg2,zg3,zg4,zg5,zg6]);refine qd (i:=9) (v:=?_) rfl (by kernel_rfl) (fun _ _ _ h=>h) (Or.inl ⟨by rfl,?_⟩) (Or.inr (by assumption)) ?_;rotate_left 1
 ·intro w _;go_simp;try with_reducible rfl
 (try simp only [Act.put,zg1,zg2,zg3,zg4,zg5,zg6]);refine qd (i:=10) (v:=?_) rfl (by kernel_rfl) (fun _ _ _ h=>h) (Or.inl ⟨by rfl,?_⟩) (Or.inr (by assumption)) ?_;rotate_left 1
 ·intro w _;go_simp;try with_reducible rfl
 (try simp only [Act.put,zg1,zg2,zg3,zg4,zg5,zg6]);refine qp (rs:=[11]) (by kernel_rfl) (by simp) ?_;refine zad.late rfl (by kernel_rfl) (fun K hK=>?_) zad.nil;go_simp;refine hK.out _ _ ?_;clear hK K;(try simp only [Act.put,zg1,zg2,zg3,zg4,zg5,zg6]);refine jm (by kernel_rfl) ?_ _;have HOF:=zhy (zt HO9.o (k:=1) (B:=B) (t:=240) ⟨_,HB9.o,rfl⟩ (by decide) 0 (.slice (some ⟨g',0,none⟩) (n+1) c'));have HBF:=zhy (HB9.o.set (.slice (some ⟨g',0,none⟩) (n+1) c'));have HFF:=zhy (HF9.o.set (p:=⟨B,0,none⟩) (.inr (.inl rfl)) (.slice (some ⟨g',0,none⟩) (n+1) c'));have HLL:Hid ((l++[x]).length=n+1):=zhy (by rw [List.length_append,HLN.o];rfl);go_wp2_with fail;go_end0;exact ⟨rfl,g',c',⟨by rw [HLL.o];exact HBF.o,by rw [HLL.o];exact HOF.o⟩,HFF.o,HL9.o⟩
theorem zu4 (N B g c n:Nat) (l:List Int) (x:Int) (w:World) (h:zc2 w N B (some ⟨g,0,none⟩) c (l++[x])) (hl:l.length=n) (hn:n<100000):Calls Tryz.prog 275 #[.pointer (some ⟨B,0,none⟩)] w fun e w'=>e=.returned (.iface 3 (.int .i64 x))∧zc2 w' N B (some ⟨g,0,none⟩) c l∧zv (fun k=>k=B) w w':=by
 have hbx:=h.box;have hox:=h.own;have hll:(l++[x]).length=n+1:=by rw [List.length_append,hl];rfl
 rw [hll] at hbx hox;have b0:=hbx.cell;have b1:=hbx.frozen;have hx:(l++[x])[n]?=some x:=by rw [←hl];simp
 obtain ⟨ad,hA,y0⟩:=(Rn.of_own hox).1.at_ hx;injection hA with hA;subst hA
 have y0:w.cell? ⟨g,n,none⟩=some (.int .i64 x):=by
  by_cases e:n=0
  ·subst e;exact y0
  ·rw [←y0,Addr.add,if_neg e,Nat.zero_add]
 have hcap:=(Rn.of_own hox).1.1;rw [hll] at hcap
 have HOF:Hid (((w.setCell ⟨B,0,none⟩ (.slice (some ⟨g,0,none⟩) n c))).ownsRow N 3 1 (.slice (some ⟨g,0,none⟩) n c) n (ci9 l)):=by
  have:=zqu (zt hox (k:=1) (B:=B) (t:=240) ⟨_,hbx,rfl⟩ (by decide) 0 (.slice (some ⟨g,0,none⟩) n c)) (m:=n) (by omega);have e:(ci9 (l++[x])).take n=ci9 l:=by rw [ci9,List.map_append,List.take_left' (by rw [List.length_map,hl])];rfl
  rwa [e] at this
 have HBF:=zhy (hbx.set (.slice (some ⟨g,0,none⟩) n c));have HFF:=zhy ((zv.refl (fun k=>k=B) w).set (p:=⟨B,0,none⟩) (.inr rfl) (.slice (some ⟨g,0,none⟩) n c));have HLN:=zhy hl;have ew:((n:Int)+1-1)=(n:Int):=by omega
 have hmi:∀w,(Instr.makeInterface 3 (.int .i64 x)).run Tryz.prog w=.ok (.iface 3 (.int .i64 x)) w:=qe8 x;clear hbx hox hx hl h hll;go_enter Tryz.func275,Tryz.ntmps275;go_wp2_with fail;refine (zfp (some ⟨g,0,none⟩) (n+1) c w).mono ?_;rintro r w1 ⟨rfl,rfl⟩;go_wp2_with fail;go_ret;exact ⟨rfl,⟨by rw [HLN.o];exact HBF.o,by rw [HLN.o];exact HOF.o⟩,HFF.o⟩
theorem zjv (N B n c:Nat) (A:Option Addr) (l:List Int) (x:Int) (w:World) (h:zc2 w N B A c l) (hl:l.length=n) (hn:n<100000) (hN:N≤w.heap.size) (hp:zgs l n) :
  Calls Tryz.prog 161 #[.iface 237 (.pointer (some ⟨B,0,none⟩)),.iface 3 (.int .i64 x)] w fun e w'=>e=.returned (.tuple #[])∧∃g' c' l',zc2 w' N B (some ⟨g',0,none⟩) c' l'∧l'.Perm (l++[x])∧zgs l' (n+1)∧zv (fun k=>k=B∨zie A k) w w'∧(zie A g'∨w.heap.size≤g'):=by
 have HH:=zhy h;have HL:=zhy hl;have HP:=zhy hp;have HPU:=zhy (zov N B n c A l x w h hl hn hN);have hmp:=fun k=>zlc k B w;clear h hl hp;go_enter Tryz.func161,Tryz.ntmps161;go_wp2_with fail;refine HPU.o.mono ?_;rintro r w1 ⟨rfl,g',c',hb,hf,hg⟩;have HB:=zhy hb;have HF:=zhy hf;have HG:=zhy hg;have HLX:Hid ((l++[x]).length=n+1):=zhy (by rw [List.length_append,HL.o];rfl);have hml:=fun k=>zgd k B _ _ _ w1 HB.o.box.cell;rw [HLX.o] at hml;have HU:Hid (zoi (l++[x]) (n+1) n):=zhy (by rw [←HL.o];exact zoi.start (by rw [HL.o];exact HP.o));have HUP:=zhy (qau N B g' c' (n+1) n (l++[x]) w1 HB.o HLX.o (by omega) HU.o);have ew:((n:Int)+1-1)=(n:Int):=by omega
 clear hb hf hg hmp HPU;go_wp2_with fail;refine (zfp (some ⟨g',0,none⟩) (n+1) c' w1).mono ?_;rintro r w2 ⟨rfl,rfl⟩;go_wp2_with fail;refine HUP.o.mono ?_;rintro r w3 ⟨rfl,l',hb3,hp3,hh3,hf3⟩
 have HF3:Hid (zv (fun k=>k=B∨zie A k) w w3):=zhy (HF.o.trans hf3 fun j hj e=>by
  subst e;rcases HG.o with h | h
  ·exact .inr h
  ·omega)
 have HE:Hid (zc2 w3 N B (some ⟨g',0,none⟩) c' l'∧l'.Perm (l++[x])∧zgs l' (n+1)):=zhy ⟨hb3,hp3,hh3⟩;clear hb3 hp3 hh3 hf3;go_wp2_with fail;go_end0;exact ⟨rfl,g',c',l',HE.o.1,HE.o.2.1,HE.o.2.2,HF3.o,HG.o⟩
theorem zjn {l:List Int} {n:Nat} (h:l.length=n+1):∃l' x,l=l'++[x]∧l'.length=n∧x=g11 l n:=by
 refine ⟨l.take n,g11 l n,?_,by rw [List.length_take];omega,rfl⟩;have h1:l.take (n+1)=l:=List.take_of_length_le (by omega);rw [List.take_add_one,zbn (by omega)] at h1;exact h1.symm
theorem zui (N B g c n:Nat) (l:List Int) (w:World) (h:zc2 w N B (some ⟨g,0,none⟩) c l) (hl:l.length=n+1) (hn:n<100000) (hp:zgs l (n+1)) :
  Calls Tryz.prog 164 #[.iface 237 (.pointer (some ⟨B,0,none⟩))] w fun e w'=>∃x l',e=.returned (.iface 3 (.int .i64 x))∧zc2 w' N B (some ⟨g,0,none⟩) c l'∧(x::l').Perm l∧l'.length=n∧zgs l' n∧(∀y∈l,x≤y)∧zv (fun k=>k=B∨k=g) w w':=by
 have HH:=zhy h;have HL:=zhy hl;have HP:=zhy hp;have HO:=zhy h.own;rw [hl] at HO;have hml:=fun k=>zgd k B _ _ _ w h.box.cell;have hms:=fun k=>zae k B _ _ _ w h.box.cell;rw [hl] at hml hms;have HSW:=zhy (zda N g c (n+1) 0 n l w HO.o (by omega) (by omega));have HD:Hid (zke (zcs l 0 n) n 0):=zhy (zke.start (by rw [hl];exact hp) hl)
 have HM:Hid (∀y∈l,g11 l 0≤y):=zhy fun y hy=>by
  obtain ⟨k,hk⟩:=List.getElem?_of_mem hy;have h1:=(zg8.1 hk).1;have h2:=hp.least k (by omega);rw [zbn h1] at hk;injection hk with hk;omega
 have ew:((n:Int)+1-1)=(n:Int):=by omega
 clear h hl hp;go_enter Tryz.func164,Tryz.ntmps164;go_wp2_with fail;refine (zfp (some ⟨g,0,none⟩) (n+1) c w).mono ?_;rintro r w2 ⟨rfl,rfl⟩;go_wp2_with fail;refine HSW.o.mono ?_;rintro r w3 ⟨rfl,ho,hf⟩;have HB3:Hid (zc2 w3 N B (some ⟨g,0,none⟩) c (zcs l 0 n)):=zhy ⟨by rw [je];exact hf.box HH.o.box (fun e=>Boxed.not_row HH.o.box (by decide) HH.o.own (by rw [e];rfl)),by rw [je,HL.o];exact ho⟩;have HF3:=zhy hf;have HDN:=zhy (ztz N B g c n (n+1) (zcs l 0 n) w3 HB3.o (je.trans HL.o) (by omega) (by omega) HD.o);clear ho hf HSW hml hms;go_wp2_with fail;refine HDN.o.mono ?_;rintro r w4 ⟨b,rfl,l',hb4,hp4,hh4,he4,hf4⟩;obtain ⟨l2,x,rfl,hl2,hx⟩:=zjn (l:=l') (n:=n) (hp4.length_eq.trans (je.trans HL.o));have HX:Hid (x=g11 l 0):=zhy (by rw [hx,he4 n (Nat.le_refl _),zfh (by rw [HL.o];omega) (by rw [HL.o];omega),if_pos rfl]);have HPM:Hid ((x::l2).Perm l):=zhy ((List.perm_append_singleton x l2).symm.trans (hp4.trans (zbv (by rw [HL.o];omega) (by rw [HL.o];omega))))
 have HHP:Hid (zgs l2 n):=zhy fun i h0 hi=>by
  have:=hh4 i h0 hi;rwa [g11,g11,List.getElem?_append_left (by omega),List.getElem?_append_left (by omega)] at this
 have HL2:=zhy hl2;have HB4:=zhy hb4;have HF4:Hid (zv (fun k=>k=B∨k=g) w w4):=zhy ((HF3.o.mono fun j h=>.inr h).trans hf4 fun _ _ h=>.inr h);have HPO:=zhy (zu4 N B g c n l2 x w4 hb4 hl2 hn);have hmp:=fun k=>znh k B w4;clear hb4 hp4 hh4 he4 hf4 hl2 hx HDN;go_wp2_with fail;refine HPO.o.mono ?_;rintro r w5 ⟨rfl,hb5,hf5⟩;have HB5:=zhy hb5;have HF5:Hid (zv (fun k=>k=B∨k=g) w w5):=zhy (HF4.o.trans hf5 fun _ _ h=>.inl h);clear hb5 hf5 HPO hmp;go_wp2_with fail;go_ret;exact ⟨x,l2,rfl,HB5.o,HPM.o,HL2.o,HHP.o,by rw [HX.o];exact HM.o,HF5.o⟩
theorem zue (A:Option Addr) (n c:Nat) (zs:List Int) (base:Nat) (w:World) (hn:zs.length=n) (ho:w.ownsRow base 3 1 (.slice A n c) n (ci9 zs)) (hb:base≤w.heap.size) (hs:n≤1000) :
  Calls Tryz.prog 114 #[.slice A n c] w fun r w'=>r=.returned (.tuple #[])∧w'.ownsRow base 3 1 (.slice A n c) n (ci9 (zs.mergeSort fun x y=>decide (x≤y)))∧Below base w w':=by
 subst hn;by_cases h0:zs=[]
 ·subst h0;refine (Tryz.slices_Sort_int_none A c w).mono ?_;rintro r w' ⟨rfl,rfl⟩;exact ⟨rfl,by simpa using ho,Below.refl _ _⟩
 ·have hpos:0<zs.length:=List.length_pos_iff.2 h0;have hlt:=fun g=>ho.lt g;rcases ho.2 with ⟨hv,h1⟩ | ⟨g,cap,cur,hv,hg,hh,h1,h2,h3,h4⟩
  ·omega
  ·injection hv with e1 e2 e3;subst e1 e3;rw [Nat.mul_one] at h4;have hl:(zs.mergeSort fun x y=>decide (x≤y)).length=zs.length:=List.length_mergeSort zs;refine (Tryz.slices_Sort_int g 0 c zs w (holds_of_blockI hh h4) (zg9.1 hh).1 (by omega)).mono ?_;rintro r w' ⟨rfl,q,os,rfl⟩;refine ⟨rfl,ownsRow_sortedI hl hg hh h1 h2 h3,(Below.refl _ _).grown (grownBy_sortedI _) hb fun k hk=>?_⟩;injection hk with hk;omega
theorem zlh (A:Option Addr) (n c:Nat) (zs:List Int) (base:Nat) (w:World) (hn:zs.length=n) (ho:w.ownsRow base 3 1 (.slice A n c) n (ci9 zs)) (hb:base≤w.heap.size) :
  Calls Tryz.prog 115 #[.slice A n c] w fun r w'=>r=.returned (.slice A (Lib.compact zs).length c)∧w'.ownsRow base 3 1 (.slice A (Lib.compact zs).length c) (Lib.compact zs).length (ci9 (Lib.compact zs))∧Below base w w':=by
 subst hn;by_cases h0:zs=[]
 ·subst h0;refine (Tryz.slices_Compact_int_empty A c w).mono ?_;rintro r w' ⟨rfl,rfl⟩;exact ⟨rfl,ho,Below.refl _ _⟩
 ·have hpos:0<zs.length:=List.length_pos_iff.2 h0;rcases ho.2 with ⟨hv,h1⟩ | ⟨g,cap,cur,hv,hg,hh,h1,h2,h3,h4⟩
  ·omega
  ·injection hv with e1 e2 e3;subst e1 e3;rw [Nat.mul_one] at h4;have hle:=Lib.compact_length_le zs;refine (Tryz.slices_Compact_int g 0 c zs w (holds_of_blockI hh h4) (by unfold maxLen at h2;omega) h1).mono ?_;rintro r w' ⟨rfl,q,rfl⟩;obtain ⟨ts,hts⟩:∃ts,Lib.compact zs++List.replicate (zs.length-(Lib.compact zs).length) 0=ts:=⟨_,rfl⟩;have htl:ts.length=zs.length:=by rw [←hts];simp;omega
   rw [hts];have hG:Sort.putRow (Value.int .i64) (Sort.ahead w q) g 0 ts.toArray=Sort.grow (Sort.putRow (Value.int .i64) (Sort.ahead w q) g 0 ts.toArray) #[]:=(Go.Sort.grow_empty _).symm;rw [hG];refine ⟨rfl,⟨by simp [ci9],.inr ⟨g,c,_,rfl,hg,heap_sortedI _ hh,by omega,h2,by simp [Sort.putCells,h3],?_⟩⟩,(Below.refl _ _).grown (grownBy_sortedI _) hb fun k hk=>?_⟩
   ·have h5:=take_putCellsI cur ts (by omega);have h6:=congrArg (List.take (Lib.compact zs).length) h5;rw [List.take_take,htl,Nat.min_eq_left hle,←List.map_take,←hts,List.take_append_of_le_length (Nat.le_refl _),List.take_length] at h6;rw [Nat.mul_one];rw [←hts];exact h6
   ·injection hk with hk;omega
theorem zgu:∀{l k:List Int},l.Pairwise (·<·)→k.Pairwise (·<·)→(∀x,x∈l↔x∈k)→l=k
 | [],[],_,_,_=>rfl
 | [],y::k,_,_,h=>absurd ((h y).2 (List.mem_cons_self ..)) (by simp)
 | x::l,[],_,_,h=>absurd ((h x).1 (List.mem_cons_self ..)) (by simp)
 | x::l,y::k,hl,hk,h=>by
  obtain ⟨h1,h2⟩:=List.pairwise_cons.1 hl;obtain ⟨h3,h4⟩:=List.pairwise_cons.1 hk
  have e:x=y:=by
   rcases List.mem_cons.1 ((h x).1 (List.mem_cons_self ..)) with e | e
   ·exact e
   ·rcases List.mem_cons.1 ((h y).2 (List.mem_cons_self ..)) with e' | e'
    ·exact e'.symm
    ·have:=h1 y e';have:=h3 x e;omega
  subst e;congr 1;refine zgu h2 h4 fun z=>⟨fun hz=>?_,fun hz=>?_⟩
  ·have:=h1 z hz;exact (List.mem_cons.1 ((h z).1 (List.mem_cons_of_mem _ hz))).resolve_left (by omega)
  ·have:=h3 z hz;exact (List.mem_cons.1 ((h z).2 (List.mem_cons_of_mem _ hz))).resolve_left (by omega)
theorem zyj {l:List Nat} (h:l.Pairwise (·<·)):(qx l).Pairwise (·<·):=by
 rw [qx,List.pairwise_map];exact h.imp fun h=>by omega
theorem zgw (f:Nat→Bool) (n:Nat):((List.range n).filter f).Pairwise (·<·):=List.Pairwise.filter _ List.pairwise_lt_range
theorem zvw (l:List Int):(l.mergeSort fun x y=>decide (x≤y)).Pairwise (·≤·):=by
 have:=List.pairwise_mergeSort (le:=fun x y:Int=>decide (x≤y)) (fun a b c h1 h2=>by simp at h1 h2 ⊢;omega) (fun a b=>by simp;omega) l;exact this.imp fun h=>by simpa using h
theorem zjg (l:List Int) (j:Nat):l.toArray[j]! = g11 l j:=by
 simp [g11]
theorem zw1 {l:List Int} (h:l.Pairwise (·≤·)) {i j:Nat} (hij:i≤j) (hj:j<l.length):g11 l i≤g11 l j:=by
 by_cases e:i=j
 ·rw [e];exact Int.le_refl _
 ·have:=List.pairwise_iff_getElem.1 h i j (by omega) hj (by omega);rw [g11,g11,zg7 hj,zg7 (by omega)];exact this
theorem zim {l:List Int} (h:l.Pairwise (·≤·)):(Lib.compact l).Pairwise (·<·):=by
 unfold Lib.compact Lib.compactUpTo;rw [List.pairwise_map];refine List.Pairwise.imp_of_mem ?_ (List.Pairwise.filter (Lib.keeps l.toArray) List.pairwise_lt_range);intro a b _ hb hab;obtain ⟨h1,h2⟩:=List.mem_filter.1 hb;have h1:=List.mem_range.1 h1;simp only [Lib.keeps,decide_eq_true_eq,zjg] at h2;rw [zjg,zjg];have h3:=h2.resolve_left (by omega);have h4:=zw1 h (i:=a) (j:=b-1) (by omega) (by omega);have h5:=zw1 h (i:=b-1) (j:=b) (by omega) (by omega);omega
theorem zgz {l:List Int} (x:Int):x∈Lib.compact l↔x∈l:=by
 unfold Lib.compact Lib.compactUpTo;simp only [List.mem_map,List.mem_filter,List.mem_range,zjg];constructor
 ·rintro ⟨j,⟨hj,-⟩,rfl⟩;exact List.mem_of_getElem? (zbn hj)
 ·intro hx;obtain ⟨j,hj⟩:=List.getElem?_of_mem hx;have hl:=(zg8.1 hj).1;have hg:g11 l j=x:=by rw [g11,hj];rfl
  clear hj;induction j with
  | zero=>exact ⟨0,⟨hl,by simp [Lib.keeps]⟩,hg⟩
  | succ j ih =>
   by_cases e:g11 l (j+1)=g11 l j
   ·exact ih (by omega) (by rw [←e,hg])
   ·exact ⟨j+1,⟨hl,by simp only [Lib.keeps,decide_eq_true_eq,zjg];exact .inr e⟩,hg⟩
theorem qbn {K:List Int} {f:Nat→Bool} {n:Nat} (h:∀x,x∈K↔∃j,j<n∧f j=true∧x=(j:Int)):Lib.compact (K.mergeSort fun x y=>decide (x≤y))=qx ((List.range n).filter f):=by
 refine zgu (zim (zvw K)) (zyj (zgw f n)) fun x=>?_;rw [zgz,List.mem_mergeSort,h];simp only [qx,List.mem_map,List.mem_filter,List.mem_range];exact ⟨fun ⟨j,h1,h2,h3⟩=>⟨j,⟨h1,h2⟩,h3.symm⟩,fun ⟨j,⟨h1,h2⟩,h3⟩=>⟨j,h1,h2,h3.symm⟩⟩
attribute [local go_sem] Oper.semAt_some
def zh8 (L:List Ins):List Int:=(L.filter fun x=>x.1==30).map fun x=>x.2.1
theorem ztt {L:List Ins} {x:Int}:x∈zh8 L↔zif L x=true:=by
 simp only [zh8,zif,List.mem_map,List.mem_filter,List.any_eq_true,Bool.and_eq_true,beq_iff_eq];exact ⟨fun ⟨a,⟨h1,h2⟩,h3⟩=>⟨a,h1,h2,h3⟩,fun ⟨a,h1,h2,h3⟩=>⟨a,⟨h1,h2⟩,h3⟩⟩
theorem zju {L:List Ins} {i:Nat} {x:Ins} (h:L[i]?=some x):zh8 (L.take (i+1))=zh8 (L.take i)++(if x.1==30 then [x.2.1] else []):=by
 rw [zh8,List.take_add_one,h,List.filter_append,List.map_append,←zh8];congr 1;cases hx:x.1==30<;>simp [hx]
theorem zl1 (L:List Ins):(zh8 L).length≤L.length:=by rw [zh8,List.length_map];exact List.length_filter_le _ _
theorem zje {L:List Ins} {i n:Nat} {x:Ins} (h:L[i]?=some x):za3 (L.take (i+1)) n=(za3 (L.take i) n||(x.1==30&&(decide (x.2.1<0)||decide ((n:Int)≤x.2.1)))):=by
 rw [za3,List.take_add_one,h,List.any_append,←za3];simp
theorem zl6 {L:List Ins} {i n:Nat} {x:Ins} (h:L[i]?=some x) (hb:(x.1==30&&(decide (x.2.1<0)||decide ((n:Int)≤x.2.1)))=true):za3 L n=true:=by
 rw [za3,List.any_eq_true];exact ⟨x,List.mem_of_getElem? h,hb⟩
structure zmr where
 a:Nat
 b:Nat
 e:Nat
 q:Nat
 s:Nat
 d:Nat
 r:Nat
 n:Nat
def zmr.ok (k:zmr):Prop:=k.a<k.b∧k.b<k.e∧k.e<k.q∧k.q<k.s∧k.s<k.d∧k.d<k.r∧k.r<k.n
structure zgh (k:zmr) (W:World) (x b e q s:Value) (lp:Loop):Prop where
 ba:Boxed W k.a 3 x
 bb:Boxed W k.b 59 b
 be:Boxed W k.e 31 e
 bq:Boxed W k.q 59 q
 bs:Boxed W k.s 48 s
 bd:W.heap[k.d]?=some (.deferred (some []))
 br:W.heap[k.r]?=some (.loop lp)
section
variable {k : zmr} {W W' : World} {x b e q s : Value} {lp : Loop}
theorem zgh.keep (h:zgh k W x b e q s lp) (hk:k.ok) (hb:Below k.n W W'):zgh k W' x b e q s lp:=by
 obtain ⟨k1,k2,k3,k4,k5,k6,k7⟩:=hk;obtain ⟨h1,h2,h3,h4,h5,h6,h7⟩:=h;exact ⟨(hb.block _ (by omega)).trans h1,(hb.block _ (by omega)).trans h2,(hb.block _ (by omega)).trans h3,(hb.block _ (by omega)).trans h4,(hb.block _ (by omega)).trans h5,(hb.block _ (by omega)).trans h6,(hb.block _ (by omega)).trans h7⟩
theorem zgh.setB (h:zgh k W x b e q s lp) (hk:k.ok) (v:Value):zgh k (W.setCell ⟨k.b,0,none⟩ v) x v e q s lp:=by
 obtain ⟨k1,k2,k3,k4,k5,k6,k7⟩:=hk;obtain ⟨h1,h2,h3,h4,h5,h6,h7⟩:=h;have o:=fun j (hj:j≠k.b)=>Below.heap_setCell W ⟨k.b,0,none⟩ v j hj;exact ⟨(o _ (by omega)).trans h1,h2.set _,(o _ (by omega)).trans h3,(o _ (by omega)).trans h4,(o _ (by omega)).trans h5,(o _ (by omega)).trans h6,(o _ (by omega)).trans h7⟩
theorem zgh.setE (h:zgh k W x b e q s lp) (hk:k.ok) (v:Value):zgh k (W.setCell ⟨k.e,0,none⟩ v) x b v q s lp:=by
 obtain ⟨k1,k2,k3,k4,k5,k6,k7⟩:=hk;obtain ⟨h1,h2,h3,h4,h5,h6,h7⟩:=h;have o:=fun j (hj:j≠k.e)=>Below.heap_setCell W ⟨k.e,0,none⟩ v j hj;exact ⟨(o _ (by omega)).trans h1,(o _ (by omega)).trans h2,h3.set _,(o _ (by omega)).trans h4,(o _ (by omega)).trans h5,(o _ (by omega)).trans h6,(o _ (by omega)).trans h7⟩
theorem zgh.setQ (h:zgh k W x b e q s lp) (hk:k.ok) (v:Value):zgh k (W.setCell ⟨k.q,0,none⟩ v) x b e v s lp:=by
 obtain ⟨k1,k2,k3,k4,k5,k6,k7⟩:=hk;obtain ⟨h1,h2,h3,h4,h5,h6,h7⟩:=h;have o:=fun j (hj:j≠k.q)=>Below.heap_setCell W ⟨k.q,0,none⟩ v j hj;exact ⟨(o _ (by omega)).trans h1,(o _ (by omega)).trans h2,(o _ (by omega)).trans h3,h4.set _,(o _ (by omega)).trans h5,(o _ (by omega)).trans h6,(o _ (by omega)).trans h7⟩
theorem zgh.putR (h:zgh k W x b e q s lp) (hk:k.ok) (p:Loop):zgh k (W.putObj k.r (.loop p)) x b e q s p:=by
 obtain ⟨k1,k2,k3,k4,k5,k6,k7⟩:=hk;obtain ⟨h1,h2,h3,h4,h5,h6,h7⟩:=h;have o:=fun j (hj:j≠k.r)=>World.putObj_heap_other (w:=W) (o:=.loop p) hj;exact ⟨(o _ (by omega)).trans h1,(o _ (by omega)).trans h2,(o _ (by omega)).trans h3,(o _ (by omega)).trans h4,(o _ (by omega)).trans h5,(o _ (by omega)).trans h6,World.putObj_heap_same (zg9.1 h7).1⟩
end
theorem zaf {B:Nat} {a w:World} (h:Below B a w) {r:Nat} (hr:B≤r) (o:Obj):Below B a (w.putObj r o):=by
 refine ⟨h.os,h.tape,h.output,?_,fun j hj=>?_⟩
 ·rw [World.putObj_size];exact h.size
 ·rw [World.putObj_heap_other (by omega)];exact h.block j hj
theorem zeu {W:World} {B e size n:Nat} {v:Value} {xs:List Value} (h:W.ownsRow B e size v n xs) {r:Nat} (hr:r<B) (o:Obj):(W.putObj r o).ownsRow B e size v n xs:=by
 refine h.kept (grownBy_putObj' W r o) ?_;cases hv:v.ownBlock with
 | none=>exact .inl rfl
 | some g=>exact .inr fun e=>by injection e with e;have:=(h.lt g hv).1;omega
def zk6 (k:zmr) (w:World) (L:List Ins) (n:Nat) (s:Value) (lp:Loop) (i:Nat) (W:World):Prop:=
 (∃A c m,zgh k W (.int .i64 n) (.slice none 0 0) (.int .i64 0) (.slice A m c) s lp∧W.ownsRow k.n 3 1 (.slice A m c) m (ci9 (zh8 (L.take i)))∧m=(zh8 (L.take i)).length)∧za3 (L.take i) n=false∧Below k.a w W∧k.n≤W.heap.size
def qc2 (k:zmr) (w:World) (L:List Ins) (n:Nat) (W:World) (st:LoopState) (j:Option Code):Prop:=
 (∃q s lp,zgh k W (.int .i64 n) (.slice none 0 0) (.int .i64 2) q s lp∧lp.state=st∧lp.pending=j)∧za3 L n=true∧Below k.a w W∧k.n≤W.heap.size
theorem zk6.keep {k:zmr} {w W W':World} {L:List Ins} {n i:Nat} {s:Value} {lp:Loop} (h:zk6 k w L n s lp i W) (hk:k.ok) (hb:Below W.heap.size W W'):zk6 k w L n s lp i W':=by
 obtain ⟨⟨A,c,m,hP,hO,hm⟩,h1,h2,h3⟩:=h;have hka:k.a≤W.heap.size:=by obtain ⟨_,_,_,_,_,_,_⟩:=hk;omega
 exact ⟨⟨A,c,m,hP.keep hk (hb.mono h3),qb hO hb (Nat.le_refl _),hm⟩,h1,h2.trans (hb.mono hka),Nat.le_trans h3 hb.size⟩
theorem zk6.skip {k:zmr} {w W:World} {L:List Ins} {n i:Nat} {s:Value} {lp:Loop} {x:Ins} (h:zk6 k w L n s lp i W) (hx:L[i]?=some x) (ho:(x.1==30)=false):zk6 k w L n s lp (i+1) W:=by
 obtain ⟨⟨A,c,m,hP,hO,hm⟩,h1,h2,h3⟩:=h;have e1:zh8 (L.take (i+1))=zh8 (L.take i):=by rw [zju hx,ho];simp
 exact ⟨⟨A,c,m,hP,by rw [e1];exact hO,by rw [e1];exact hm⟩,by rw [zje hx,h1,ho];rfl,h2,h3⟩
theorem zy1 (A:Option Addr) (m c:Nat) (w:World):Calls Tryz.prog 113 #[.slice A m c] w fun e w'=>e=.returned (.func (.func 172) #[] #[.pointer (some ⟨w.heap.size,0,none⟩)])∧w'=w.alloc (.cells #[.slice A m c] 48):=by
 have hmf:∀(fn:Fn) (first cap:Array Value) (w:World),(Instr.makeFunc fn first cap).run Tryz.prog w=.ok (.func fn first cap) w:=fun _ _ _ _=>rfl;go_enter Tryz.func113,Tryz.ntmps113;go_wp2_with fail;go_ret;exact ⟨rfl,rfl⟩
theorem zv6 (k:zmr) (hk:k.ok) (w:World) (L:List Ins) (n m N:Nat) (A:Option Addr) (c:Nat) (lp:Loop) (hr:Ri w A c L) (hm:L.length=m) (hm9:m≤1000) (hw:w.heap.size=k.a)
  (hY:∀i x W,L[i]?=some x→x.1=30→zk6 k w L n (.slice A m c) lp i W→YieldAt Fence.wide N Tryz.prog k.r #[.int .i64 x.2.1] W fun e W'=>(e=.returned (.bool true)∧zk6 k w L n (.slice A m c) lp (i+1) W')∨(e=.returned (.bool false)∧qc2 k w L n W' .done (some .ret)))
  (W0:World) (h0:zk6 k w L n (.slice A m c) lp 0 W0) :
  CallsIn Fence.wide (N+1) Tryz.prog 172 #[.func (.yield k.r) #[] #[],.pointer (some ⟨k.s,0,none⟩)] W0 fun e W'=>(∃v,e=.returned v)∧(zk6 k w L n (.slice A m c) lp m W'∨qc2 k w L n W' .done (some .ret)):=by
 refine callsIn_of_wp Tryz.func172 rfl trivial ?_ rfl;simp only [Tryz.ntmps172,List.size_toArray,List.length_cons,List.length_nil,Nat.reduceAdd,Nat.reduceSub,Array.replicate_succ,Array.replicate_zero,List.push_toArray,List.append_toArray,List.nil_append,List.cons_append];have HY:=zhy hY;have H0:=zhy h0;have HR:=zhy hr;have HM:=zhy hm;obtain ⟨⟨A0,c0,m0,hP,-,-⟩,-⟩:=h0;have hcell:=hP.bs.cell;have hfr:=hP.bs.frozen;have hHW:=zhy hw;clear hY hP hr hm hw;gi_wp2;clear hcell hfr;gi_loopw [7] (fun v wr=>∃i:Nat,i≤m∧v=.int .i64 i∧Hid (zk6 k w L n (.slice A m c) lp i wr)) (fun v _=>m-(intOf v).toNat)
 case atStart=>exact ⟨0,by omega,rfl,H0⟩
 case round =>
  clear H0;obtain ⟨i,hi,rfl,HI⟩:=hrel;by_cases h1:i<m
  ·obtain ⟨⟨o,a,z⟩,hx⟩:∃x,L[i]?=some x:=⟨_,zg7 (by rw [HM.o];exact h1)⟩;have HRW:=zhy (HR.o.keep (by rw [hHW.o];exact HI.o.2.2.1));obtain ⟨al,hA,y0,y1,y2⟩:=Ri.at9 HRW.o hx;subst hA;by_cases ho:o=30
   ·have e1:(o==30)=true:=by simpa using ho
    have HI3:=zhy (HI.o.keep hk (qh (a:=.cells #[.int .u8 o,.int .i64 a,.int .i64 z] 57)));obtain ⟨fn,tmps,assign,body,hy,hR3⟩:=HY.o i (o,a,z) _ hx ho HI3.o;dsimp only at hy hR3;have HR3:=zhy hR3;clear hR3 hx ho;gi_wp2;refine HR3.o.mono ?_;rintro e W3 (⟨rfl,hI3⟩ | ⟨rfl,hJ⟩)
    ·have HI4:=zhy hI3;clear hI3 HR3 hy HI3 y0 y1 y2;gi_wp2;go_roundw
     case rel=>exact ⟨i+1,by omega,by go_num,HI4⟩
     case measure=>simp [intOf];omega
    ·have HJ:=zhy hJ;clear hJ HR3 hy HI3 y0 y1 y2;gi_wp2;refine bodyPost_ret (results_none rfl _ _ _) rfl ?_;exact ⟨⟨_,rfl⟩,.inr HJ.o⟩
   ·have e1:(o==30)=false:=by simpa using ho
    have HI2:=zhy (HI.o.skip hx e1);clear ho;have HI3:=zhy (HI2.o.keep hk (qh (a:=.cells #[.int .u8 o,.int .i64 a,.int .i64 z] 57)));clear hx;gi_wp2;refine ⟨fun _ h=>(by cases h),?_⟩;gi_wp2;go_roundw
    case rel=>exact ⟨i+1,by omega,by go_num,HI3⟩
    case measure=>simp [intOf];omega
  ·obtain rfl:m=i:=by omega
   gi_wp2;go_end0;exact ⟨⟨_,rfl⟩,.inl HI.o⟩
def zm8 (L:List Ins) (n:Nat):List Int×Int:=if za3 L n=true then ([],2) else (qx ((List.range n).filter fun j=>zif L (j:Nat)),0)
theorem zf8 {k:zmr} (hk:k.ok) {w W:World} {L:List Ins} {n:Nat} {q s:Value} {lp:Loop} {a:Act} {A:Ending→World→Prop} (HP:zgh k W (.int .i64 n) (.slice none 0 0) (.int .i64 2) q s lp) (hB:Below k.a w W) (hn:k.n≤W.heap.size) (hS:za3 L n=true) :
  roundPost Tryz.prog k.r (fun e W'=>A e W'∨(e=.returned (.bool false)∧qc2 k w L n W' .done (some .ret))) .ret a W:=
 ⟨_,_,run_endRound (some .ret) HP.br,.inr ⟨rfl,⟨q,s,_,HP.putR hk _,rfl,rfl⟩,hS,zaf hB (by obtain ⟨_,_,_,_,_,_,_⟩:=hk;omega) _,by rw [World.putObj_size];exact hn⟩⟩
theorem zvj {lp:Loop} (h1:lp.state=.ready) (h2:lp.pending=none):({ lp with state:=if (none:Option Code).isNone=true then .ready else .done,pending:=none }:Loop)=lp:=by
 cases lp;simp at h1 h2 ⊢;exact ⟨h1.symm,h2.symm⟩
theorem zsj {k:zmr} (hk:k.ok) {w W:World} {L:List Ins} {n i:Nat} {lp:Loop} {a:Act} {B:Ending→World→Prop} {A:Option Addr} {m c:Nat} {s:Value} (h1:lp.state=.ready) (h2:lp.pending=none)
  (HP:zgh k W (.int .i64 n) (.slice none 0 0) (.int .i64 0) (.slice A m c) s { lp with state:=.busy }) (hO:W.ownsRow k.n 3 1 (.slice A m c) m (ci9 (zh8 (L.take i)))) (hm:m=(zh8 (L.take i)).length) (hb:za3 (L.take i) n=false) (hB:Below k.a w W) (hn:k.n≤W.heap.size) :
  roundPost Tryz.prog k.r (fun e W'=>(e=.returned (.bool true)∧zk6 k w L n s lp i W')∨B e W') .normal a W:=by
 refine ⟨_,_,run_endRound none HP.br,.inl ⟨rfl,⟨A,c,m,?_,zeu hO hk.2.2.2.2.2.2 _,hm⟩,hb,zaf hB (by obtain ⟨_,_,_,_,_,_,_⟩:=hk;omega) _,by rw [World.putObj_size];exact hn⟩⟩;rw [zvj h1 h2];exact HP.putR hk lp
theorem zpr {n:Nat} {P:Program} {g:Operand} {ps:Array Tmp} {assign body:Code} {Q:Exit→Act→World→Prop} {a:Act} {w:World} (gf:Nat) (lb:Array Value)
  (hg:a.eval g=.func (.func gf) #[] lb) (eg:∀args w,(callFunc gf args).run P w=.ok (.enter gf args) w)
  (h:∀lp:Loop,lp.state=.ready→lp.pending=none→lp.tmps=a.tmps→lp.params=ps→lp.assign=assign→lp.body=body →
   CallsIn Fence.wide n P gf (#[.func (.yield (w.heap.size+1)) #[] #[]]++lb) ((w.alloc (.deferred (some []))).alloc (.loop lp)) (rangePost Fence.wide (n+1) P (w.heap.size+1) Q { a with defers:={ target:=.collected w.heap.size,args:=#[]}::a.defers })) :
  (Code.rangeFunc g ps assign body).wpIn Fence.wide (n+1) P Q a w:=by
 refine wpIn_rangeFunc fun fn hfn=>?_;obtain ⟨lp,hlp⟩:∃lp:Loop,lp={ state:=.ready,pending:=none,fn,tmps:=a.tmps,params:=ps,assign,body,defers:=w.heap.size }:=⟨_,rfl⟩
 refine ⟨w.heap.size+1,[{ target:=.collected w.heap.size,args:=#[]}],(w.alloc (.deferred (some []))).alloc (.loop lp),{ target:=.fn (.func gf) lb,args:=#[.func (.yield (w.heap.size+1)) #[] #[]]},(w.alloc (.deferred (some []))).alloc (.loop lp),gf,
  #[.func (.yield (w.heap.size+1)) #[] #[]]++lb,(w.alloc (.deferred (some []))).alloc (.loop lp),?_,?_,?_,?_,fun _=>(by omega),?_⟩
 ·rw [hlp];exact run_enterLoop_outer fn _ _ _ _
 ·simp only [resolve,hg];simp [go_sem]
 ·intro f' hf';exact trivial
 ·simp [invoke,go_sem,eg]
 ·exact h lp (by rw [hlp]) (by rw [hlp]) (by rw [hlp]) (by rw [hlp]) (by rw [hlp]) (by rw [hlp])
attribute [local go_sem] Oper.semAt_some
theorem ze5 {k:zmr} (hk:k.ok) {w W:World} {A:Option Addr} {c y:Nat} {K:List Int} {x q s:Value} {lp:Loop} (tmps:Array Value) (ht:tmps[4]?=some (.pointer (some ⟨k.b,0,none⟩))) (ht3:tmps[5]?=some (.pointer (some ⟨k.e,0,none⟩)))
  (ka:w.heap.size=k.a) (HP:zgh k W x (.slice A K.length c) (.int .i64 y) q s lp) (hO:W.ownsRow k.n 3 1 (.slice A K.length c) K.length (ci9 K)) (hB:Below k.a w W) {T:List Int×Int} (hT:T=(K,(y:Int))) :
  LeavesInM Fence.wide 3 Tryz.prog Tryz.f69 tmps (fun e w'=>zgf w w' T e) [] .returning (W.putObj k.d (.deferred none)):=by
 subst hT;obtain ⟨k1,k2,k3,k4,k5,k6,k7⟩:=hk;have hb:Below k.d W (W.putObj k.d (.deferred none)):=zaf (Below.refl _ _) (Nat.le_refl _) _;have h1:Boxed (W.putObj k.d (.deferred none)) k.b 59 (.slice A K.length c):=(hb.block _ (by omega)).trans HP.bb;have h2:Boxed (W.putObj k.d (.deferred none)) k.e 31 (.int .i64 y):=(hb.block _ (by omega)).trans HP.be;have c1:=h1.cell;have c2:=h2.cell;have t2:tmps[4]?.getD undef=.pointer (some ⟨k.b,0,none⟩):=by rw [ht];rfl
 have t3:tmps[5]?.getD undef=.pointer (some ⟨k.e,0,none⟩):=by rw [ht3];rfl
 have hB2:Below w.heap.size w (W.putObj k.d (.deferred none)):=by rw [ka];exact zaf hB (by omega) _
 have hO2:=qg (base':=w.heap.size) (zeu hO (show k.d<k.n by omega) (.deferred none)) (by omega);simp [LeavesInM,LeavesIn,results,Tryz.results69,go_sem,c1,c2,t2,t3];exact ⟨A,c,rfl,hO2,hB2⟩
theorem zgn (A:Option Addr) (c m n:Nat) (L:List Ins) (w:World) (hr:Ri w A c L) (hm:L.length=m) (hm9:m≤1000) (hn9:n≤1000):Calls Tryz.prog 69 #[.slice A m c,.int .i64 n] w fun e w'=>zgf w w' (zm8 L n) e:=by
 have HR:=zhy hr;have HM:=zhy hm;obtain ⟨T,hT⟩:∃T,zm8 L n=T:=⟨_,rfl⟩;have HT:=zhy hT;rw [hT];clear hr hm hT;refine (callsIn_wide (n:=3)).1 ?_;refine callsIn_of_wp_marks Tryz.func69 rfl trivial ?_ rfl;simp only [Tryz.ntmps69,List.size_toArray,List.length_cons,List.length_nil,Nat.reduceAdd,Nat.reduceSub,Array.replicate_succ,Array.replicate_zero,List.push_toArray,List.append_toArray,List.nil_append,List.cons_append];gi_wp2_with (refine ⟨trivial,?_⟩;gi_at_call 113;refine (callsIn_wide.2 (zy1 A m c _)).mono ?_;rintro e w1 ⟨rfl,rfl⟩);obtain ⟨w0,hw0⟩:∃w0,w0=(((w.alloc (.cells #[.int .i64 n] 3)).alloc (.cells #[.slice none 0 0] 59)).alloc (.cells #[.int .i64 0] 31)).alloc (.cells #[.slice none 0 0] 59):=⟨_,rfl⟩;have hz:(w0.alloc (.cells #[.slice A m c] 48)).heap.size=w.heap.size+1+1+1+1+1:=by subst hw0;simp
 have b0:Boxed (w0.alloc (.cells #[.slice A m c] 48)) w.heap.size 3 (.int .i64 n):=by subst hw0;exact ((((Boxed.new w _ _).alloc _).alloc _).alloc _).alloc _
 have b1:Boxed (w0.alloc (.cells #[.slice A m c] 48)) (w.heap.size+1) 59 (.slice none 0 0):=by subst hw0;have:=Boxed.new (w.alloc (.cells #[.int .i64 n] 3)) 59 (.slice none 0 0);rw [qn] at this;exact ((this.alloc _).alloc _).alloc _
 have b2:Boxed (w0.alloc (.cells #[.slice A m c] 48)) (w.heap.size+1+1) 31 (.int .i64 0):=by subst hw0;have:=Boxed.new ((w.alloc (.cells #[.int .i64 n] 3)).alloc (.cells #[.slice none 0 0] 59)) 31 (.int .i64 0);rw [qn,qn] at this;exact (this.alloc _).alloc _
 have b3:Boxed (w0.alloc (.cells #[.slice A m c] 48)) (w.heap.size+1+1+1) 59 (.slice none 0 0):=by subst hw0;have:=Boxed.new (((w.alloc (.cells #[.int .i64 n] 3)).alloc (.cells #[.slice none 0 0] 59)).alloc (.cells #[.int .i64 0] 31)) 59 (.slice none 0 0);rw [qn,qn,qn] at this;exact this.alloc _
 have b4:Boxed (w0.alloc (.cells #[.slice A m c] 48)) (w.heap.size+1+1+1+1) 48 (.slice A m c):=by have:=Boxed.new w0 48 (.slice A m c);rw [show w0.heap.size=w.heap.size+1+1+1+1 by subst hw0;simp] at this;exact this
 have hB:Below w.heap.size w (w0.alloc (.cells #[.slice A m c] 48)):=by subst hw0;exact (((((Below.refl _ w).alloc (Nat.le_refl _) _).alloc (by simp) _).alloc (by simp;omega) _).alloc (by simp;omega) _).alloc (by simp;omega) _
 have hws:w0.heap.size=w.heap.size+1+1+1+1:=by subst hw0;simp
 clear hws;subst hw0;generalize ((((w.alloc (.cells #[.int .i64 n] 3)).alloc (.cells #[.slice none 0 0] 59)).alloc (.cells #[.int .i64 0] 31)).alloc (.cells #[.slice none 0 0] 59)).alloc (.cells #[.slice A m c] 48)=w1 at b0 b1 b2 b3 b4 hB hz ⊢;generalize hb:w.heap.size+1=b at b1 b2 b3 b4 hz ⊢;generalize he:b+1=e at b2 b3 b4 hz ⊢;generalize hq:e+1=q at b3 b4 hz ⊢;generalize hs:q+1=s at b4 hz ⊢;refine zpr 172 #[.pointer (some ⟨s,0,none⟩)] rfl (enters_of Tryz.func172 (by kernel_rfl) rfl) (fun lp q1 q2 q3 q4 q5 q6=>?_);obtain ⟨k,ka,kb,ke,kq,ks,kd,kr,kn⟩:∃k:zmr,w.heap.size=k.a∧b=k.b∧e=k.e∧q=k.q∧s=k.s∧w1.heap.size=k.d∧w1.heap.size+1=k.r∧w1.heap.size+2=k.n:=⟨⟨_,_,_,_,_,_,_,_⟩,rfl,rfl,rfl,rfl,rfl,rfl,rfl,rfl⟩;subst kb ke kq ks;have hk:k.ok:=by unfold zmr.ok;omega
 have hI0:zk6 k w L n (.slice A m c) lp 0 ((w1.alloc (.deferred (some []))).alloc (.loop lp)):=by
  have hsz:((w1.alloc (.deferred (some []))).alloc (.loop lp)).heap.size=k.n:=by rw [qn,qn];omega
  have hd:=World.alloc_heap_new w1 (.deferred (some []));have hr:=World.alloc_heap_new (w1.alloc (.deferred (some []))) (.loop lp);rw [qn,kr] at hr;rw [kd] at hd;refine ⟨⟨none,0,0,⟨?_,(b1.alloc _).alloc _,(b2.alloc _).alloc _,(b3.alloc _).alloc _,(b4.alloc _).alloc _,?_,hr⟩,World.ownsRow_nil _ _ _ _,rfl⟩,rfl,?_,by omega⟩
  ·rw [←ka];exact (b0.alloc _).alloc _
  ·rw [Below.heap_alloc _ _ _ (by rw [qn];omega)];exact hd
  ·rw [←ka];exact (hB.alloc hB.size _).alloc (by rw [qn];have:=hB.size;omega) _
 have HI0:=zhy hI0;clear hI0 b0 b1 b2 b3 b4;rw [ka] at q3;rw [ka,kr,kd]
 have hY:Hid (∀i x W,L[i]?=some x→x.1=30→zk6 k w L n (.slice A m c) lp i W→YieldAt Fence.wide 1 Tryz.prog k.r #[.int .i64 x.2.1] W fun e W'=>(e=.returned (.bool true)∧zk6 k w L n (.slice A m c) lp (i+1) W')∨(e=.returned (.bool false)∧qc2 k w L n W' .done (some .ret))):=by
  rintro i ⟨o,a,z⟩ W hx ho hI;dsimp only at ho ⊢;subst ho;obtain ⟨⟨A1,c1,m1,hP,hO,hm1⟩,hbd,hBW,hn⟩:=hI;have hy:=run_yield (P:=Tryz.prog) (args:=#[.int .i64 a]) hP.br (by rw [q4];rfl);rw [q3,q4,q5,q6] at hy;refine ⟨_,_,_,_,hy,roundIn_of_wpIn trivial ?_⟩;have hrun:=run_beginRound (P:=Tryz.prog) hP.br q1;have HP:=zhy (hP.putR hk { lp with state:=.busy });have HO:=zhy (zeu hO (show k.r<k.n from hk.2.2.2.2.2.2) (.loop { lp with state:=.busy }));have HB:=zhy (zaf hBW (show k.a≤k.r from by obtain ⟨_,_,_,_,_,_,_⟩:=hk;omega) (.loop { lp with state:=.busy }));have hn2:k.n≤(W.putObj k.r (.loop { lp with state:=.busy })).heap.size:=by rw [World.putObj_size];exact hn
  have HBD:=zhy hbd;have HX:=zhy hx;have Q1:=zhy q1;have Q2:=zhy q2
  have hm1b:m1≤1000:=by
   have:=zl1 (L.take i);have h2:=(zg8.1 hx).1;rw [List.length_take] at this;have h3:=HM.o;omega
  have HM1:=zhy hm1;clear hP hO hBW hn hbd hy hx hm1 q1 q2 q3 q4 q5 q6;gi_wp2;refine ⟨_,hrun,?_⟩;clear hrun;generalize W.putObj k.r (.loop { lp with state:=.busy })=Wb at HP HO HB hn2 ⊢;obtain ⟨k1,k2,k3,k4,k5,k6,k7⟩:=id hk;have ha1:=HP.o.ba.cell;have hb1:=HP.o.bb.cell;have hf1:=HP.o.bb.frozen;have he1:=HP.o.be.cell;have hf2:=HP.o.be.frozen;have hq1:=HP.o.bq.cell;have hf3:=HP.o.bq.frozen;have hbl:=HP.o.bb.lt;have hel:=HP.o.be.lt;have hql:=HP.o.bq.lt;by_cases ha:a<0
  ·have e2:decide (a<0)=true:=by simpa using ha
   have HBX:Hid (za3 L n=true):=zhy (zl6 HX.o (by rw [e2];rfl));clear ha;gi_wp2;exact zf8 hk ((HP.o.setB hk _).setE hk (.int .i64 2)) ((HB.o.setCell (p:=⟨k.b,0,none⟩) (show k.a≤k.b by omega) _).setCell (p:=⟨k.e,0,none⟩) (show k.a≤k.e by omega) _) (by simp;omega) HBX.o
  ·have e2:decide (a<0)=false:=by simpa using ha
   by_cases hna:(n:Int)≤a
   ·have e3:decide ((n:Int)≤a)=true:=by simpa using hna
    have HBX:Hid (za3 L n=true):=zhy (zl6 HX.o (by rw [e2,e3];rfl));clear ha hna;gi_wp2;exact zf8 hk ((HP.o.setB hk _).setE hk (.int .i64 2)) ((HB.o.setCell (p:=⟨k.b,0,none⟩) (show k.a≤k.b by omega) _).setCell (p:=⟨k.e,0,none⟩) (show k.a≤k.e by omega) _) (by simp;omega) HBX.o
   ·have e3:decide ((n:Int)≤a)=false:=by simpa using hna
    have HCW:Hid (zh8 (L.take (i+1))=zh8 (L.take i)++[a]):=zhy (by rw [zju HX.o];rfl);have HBD2:Hid (za3 (L.take (i+1)) n=false):=zhy (by rw [zje HX.o,HBD.o,e2,e3];rfl);have hinfo:=Tryz.infoN;rw [Option.map_eq_some_iff] at hinfo;obtain ⟨i0,hi,hz⟩:=hinfo;simp only [Prod.mk.injEq] at hz;obtain ⟨hz0,hz1,hz2⟩:=hz;have HO1:=zhy (qb HO.o (qh (a:=.cells #[.int .i64 a] 3)) (Nat.le_refl _))
    have HC1:Hid (∀(j:Nat) (u:Value),(ci9 [a])[j]?=some u→(Wb.alloc (.cells #[.int .i64 a] 3)).cell? ((⟨Wb.heap.size,0,none⟩:Addr).add j)=some u):=zhy fun j u hj=>by
     match j,hj with
     | 0,hj =>
      simp [ci9] at hj;subst hj;simp [go_sem,Addr.add]
    clear ha hna;gi_wp2_with (gi_at_builtin;refine wpListIn_append_own _ rfl _ _ 59 rfl k.n 3 i0 _ 1 8 Tryz.underlying59 hi hz0 hz1 hz2 rfl (by decide) _ m1 (ci9 (zh8 (L.take i))) rfl HO1.o ⟨Wb.heap.size,0,none⟩ 1 1 (ci9 [a]) rfl rfl HC1.o (zhi _) (by unfold maxLen;omega) (by omega) (by rw [qn];omega) ?_;intro v5 w5 ho5 hg5 _;obtain ⟨g5,c5,rfl⟩:=zdx ho5 (by omega);have hb5:=((Below.refl k.n Wb).alloc hn2 (.cells #[.int .i64 a] 3)).grown hg5 (by rw [qn];omega) (fun j hj=>(HO1.o.lt j hj).1);have HP5:=zhy (HP.o.keep hk hb5);have hc5:=HP5.o.bq.cell;have hf5:=HP5.o.bq.frozen;have HB5:=zhy hb5;have HO6:=zhy ho5;clear hb5 ho5 hg5);refine zsj hk Q1.o Q2.o (HP5.o.setQ hk _) (ownsRow_setCell_below (by rw [HCW.o,ci9,List.map_append];exact HO6.o) (show (⟨k.q,0,none⟩:Addr).block<k.n from by show k.q<k.n;omega) _) (by rw [HCW.o,List.length_append,←HM1.o];rfl) HBD2.o (((HB.o.trans (HB5.o.mono (by omega)))).setCell (p:=⟨k.q,0,none⟩) (show k.a≤k.q by omega) _) (by have:=HB5.o.size;simp;omega)
 clear q3 q4 q5 q6;refine (zv6 k hk w L n m 1 A c lp HR.o HM.o hm9 ka hY.o _ HI0.o).mono ?_;clear hY HI0;rintro e2 W2 ⟨⟨v2,rfl⟩,h2⟩;obtain ⟨k1,k2,k3,k4,k5,k6,k7⟩:=id hk;rcases h2 with hI | hJ
 ·obtain ⟨⟨A1,c1,m1,hP,hO,hm1⟩,hbd,hBW,hn⟩:=hI;rw [List.take_of_length_le (by rw [HM.o];exact Nat.le_refl _)] at hO hm1 hbd;have hend:=run_endLoop (P:=Tryz.prog) hP.br (by rw [q1];simp);rw [q2] at hend;refine ⟨none,_,hend,?_⟩;have hm1b:m1≤1000:=by have:=zl1 L;have:=HM.o;omega
  have HP:=zhy (hP.putR hk { lp with state:=.exhausted });have HO:=zhy (zeu hO (show k.r<k.n from k7) (.loop { lp with state:=.exhausted }));have HB4:=zhy (zaf hBW (show k.a≤k.r by omega) (.loop { lp with state:=.exhausted }));have hn4:k.n≤(W2.putObj k.r (.loop { lp with state:=.exhausted })).heap.size:=by rw [World.putObj_size];exact hn
  have HTT:Hid (T=(Lib.compact ((zh8 L).mergeSort fun x y=>decide (x≤y)),0)):=zhy (by
   rw [←HT.o,zm8,if_neg (by rw [hbd];simp),qbn (f:=fun j=>zif L (j:Nat)) (n:=n)];intro x;rw [ztt];constructor
   ·intro h;have hx:=h;rw [zif,List.any_eq_true] at hx;obtain ⟨y,hy,hye⟩:=hx;rw [za3,List.any_eq_false] at hbd;have h2:=hbd y hy;simp only [Bool.and_eq_true,beq_iff_eq] at hye;simp only [hye.1,hye.2,Bool.and_eq_true,beq_self_eq_true,Bool.or_eq_true,decide_eq_true_eq,true_and,not_or] at h2;exact ⟨x.toNat,by omega,by rw [Int.toNat_of_nonneg (by omega)];exact h,by omega⟩
   ·rintro ⟨j,_,h,rfl⟩;exact h)
  have HM1:=zhy hm1;have hrec:({ lp with state:=.exhausted,pending:=none }:Loop)={ lp with state:=.exhausted }:=by rw [←q2]
  rw [hrec];clear hP hO hBW hn hend hrec hbd hm1;generalize ({ lp with state:=.exhausted }:Loop)=lq at HP HO HB4 hn4 ⊢;generalize W2.putObj k.r (.loop lq)=W3 at HP HO HB4 hn4 ⊢;have hq1:=HP.o.bq.cell;have hql:=HP.o.bq.lt;clear q1 q2;dsimp only;gi_wp2_with (refine ⟨trivial,?_⟩;gi_at_call 114;refine (callsIn_wide.2 (zue A1 m1 c1 (zh8 L) k.n W3 HM1.o.symm HO.o hn4 hm1b)).mono ?_;rintro e w4 ⟨rfl,ho,hb⟩;have HP4:=zhy (HP.o.keep hk hb);have hn5:=Nat.le_trans hn4 hb.size;have HB5:=zhy (HB4.o.trans (hb.mono (show k.a≤k.n by omega)));have HO4:=zhy ho;have hq4:=HP4.o.bq.cell;have hql4:=HP4.o.bq.lt;clear ho hb hq1 hql);refine ⟨trivial,?_⟩;refine (callsIn_wide.2 (zlh A1 m1 c1 _ k.n w4 (by rw [List.length_mergeSort];exact HM1.o.symm) HO4.o hn5)).mono ?_;rintro e w5 ⟨rfl,ho,hb⟩;have HP5:=zhy (HP4.o.keep hk hb);have HO5:=zhy ho;have HB6:=zhy (HB5.o.trans (hb.mono (show k.a≤k.n by omega)));have hb5:=HP5.o.bb.cell;have hbl5:=HP5.o.bb.lt;have hbf5:=HP5.o.bb.frozen;have he5:=HP5.o.be.cell;have hel5:=HP5.o.be.lt;have hef5:=HP5.o.be.frozen;clear ho hb hq4 hql4;gi_wp2;refine ⟨by simp,.inl ⟨_,_,rfl,run_takeDeferred ((HP5.o.setB hk _).setE hk (.int .i64 0)).bd,?_⟩⟩;exact ze5 hk _ rfl rfl ka ((HP5.o.setB hk _).setE hk (.int .i64 0)) (y:=0) (ownsRow_setCell_below (ownsRow_setCell_below HO5.o (show (⟨k.b,0,none⟩:Addr).block<k.n from by show k.b<k.n;omega) _) (show (⟨k.e,0,none⟩:Addr).block<k.n from by show k.e<k.n;omega) _) ((HB6.o.setCell (p:=⟨k.b,0,none⟩) (show k.a≤k.b by omega) _).setCell (p:=⟨k.e,0,none⟩) (show k.a≤k.e by omega) _) HTT.o
 ·obtain ⟨⟨q2',s2,lp2,hP,hst,hpe⟩,hS,hBW,hn⟩:=hJ;have hend:=run_endLoop (P:=Tryz.prog) hP.br (by rw [hst];simp);rw [hpe] at hend;refine ⟨some .ret,_,hend,?_⟩;have HP4:=hP.putR hk { lp2 with state:=.exhausted,pending:=some .ret };have HB5:=zaf hBW (show k.a≤k.r by omega) (.loop { lp2 with state:=.exhausted,pending:=some .ret });clear hP hBW hn hend;generalize ({ lp2 with state:=.exhausted,pending:=some .ret }:Loop)=lq at HP4 HB5 ⊢;generalize W2.putObj k.r (.loop lq)=W4 at HP4 HB5 ⊢;dsimp only;gi_wp2;refine ⟨by simp,.inl ⟨_,_,rfl,run_takeDeferred HP4.bd,?_⟩⟩;exact ze5 hk _ rfl rfl ka HP4 (K:=[]) (y:=2) (World.ownsRow_nil _ _ _ _) HB5 (by rw [←HT.o,zm8,if_pos hS];rfl)
end Go.Proofs.YtnjgkkoiamiaaaaGreatDoor
