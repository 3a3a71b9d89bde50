import Derived.Test.YtnjgkkoiamiaaaaGreatDoorVta1
import Derived.Test.YtnjgkkoiamiaaaaGreatDoorVta7
import Derived.Test.YtnjgkkoiamiaaaaGreatDoorVta13
import Derived.Test.YtnjgkkoiamiaaaaGreatDoorVta11
import Derived.Test.YtnjgkkoiamiaaaaGreatDoorVta14
import Derived.Test.YtnjgkkoiamiaaaaGreatDoorVta6
set_option maxRecDepth 100000
set_option maxHeartbeats 16000000
set_option linter.unusedSimpArgs false
set_option linter.unusedVariables false
namespace Go.Proofs.YtnjgkkoiamiaaaaGreatDoor
open Go.RowKit
abbrev fAx (X:Nat) (c:Ce) (v:Value):Fct:=⟨fun w=>Ax w X c v,fun _ _ h hb=>h.keep hb⟩
theorem Fx.cell {X:Nat} {w w':World} (h:Fx X w w') {p:Addr} {v:Value} (hp:p.block≠X) (hv:w.cell? p=some v):w'.cell? p=some v:=(World.cell?_of_block (h.block _ (qi hv) hp)).trans hv
abbrev azv (c:Ce) (v:Value):Value:=.agg #[.int .i64 c.1,.int .i64 c.2.1,.int .i64 c.2.2,v]
theorem zj6 (tm:Array Value) (w':World) (R:Nat) (c:Ce) (v:Value) (e:Int) (h2:tm[4]?.getD undef=.pointer (some ⟨R,0,none⟩)) (h3:tm[5]?.getD undef=.int .i64 e) (hw:Ax w' R c v) (Q:Ending→World→Prop)
  (hR:Q (.returned (.tuple #[azv c v,.int .i64 e])) w'):bodyPost Tryz.prog Tryz.f102 Q .ret { tmps:=tm,defers:=[]} w':=by
 obtain ⟨c0,c1,c2,c3,-⟩:=hw.cells;exact bodyPost_ret (v:=.tuple #[azv c v,.int .i64 e]) (by simp [results,Tryz.results102,go_sem,h2,h3,c0,c1,c2,c3]) rfl hR
def qff (w w':World) (d:Md) (k:Nat) (r:Ending):Prop:=
 ((ql d k).2≠0∧r=.returned (.tuple #[azv zd4 (.slice none 0 0),.int .i64 (ql d k).2])∧Below w.heap.size w w') ∨
 ((ql d k).2=0∧∃z:Az,r=.returned (.tuple #[azv z.c (.slice z.A z.L.length z.k),.int .i64 0])∧z.c=zkc d k∧z.L=ziy d k∧z.ok w'∧(∀ad,z.A=some ad→w.heap.size≤ad.block)∧Below w.heap.size w w')
theorem zds {α:Type} {f:α→List Value} {mm:Nat} (hm:∀x,(f x).length=mm) (h1:∀x,∀u∈f x,u.oneCell'=true) (TS T by_:Nat) (z:Value) (hT:Tryz.prog.underlying TS=some (.slice T)) (hinfo:(Tryz.prog.info? T).map (fun i=>(i.zero,i.size,i.bytes))=some (some z,mm,by_)) (hzs:z.cells.size=mm) (hm0:0<mm) (hby:by_≤1000)
  {w:World} {ops:Array Oper} {o:Oper} {a:Act} {K:Act→World→Prop} {Q:Exit→Act→World→Prop} {E:Prop} (hgd:o.guard=none) (s x:Operand)
  (ho:o.op=.call { callee:=.builtin .append,args:=#[s,x],argTypes:=#[TS,TS]})
  (base:Nat) (v:Value) (n:Nat) (L:List α) (hs:a.eval s=v) (hown:w.ownsRow base T mm v n (clr f L))
  (ad:Addr) (y:α) (hx:a.eval x=.slice (some ad) 1 1) (hr:∀j u,(f y)[j]?=some u→w.cell? (ad.add j)=some u) (hbytes:n+1≤1000000) (hbase:base≤w.heap.size)
  (h:∀A' c' w',w'.ownsRow base T mm (.slice A' (n+1) c') (n+1) (clr f (L++[y]))→w.grownBy w' v.ownBlock→Below base w w' →
   ((Value.slice A' (n+1) c').ownBlock=v.ownBlock∨(Value.slice A' (n+1) c').ownBlock=some w.heap.size)→K (a.put o.dst (.slice A' (n+1) c')) w') :
  if Region.wanted o (yielded ops a.tmps)=true then Oper.wp Tryz.prog o a w K Q else E:=by
 have hw:Region.wanted o (yielded ops a.tmps)=true:=by simp [Region.wanted,hgd]
 rw [if_pos hw];rw [Option.map_eq_some_iff] at hinfo;obtain ⟨i,hi,hz⟩:=hinfo;simp only [Prod.mk.injEq] at hz;obtain ⟨hz0,hz1,hz2⟩:=hz;have hbel:∀{w'},w.grownBy w' v.ownBlock→Below base w w':=fun hg=>(Below.refl _ _).grown hg hbase fun g hg'=>(hown.lt g hg').1
 obtain ⟨v',w',hr',h2,h3,h4,h5⟩:=run_append_own_at (P:=Tryz.prog) w base TS o.type T i z mm by_ hT hi hz0 hz1 hz2 hzs hm0 v n (clr f L) hown ad 1 1 (f y) (by rw [hm];omega) hr (h1 y) (by unfold maxLen;omega) (by
  have:(n+1)*by_≤1000000*1000:=Nat.mul_le_mul hbytes hby
  omega) hbase
 obtain ⟨A',c',rfl⟩:=qv h2;unfold Oper.wp execOp;simp only [ho,resolve,invoke,builtin,Sem.run_bind,Sem.run_pure,Result.andThen_ok,List.map_toArray,List.map_cons,List.map_nil,hs,hx,hr'];exact h A' c' w' (by rw [zn0,show clr f [y]=f y by simp [clr]];exact h2) h3 (hbel h3) h5
theorem Tryz.infoCl:(Tryz.prog.info? 183).map (fun i=>(i.zero,i.size,i.bytes))=some (some (.agg #[.int .i64 0,.int .i64 0,.bool false,.int .i64 0]),4,32):=by kernel_rfl
theorem zyo (x:zkd):∀u∈cl4 x,u.oneCell'=true:=by
 intro u hu;simp [cl4] at hu;rcases hu with rfl | rfl | rfl | rfl<;>rfl
def js (w:World) (E:Nat) (c:Ce):Prop:=w.heap[E]?=some (.cells #[.int .i64 c.1,.int .i64 c.2.1,.int .i64 c.2.2] 39 (0,0))
section
variable {w w' : World} {E : Nat} {c : Ce}
theorem js.lt (h:js w E c):E<w.heap.size:=(zg9.1 h).1
theorem js.keep (h:js w E c) (hb:Below w.heap.size w w'):js w' E c:=(hb.block E h.lt).trans h
theorem js.cells (h:js w E c):w.cell? ⟨E,0,none⟩=some (.int .i64 c.1)∧w.cell? ⟨E,1,none⟩=some (.int .i64 c.2.1)∧w.cell? ⟨E,2,none⟩=some (.int .i64 c.2.2)∧w.frozen? ⟨E,0,none⟩=false∧w.frozen? ⟨E,1,none⟩=false∧w.frozen? ⟨E,2,none⟩=false:=by
 refine ⟨?_,?_,?_,frozen_of_row w E 0 _ _ h,frozen_of_row w E 1 _ _ h,frozen_of_row w E 2 _ _ h⟩<;>rw [cell_of_row w E _ _ _ (0,0) h]<;>rfl
theorem js.set2 (h:js w E c) (n:Int):js (w.setCell ⟨E,2,none⟩ (.int .i64 n)) E (c.1,c.2.1,n):=by
 unfold js;rw [heap_setCell_same w E 2 _ _ _ h];rfl
theorem js.other (h:js w E c) {p:Addr} (hp:p.block≠E) (u:Value):js (w.setCell p u) E c:=(Below.heap_setCell w p u E (fun e=>hp e.symm)).trans h
theorem js.bk (h:js w E c):Bk w E 39 3:=⟨_,h,rfl⟩
theorem js.new (w:World) (c:Ce):js (w.alloc (.cells #[.int .i64 c.1,.int .i64 c.2.1,.int .i64 c.2.2] 39)) w.heap.size c:=heap_alloc_last w _
theorem Fx.cx {X:Nat} {w w':World} (h:Fx X w w') {E:Nat} {c:Ce} (hE:E≠X) (hc:js w E c):js w' E c:=(h.block E hc.lt hE).trans hc
end
def zep (w:World) (I:Nat) (o a z:Int):Prop:=w.heap[I]?=some (.cells #[.int .u8 o,.int .i64 a,.int .i64 z] 57 (0,0))
theorem zep.cells {w:World} {I:Nat} {o a z:Int} (h:zep w I o a z):w.cell? ⟨I,0,none⟩=some (.int .u8 o)∧w.cell? ⟨I,1,none⟩=some (.int .i64 a)∧w.cell? ⟨I,2,none⟩=some (.int .i64 z):=by
 refine ⟨?_,?_,?_⟩<;>rw [cell_of_row w I _ _ _ (0,0) h]<;>rfl
theorem zep.keep {w w':World} {I:Nat} {o a z:Int} (h:zep w I o a z) (hb:Below w.heap.size w w'):zep w' I o a z:=(hb.block I (zg9.1 h).1).trans h
theorem zep.new (w:World) (o a z:Int):zep (w.alloc (.cells #[.int .u8 o,.int .i64 a,.int .i64 z] 57)) w.heap.size o a z:=heap_alloc_last w _
theorem zcr {w w':World} {B t:Nat} {cs:Array Value} {base2 e2 size2 n2:Nat} {v2:Value} {xs2:List Value} (h:w.heap[B]?=some (.cells cs t (0,0))) (h2:w.ownsRow base2 e2 size2 v2 n2 xs2) (hne:t≠e2) (hg:w.grownBy w' v2.ownBlock):w'.heap[B]?=some (.cells cs t (0,0)):=by
 have hlt:=(zg9.1 h).1
 have hgB:some B≠v2.ownBlock:=fun e'=>by
  rcases h2.2 with ⟨rfl,_⟩ | ⟨g2,cap2,cur2,rfl,_,hh2,_⟩
  ·simp [Value.ownBlock] at e'
  ·simp [Value.ownBlock] at e';subst e';rw [h] at hh2;injection hh2 with hh2;injection hh2 with _ h3 _;exact hne h3
 exact (hg.block B hlt hgB).trans h
theorem zkv {S:List Rz} {n:Nat} (h:∀z∈S,z.2.length≤n):zc8 S≤n:=by
 unfold zc8
 have key:∀(S:List Rz) (a:Nat),a≤n→(∀z∈S,z.2.length≤n)→S.foldl (fun n z=>max n z.2.length) a≤n:=by
  intro S;induction S with
  | nil=>intro a ha _;exact ha
  | cons x S ih =>
   intro a ha hS;rw [List.foldl_cons];exact ih _ (by have:=hS x List.mem_cons_self;omega) (fun z hz=>hS z (List.mem_cons_of_mem _ hz))
 exact key S 0 (Nat.zero_le _) h
theorem zci {d:Md} (h:qG d=false):d.s.length≤40∧∀z∈d.s,z.1.a.length≤100∧z.1.l.length≤100∧z.2.length≤300:=by
 simp only [qG,Bool.or_eq_false_iff,decide_eq_false_iff_not,List.any_eq_false] at h;refine ⟨by omega,fun z hz=>?_⟩;have h2:=h.2.2.2 _ hz;simp only [qgE,gB,Bool.or_eq_true,decide_eq_true_eq,not_or] at h2;omega
theorem zh4 {L:List Ins} (hf:jc L=0):∀n,n≤L.length→0≤zic L n∧zic L n≤100000000*n
 | 0,_=>by simp [zic]
 | n+1,h=>by
  have:=zh4 hf n (by omega);have ht:=zi2 hf (p:=n) (by omega);have:zec L n=tm9 (qy L L.length) n:=rfl;rw [zb3];omega
theorem zli {L:List Ins} (hf:jc L=0) {p:Nat} (hp:p<L.length):0≤iA9 L p∧iA9 L p≤1024:=by
 obtain ⟨hm,e1,e2⟩:=zd0 hp;have hi:=zgl ((qw (za hf).1).2.2 _ hm);rw [e2];exact ⟨hi.1,hi.2.1⟩
theorem zgx {L:List Ins} (hf:jc L=0):∀n,n≤L.length→0≤zid L n∧zid L n≤100000000000000*n
 | 0,_=>by simp [zid]
 | n+1,h=>by
  have h1:=zgx hf n (by omega);have ht:=zi2 hf (p:=n) (by omega);have h2:zec L n=tm9 (qy L L.length) n:=rfl;obtain ⟨h3,h4⟩:=zli hf (p:=n) (by omega);rw [zbz];unfold zny;split
  ·skip;rw [←h2] at ht;have a1:0≤iA9 L n*zec L n:=Int.mul_nonneg h3 (by omega);have a2:iA9 L n*zec L n≤1024*100000000:=Int.mul_le_mul h4 ht.2 (by omega) (by omega);omega
  ·omega
theorem zzf (y:Ma) (d:Md) (k:Nat) (w:World) (hq:Hq w y d) (hg:qG d=false) (hk:k<d.s.length):Calls Tryz.prog 102 #[dv y d,.int .i64 k] w fun r w'=>qff w w' d k r:=by
 obtain ⟨G,gc,P,pc,AA,cc,Z⟩:=y;have hzl:=hq.zlen;dsimp only at hzl;obtain ⟨hs40,hbd⟩:=zci hg;have HG:=zhy hg;have HBD:=zhy hbd;obtain ⟨sn,hsn⟩:∃sn,d.s.length=sn:=⟨_,rfl⟩;have HSN:=zhy hsn;have HZL:=zhy (hzl.trans hsn);rw [hsn] at hk hs40;obtain ⟨B,hB⟩:∃B,w.heap.size=B:=⟨_,rfl⟩;have S0:=zhy ((((Sx.start w).add (fQm ⟨G,gc,P,pc,AA,cc,Z⟩ d) hq).mkD ⟨G,gc,P,pc,AA,cc,Z⟩ d));rw [hB] at S0;have HBB:=zhy hB;clear hq hg hbd hzl hsn;go_enter Tryz.func102,Tryz.ntmps102;go_upto_region 1 with (fail);have hR:(w.alloc (zn ⟨G,gc,P,pc,AA,cc,Z⟩ d)).heap.size=B+1:=by rw [qn,hB]
 have S1:Hid (Sx w ((w.alloc (zn ⟨G,gc,P,pc,AA,cc,Z⟩ d)).alloc (.cells #[.int .i64 0,.int .i64 0,.int .i64 0,.slice none 0 0] 105)) [fAx (B+1) zd4 (.slice none 0 0),fD B ⟨G,gc,P,pc,AA,cc,Z⟩ d,fQm ⟨G,gc,P,pc,AA,cc,Z⟩ d]):=zhy ((S0.o.mk1 _).add (fAx (B+1) zd4 (.slice none 0 0)) (by rw [←hR];exact Ax.new _ zd4 _));change Code.wp _ _ _ _ ((w.alloc (zn ⟨G,gc,P,pc,AA,cc,Z⟩ d)).alloc (.cells #[.int .i64 0,.int .i64 0,.int .i64 0,.slice none 0 0] 105));have hs1:B+2=((w.alloc (zn ⟨G,gc,P,pc,AA,cc,Z⟩ d)).alloc (.cells #[.int .i64 0,.int .i64 0,.int .i64 0,.slice none 0 0] 105)).heap.size:=by rw [qn,hR]
 generalize (w.alloc (zn ⟨G,gc,P,pc,AA,cc,Z⟩ d)).alloc (.cells #[.int .i64 0,.int .i64 0,.int .i64 0,.slice none 0 0] 105)=w1 at S1 hs1 ⊢;clear S0 hR hB;obtain ⟨-,-,⟨d0,d1,d2,d3,d4⟩,-⟩:=S1.o;have HT:=zhy (zo8 ⟨G,gc,P,pc,AA,cc,Z⟩ d k w1 S1.o.2.2.2.1 HG.o);obtain ⟨T,hT⟩:∃T,ql d k=T:=⟨_,rfl⟩;have HTT:=zhy hT;rw [hT] at HT;clear hT;go_wp2_with fail;refine HT.o.mono ?_;rintro r w2 ⟨A,c,ZR,rfl,hzr,hrw,hb⟩;have S2:=zhy ((S1.o.call hb).add (fRw A c ZR) hrw);have hs2:B+2≤w2.heap.size:=by have:=hb.size;omega
 have HZR:=zhy hzr;clear HT hb hrw hzr S1 d0 d1 d2 d3 d4 hs1;by_cases h0:T.2=0
 case neg =>
  have hne:(T.2 != 0)=true:=by simpa using h0
  have H0:=zhy h0;have HX:=zhy S2.o.2.2.1;have HBW:=zhy S2.o.1;obtain ⟨x0,x1,x2,x3,y0,y1,y2,y3⟩:=HX.o.cells;dsimp only [zd4] at x0 x1 x2;go_upto_region 3 with (fail);go_wp2_with fail;refine zj6 _ _ (B+1) zd4 (.slice none 0 0) T.2 rfl rfl ((((HX.o.set0 0).set1 0).set2 0).set3 (.slice none 0 0)) _ ?_;refine .inl ⟨by rw [HTT.o];exact H0.o,by rw [HTT.o],?_⟩;have:=HBB.o;exact (((HBW.o.setCell (p:=⟨B+1,0,none⟩) (by show w.heap.size≤B+1;omega) _).setCell (p:=⟨B+1,1,none⟩) (by show w.heap.size≤B+1;omega) _).setCell (p:=⟨B+1,2,none⟩) (by show w.heap.size≤B+1;omega) _).setCell (p:=⟨B+1,3,none⟩) (by show w.heap.size≤B+1;omega) _
 case pos =>
 obtain ⟨ad8,hA8,hat,hok⟩:=S2.o.2.2.2.2.1.2.2.1.at_ (i:=k) (by rw [HZL.o];exact hk);have hme:=S2.o.2.2.2.2.1.zat (i:=k) (by rw [HZL.o];exact hk) (by rw [HSN.o];exact hk);dsimp only at hA8 hat hok hme;obtain ⟨zz,hzz⟩:∃zz,Z[k]'(by rw [HZL.o];exact hk)=zz:=⟨_,rfl⟩;rw [hzz] at hat hok hme;obtain ⟨⟨XA,xc,XB,xd,XD,xk,xe⟩,h,L⟩:=zz;subst hA8;have HCO:Hid (zl d k=L):=zhy (by rw [zl,zg7 (by rw [HSN.o];exact hk),hme];rfl);have HME:Hid (ji d k=h):=zhy (by rw [ji,zg7 (by rw [HSN.o];exact hk),hme];rfl);obtain ⟨hH,hRi,hxk⟩:=hok;dsimp only at hH hRi hxk;obtain ⟨g0,g1,g2,g3,g4,g5,g6,g7⟩:=hat;dsimp only at g0 g1 g2 g3 g4 g5 g6 g7;obtain ⟨m,hm⟩:∃m,L.length=m:=⟨_,rfl⟩;obtain rfl:m=xk:=by rw [←hm];exact hxk
 have HLm:=zhy hm;have hbd:=HBD.o _ (show d.s[k]'(by rw [HSN.o];exact hk)∈d.s from List.getElem_mem _);rw [hme] at hbd;obtain ⟨hba,hbl,hbm⟩:=hbd;dsimp only at hba hbl hbm;rw [hm] at hbm;obtain ⟨n',h',c',e1,e2,e3,hfl,hth,hln,hin⟩:=zib (d:=d) (k:=k) (by rw [HTT.o];exact h0);have hnk:k=n':=by omega
 subst hnk;have hcc:zl d k=c':=by rw [zl,e3];rfl
 have hhh:ji d k=h':=by rw [ji,e3];rfl
 rw [HCO.o] at hcc;rw [HME.o] at hhh;subst hcc hhh;rw [HTT.o,hm] at hln;rw [HTT.o,hm] at hin;have HFL:=zhy hfl;have HTH:=zhy hth;have HIN:=zhy hin;have hzn:ZR.length=m:=by have:=congrArg List.length HZR.o;rw [List.length_map] at this;omega
 have HZN:=zhy hzn;rw [hzn];clear hzz hme hxk hm e1 e2 e3 hfl hth hin hzn;obtain ⟨an,han⟩:∃an,h.a.length=an:=⟨_,rfl⟩;obtain ⟨bn,hbn⟩:∃bn,h.l.length=bn:=⟨_,rfl⟩;have HAN:=zhy han;have HBN:=zhy hbn;rw [han] at hba;rw [hbn] at hbl;clear han hbn;obtain ⟨-,-,-,⟨d0,d1,d2,d3,d4⟩,-⟩:=S2.o;dsimp only at d1 d2 d3;rw [HSN.o] at d3;rw [h0];have HE0:=zhy h0;go_upto_region 5 with (fail);have S3:=zhy ((S2.o.add (fT XD xe L) hRi).mkM ⟨XA,xc,XB,xd,XD,m,xe⟩ h);obtain ⟨D,hD⟩:∃D,w2.heap.size=D:=⟨_,rfl⟩;rw [hD] at S3 ⊢;change Code.wp _ _ _ _ (w2.alloc (zbk ⟨XA,xc,XB,xd,XD,m,xe⟩ h));have hs3:D+1=(w2.alloc (zbk ⟨XA,xc,XB,xd,XD,m,xe⟩ h)).heap.size:=by rw [qn,hD]
 generalize w2.alloc (zbk ⟨XA,xc,XB,xd,XD,m,xe⟩ h)=w3 at S3 hs3 ⊢;rw [hD] at hs2;clear g0 g1 g2 g3 g4 g5 g6 g7 d0 d1 d2 d3 d4 hD S2 hRi hH;obtain ⟨-,⟨m0,m1,m2,m3,m4,m5,m6,m7,m8⟩,-⟩:=S3.o;dsimp only at m1 m2 m8;have HTI:=zhy (zvb XD xe m L w3 S3.o.2.2.1 HLm.o hbm);obtain ⟨E,hE⟩:∃E,jc L=E:=⟨_,rfl⟩;rw [hE] at HTI;go_wp2_with fail;refine HTI.o.mono ?_;rintro r w4 ⟨AT,cT,rfl,hot,hb⟩;have hfl0:=zj0 HFL.o;have hlt:(zea L).length=m:=by rw [hfl0.1,HLm.o]
 rw [hlt] at hot ⊢;have S4:=zhy ((S3.o.call hb).add (fRn AT cT (zea L)) (Rn.of_own hot).1);have hs4:D+1≤w4.heap.size:=by have:=hb.size;omega
 have HTL:=zhy hlt;have HTM:Hid (∀p,p<m→(zea L)[p]?=some (zec L p)):=zhy fun p hp=>hfl0.2 p (by rw [HLm.o];exact hp);clear HTI hb hot S3 hfl0 hlt hE m0 m1 m2 m3 m4 m5 m6 m7 m8 hs3;obtain ⟨-,-,⟨m0,m1,m2,m3,m4,m5,m6,m7,m8⟩,-⟩:=S4.o;dsimp only at m1 m2 m8;rw [HAN.o] at m1;rw [HBN.o] at m2;have hlw:IntKind.i64.wrap ((an:Int)+bn)=((an+bn:Nat):Int):=by rw [qm (by omega)];omega
 go_upto_region 8 with (fail);clear m0 m1 m2 m3 m4 m5 m6 m7 m8 hlw
 have hkz:∀z∈ZR,z.K.length≤1000:=fun z hz=>by
  obtain ⟨i,hi⟩:=List.getElem?_of_mem hz;have h1:=(zg8.1 hi).1;have h2:T.1[i]?=some (rz z):=by rw [←HZR.o,List.getElem?_map,hi];rfl
  have h3:=zcw HIN.o i;rw [h2] at h3;have h4:z.K.length≤2*i:=h3;have:=HZN.o;omega
 have HKZ:=zhy hkz
 have hgb:zc8 T.1≤1000:=by
  rw [←HZR.o]
  exact zkv fun z hz=>by
   obtain ⟨u,hu,rfl⟩:=List.mem_map.1 hz;exact hkz u hu
 obtain ⟨hn,hhn⟩:∃hn:Int,(zc8 T.1:Int)=hn:=⟨_,rfl⟩;have HHN:=zhy hhn;have hn0:0≤hn∧hn≤1000:=by omega
 obtain ⟨lo,hlo⟩:∃lo:Int,(an:Int)+bn=lo:=⟨_,rfl⟩;have HLO:Hid (zgm h=lo):=zhy (by rw [zgm,HAN.o,HBN.o,←hlo];omega);have lo0:0≤lo∧lo≤200:=by omega
 have hbn9:IntKind.i64.wrap (lo+hn)=lo+hn:=qm (by omega);rw [hlo];obtain ⟨X,hX⟩:∃X,w4.heap.size=X:=⟨_,rfl⟩;rw [hX] at hs4 ⊢;have HX5:Hid (Ax (w4.alloc (.cells #[.int .i64 0,.int .i64 0,.int .i64 0,.slice none 0 0] 105)) X zd4 (.slice none 0 0)):=zhy (by rw [←hX];exact Ax.new w4 zd4 _);have HB5:Hid (Below X w4 (w4.alloc (.cells #[.int .i64 0,.int .i64 0,.int .i64 0,.slice none 0 0] 105))):=zhy (by rw [←hX];exact qh);have HXX:=zhy hX;clear hkz hgb hhn hlo;generalize w4.alloc (.cells #[.int .i64 0,.int .i64 0,.int .i64 0,.slice none 0 0] 105)=w5 at HX5 HB5 ⊢;have S5:=zhy (S4.o.call (w':=w5) (by rw [hX];exact HB5.o));clear hX;have HHT:=zhy (zvl (fRw A c ZR) A c m ZR w5 S5.o.2.2.2.2.1 S5.o.2.2.2.2.1 HZN.o hbm (fun z hz=>Nat.le_trans (HKZ.o z hz) (by omega)));rw [HZR.o,HHN.o] at HHT;go_wp2_with fail;refine HHT.o.mono ?_;rintro r w6 ⟨rfl,hb⟩;have HX6:=zhy (HX5.o.keep hb);have HB6:=zhy (HB5.o.trans (hb.mono (by have:=HX5.o.lt;omega)));clear HHT hb HX5 HB5 S5;have HRI:=zhy (zmy X zd4 (.slice none 0 0) (lo+hn) w6 HX6.o (by omega));go_wp2_with fail;refine HRI.o.mono ?_;rintro r w7 ⟨rfl,hx,hf⟩;have HX7:Hid (Ax w7 X (0,lo+hn,0) (.slice none 0 0)):=zhy (by have h:=hx;rw [show max zd4.2.1 (lo+hn)=lo+hn by show max 0 (lo+hn)=lo+hn;omega] at h;exact h);have HB7:Hid (Below X w4 w7):=zhy (HB6.o.trans (hf.below (Nat.le_refl _) (by have:=HX6.o.lt;omega)));clear HRI hx hf HX6 HB6;have S7:=zhy (S4.o.call (w':=w7) (by rw [HXX.o];exact HB7.o));obtain ⟨-,-,⟨m0,m1,m2,m3,m4,m5,m6,m7,m8⟩,-⟩:=S7.o;dsimp only at m1 m2 m8;go_wp2_with fail;clear m0 m1 m2 m3 m4 m5 m6 m7 m8 S7;go_loopw [54] (fun iv wq=>∃(i nn ck:Nat) (Ac:Option Addr),i≤m∧iv=.int .i64 i∧nn≤i∧Hid (Ax wq X (zic L i,lo+hn,zid L i) (.slice Ac nn ck))∧Hid (wq.ownsRow (X+1) 183 4 (.slice Ac nn ck) nn (clr cl4 (zf4 d h L T.1 i)))∧Hid (Below X w4 wq)) (fun iv _=>m-(intOf iv).toNat)
 case atStart=>exact ⟨0,0,0,none,by omega,rfl,by omega,HX7,zhy (World.ownsRow_nil _ _ _ _),HB7⟩
 case round =>
  obtain ⟨i,nn,ck,Ac,hi,rfl,hnn,HX,HO,HB⟩:=hrel;rename World=>wq;clear HX7 HB7;have SQ:=zhy (S4.o.call (w':=wq) (by rw [HXX.o];exact HB.o));by_cases h1:i<m
  ·obtain ⟨⟨o,a,zb⟩,hx⟩:∃x,L[i]?=some x:=⟨_,zg7 (by rw [HLm.o];exact h1)⟩;obtain ⟨al,hA,k1,k2,k3⟩:=SQ.o.2.2.2.1.at9 hx;subst hA;have HX1:=zhy hx;have HO1:Hid (iO9 L i=o∧iA9 L i=a):=zhy ⟨by rw [iO9,hx];rfl,by rw [iA9,hx];rfl⟩;have hab:=zli HFL.o (p:=i) (by rw [HLm.o];exact h1);rw [HO1.o.2] at hab;have htb:=zi2 HFL.o (p:=i) (by rw [HLm.o];exact h1);rw [show tm9 (qy L L.length) i=zec L i from rfl] at htb;have hfb:=zh4 HFL.o i (by rw [HLm.o];exact hi);have hhb:=zgx HFL.o i (by rw [HLm.o];exact hi);obtain ⟨t,ht⟩:∃t,zec L i=t:=⟨_,rfl⟩;have HT:=zhy ht;rw [ht] at htb;obtain ⟨fu,hfu⟩:∃f,zic L i=f:=⟨_,rfl⟩;obtain ⟨he,hhe⟩:∃f,zid L i=f:=⟨_,rfl⟩;rw [hfu] at hfb HX;rw [hhe] at hhb HX;have HFU:=zhy hfu;have HHE:=zhy hhe;have hIX:X<wq.heap.size:=HX.o.lt;clear hx ht hfu hhe;obtain ⟨I,hI⟩:∃I,wq.heap.size=I:=⟨_,rfl⟩;have hI1:(wq.alloc (.cells #[.int .u8 o,.int .i64 a,.int .i64 zb] 57)).heap.size=I+1:=by rw [qn,hI]
   rw [hI] at hIX;have hIC:=(zep.new wq o a zb).keep (w':=(wq.alloc (.cells #[.int .u8 o,.int .i64 a,.int .i64 zb] 57)).alloc (.cells #[.int .i64 1,.int .i64 0,.int .i64 0] 39)) qh;have hEC:=js.new (wq.alloc (.cells #[.int .u8 o,.int .i64 a,.int .i64 zb] 57)) (1,0,0);have hZ:=(HX.o.keep (w':=wq.alloc (.cells #[.int .u8 o,.int .i64 a,.int .i64 zb] 57)) qh).keep (w':=(wq.alloc (.cells #[.int .u8 o,.int .i64 a,.int .i64 zb] 57)).alloc (.cells #[.int .i64 1,.int .i64 0,.int .i64 0] 39)) qh;have hOZ:=(HO.o.alloc (.cells #[.int .u8 o,.int .i64 a,.int .i64 zb] 57)).alloc (.cells #[.int .i64 1,.int .i64 0,.int .i64 0] 39);have hBZ:=HB.o.trans ((qh (w:=wq) (a:=.cells #[.int .u8 o,.int .i64 a,.int .i64 zb] 57)).mono (by omega) |>.trans ((qh (w:=wq.alloc (.cells #[.int .u8 o,.int .i64 a,.int .i64 zb] 57)) (a:=.cells #[.int .i64 1,.int .i64 0,.int .i64 0] 39)).mono (show X≤_ by rw [hI1];omega)));rw [hI] at hIC;rw [hI1] at hEC;have HZ:=zhy hZ;have HOZ:=zhy hOZ;have HBZ:=zhy hBZ;have HIC:=zhy hIC;have HEC:=zhy hEC;clear hZ hOZ hBZ hIC hEC;go_upto_region 13 with (fail);clear hI hI1 HX HO HB SQ k1 k2 k3;dsimp only at HEC;generalize (wq.alloc (.cells #[.int .u8 o,.int .i64 a,.int .i64 zb] 57)).alloc (.cells #[.int .i64 1,.int .i64 0,.int .i64 0] 39)=wz at HZ HOZ HBZ HIC HEC ⊢;obtain ⟨i0,i1,i2⟩:=HIC.o.cells;obtain ⟨e0,e1,e2,f0,f1,f2⟩:=HEC.o.cells;dsimp only at e0 e1 e2;have SZ:=zhy (S4.o.call (w':=wz) (by rw [HXX.o];exact HBZ.o));obtain ⟨at_,hAT,t1⟩:=SZ.o.2.1.at_ (HTM.o i h1);rw [HT.o] at t1;have HFS:Hid (zic L (i+1)=fu+t):=zhy (by rw [zb3,HFU.o,HT.o]);have HHS:Hid (zid L (i+1)=he+zny L i):=zhy (by rw [zbz,HHE.o]);subst hAT;by_cases ho22:o=22
   ·have HHN2:Hid (zny L i=a*t):=zhy (by rw [zny,HO1.o.1,HO1.o.2,HT.o,if_pos ho22]);have HCA:Hid (zf4 d h L T.1 (i+1)=zf4 d h L T.1 i):=zhy (by rw [zb4,HO1.o.1,if_neg (by omega),List.append_nil]);subst ho22;have HZ2:=zhy (HZ.o.other (p:=⟨I+1,2,none⟩) (by show I+1≠X;omega) (.int .i64 a));have HOZ2:=zhy (zt HOZ.o HEC.o.bk (by decide) 2 (.int .i64 a));have HBZ2:=zhy (HBZ.o.setCell (p:=⟨I+1,2,none⟩) (by show X≤I+1;omega) (.int .i64 a));have HEC2:=zhy (HEC.o.set2 a)
    have t2:(wz.setCell ⟨I+1,2,none⟩ (.int .i64 a)).cell? (at_.add i)=some (.int .i64 t):=by
     have hlt:(at_.add i).block<X:=by rw [←HXX.o];exact qi ((S4.o.2.1.at_ (HTM.o i h1)).elim fun ad q=>by have:=q.1;injection this with this;subst this;exact q.2)
     rw [World.cell?_setCell_other _ _ _ _ (fun e=>by rw [←e] at hlt;simp at hlt;omega)];exact t1
    rw [←HCA.o] at HOZ2;go_upto_region 19 with (fail);clear HZ HOZ HBZ HEC e0 e1 e2 f0 f1 f2 t1 SZ HIC i0 i1 i2;generalize wz.setCell ⟨I+1,2,none⟩ (.int .i64 a)=wy at HZ2 HOZ2 HBZ2 HEC2 t2 ⊢;obtain ⟨e0,e1,e2,f0,f1,f2⟩:=HEC2.o.cells;dsimp only at e0 e1 e2;have hm0:0≤a*t:=Int.mul_nonneg hab.1 (by omega);have hm1:a*t≤1024*100000000:=Int.mul_le_mul hab.2 htb.2 (by omega) (by omega);refine zu [6] (S:=fun w'=>w'.cell? ⟨I+1,0,none⟩=some (.int .i64 1)∧w'.cell? ⟨I+1,1,none⟩=some (.int .i64 0)∧w'.cell? ⟨I+1,2,none⟩=some (.int .i64 a)∧w'.cell? (at_.add i)=some (.int .i64 t)) (by kernel_rfl) (⟨e0,e1,e2,t2⟩) (fun hHeld=>?_);refine qd (i:=0) (v:=?_) rfl (by kernel_rfl) (fun _ _ _ h=>h) (Or.inl ⟨by rfl,?_⟩) (Or.inr (by assumption)) ?_;rotate_left 1
    ·intro w _;go_simp;try with_reducible rfl
    (try simp only [Act.put,zg1,zg2,zg3,zg4,zg5,zg6]);refine qq (i:=1) (v:=?_) rfl (by kernel_rfl) (fun _ _ _ h=>h) (Or.inl ⟨by rfl,?_⟩) (by assumption) ?_;rotate_left 1
    ·intro w hSw;(try dsimp only at hSw);obtain ⟨s0,s1,s2,s3⟩:=hSw;go_simp;try with_reducible rfl
    (try simp only [Act.put,zg1,zg2,zg3,zg4,zg5,zg6]);refine qd (i:=2) (v:=?_) rfl (by kernel_rfl) (fun _ _ _ h=>h) (Or.inl ⟨by rfl,?_⟩) (Or.inr (by assumption)) ?_;rotate_left 1
    ·intro w _;go_simp;try with_reducible rfl
    (try simp only [Act.put,zg1,zg2,zg3,zg4,zg5,zg6]);refine qd (i:=3) (v:=?_) rfl (by kernel_rfl) (fun _ _ _ h=>h) (Or.inl ⟨by rfl,?_⟩) (Or.inr (by assumption)) ?_;rotate_left 1
    ·intro w _;go_simp;try with_reducible rfl
    (try simp only [Act.put,zg1,zg2,zg3,zg4,zg5,zg6]);refine qd (i:=4) (v:=?_) rfl (by kernel_rfl) (fun _ _ _ h=>h) (Or.inl ⟨by rfl,?_⟩) (Or.inr (by assumption)) ?_;rotate_left 1
    ·intro w _;go_simp;try with_reducible rfl
    (try simp only [Act.put,zg1,zg2,zg3,zg4,zg5,zg6]);refine qq (i:=5) (v:=?_) rfl (by kernel_rfl) (fun _ _ _ h=>h) (Or.inl ⟨by rfl,?_⟩) (by assumption) ?_;rotate_left 1
    ·intro w hSw;(try dsimp only at hSw);obtain ⟨s0,s1,s2,s3⟩:=hSw;go_simp;try with_reducible rfl
    (try simp only [Act.put,zg1,zg2,zg3,zg4,zg5,zg6]);refine qp (rs:=[6]) (by kernel_rfl) (by simp) ?_;refine zad.late rfl (by kernel_rfl) (fun K hK=>?_) zad.nil;go_simp;refine (zh5 X (fu,lo+hn,he) _ 1 0 (a) t _ (show Ax (wy.drew) X _ _ from HZ2.o) (by omega) (by omega) (by show 0≤fu∧fu≤_;omega) (by show 0≤he∧he≤_;omega)).mono ?_;rintro r w9 ⟨rfl,hx9,hf9⟩;go_wp2_with fail;refine hK.out _ _ ?_;clear hK K;(try simp only [Act.put,zg1,zg2,zg3,zg4,zg5,zg6]);refine jm (by kernel_rfl) ?_ _
    have HX9:Hid (Ax w9 X (zic L (i+1),lo+hn,zid L (i+1)) _):=zhy (by
     have h:=hx9;rw [Int.one_mul] at h;rw [HFS.o,HHS.o,HHN2.o];exact h)
    have HO9:=zhy (hf9.own (show (wy.drew).ownsRow _ _ _ _ _ _ from HOZ2.o) (fun g hg e=>by have:=(HOZ2.o.lt g hg).1;omega));have HB9:Hid (Below X w4 w9):=zhy ((qf HBZ2.o 1).trans (hf9.below (Nat.le_refl _) (show X≤wy.heap.size by have:=HZ2.o.lt;omega)));clear hx9 hf9 HZ2 HOZ2 HBZ2 HEC2 e0 e1 e2 f0 f1 f2 t2 hHeld;go_wp2_with fail;go_roundw
    case rel=>exact ⟨i+1,nn,ck,Ac,by omega,by go_num,by omega,HX9,HO9,HB9⟩
    case measure=>simp [intOf];omega
   ·by_cases ho30:o=30
    ·have hth:zab d h (o,a,zb)=true:=List.all_eq_true.1 HTH.o _ (List.mem_of_getElem? HX1.o);rw [zab,if_neg (by omega),if_neg (by omega),if_neg (by omega),if_pos ho30,decide_eq_true_eq] at hth;dsimp only at hth;rw [HSN.o] at hth;obtain ⟨j,rfl⟩:∃j:Nat,a=j:=⟨a.toNat,by omega⟩;have hj:j<sn:=by omega
     have HHN2:Hid (zny L i=0*t):=zhy (by rw [zny,HO1.o.1,if_neg ho22,Int.zero_mul]);obtain ⟨ad8',e8,hat',-⟩:=SZ.o.2.2.2.2.2.2.2.1.2.2.1.at_ (i:=j) (by rw [HZL.o];exact hj);have hme':=SZ.o.2.2.2.2.2.2.2.1.zat (i:=j) (by rw [HZL.o];exact hj) (by rw [HSN.o];exact hj);dsimp only at e8 hat' hme';injection e8 with e8;subst e8;obtain ⟨zj,hzj⟩:∃zj,Z[j]'(by rw [HZL.o];exact hj)=zj:=⟨_,rfl⟩;rw [hzj] at hat' hme';have hbj:=(HBD.o _ (show d.s[j]'(by rw [HSN.o];exact hj)∈d.s from List.getElem_mem _)).1;rw [hme'] at hbj;dsimp only at hbj;obtain ⟨aj,haj⟩:∃aj,zj.m.a.length=aj:=⟨_,rfl⟩;have HAJ:Hid (zra d L i=aj):=zhy (by rw [zra,HO1.o.2,Int.toNat_natCast,ji,zg7 (by rw [HSN.o];exact hj),hme'];exact haj);have g0:=hat'.1;rw [haj] at g0 hbj;obtain ⟨z,hz⟩:∃z,ZR[i]?=some z:=⟨_,zg7 (by rw [HZN.o];exact h1)⟩;obtain ⟨adR,hAR,⟨r0,r1⟩,-⟩:=SZ.o.2.2.2.2.1.at_ hz;have hzr:zle T.1 i=rz z:=by rw [zle,←HZR.o,List.getElem?_map,hz];rfl
     obtain ⟨kl,hkl⟩:∃kl,z.K.length=kl:=⟨_,rfl⟩;have hkl0:=HKZ.o z (List.mem_of_getElem? hz);rw [hkl] at r1 hkl0;obtain ⟨rr,hrr⟩:∃rr,z.r=rr:=⟨_,rfl⟩;rw [hrr] at r0
     have HMK:Hid (zqg d h L T.1 i=((j:Int),t,rr,lo+kl-aj)):=zhy (by
      rw [zqg,HO1.o.2,HT.o,hzr,HLO.o,HAJ.o];simp only [rz];rw [hrr,hkl])
     have HCA:Hid (zf4 d h L T.1 (i+1)=zf4 d h L T.1 i++[((j:Int),t,rr,lo+kl-aj)]):=zhy (by rw [zb4,HO1.o.1,if_pos ho30,HMK.o]);have w1':IntKind.i64.wrap (lo+kl)=lo+kl:=qm (by omega);have w2':IntKind.i64.wrap (lo+kl-aj)=lo+kl-aj:=qm (by omega);obtain ⟨-,-,-,-,-,-,⟨d0,d1,d2,d3,d4⟩,-⟩:=SZ.o;dsimp only at d3;rw [HSN.o] at d3;subst hAR ho30
     have HTW:Hid (∀w',Below X w4 w'→w'.cell? (at_.add i)=some (.int .i64 t)∧w'.cell? (adR.add (i*2))=some (.bool rr)∧w'.cell? ⟨(adR.add (i*2)).block,(adR.add (i*2)).off+1,none⟩=some (.slice z.A kl z.c)):=zhy (fun w' hb=>by
      have SY:=S4.o.call (w':=w') (by rw [HXX.o];exact hb);obtain ⟨at2,e2,t2⟩:=SY.2.1.at_ (HTM.o i h1);obtain ⟨ad2,e3,⟨q0,q1⟩,-⟩:=SY.2.2.2.2.1.at_ hz;injection e2 with e2;injection e3 with e3;subst e2 e3;rw [HT.o] at t2;rw [hrr] at q0;rw [hkl] at q1;exact ⟨t2,q0,q1⟩)
     clear hth hat' hme' hzj haj hz hzr hkl hrr;go_upto_region 18 with (fail);obtain ⟨x0,x1,x2,x3,y0,y1,y2,y3⟩:=HZ.o.cells;have hHR:Hid (Ax wz.drew X (fu,lo+hn,he) (.slice Ac nn ck)):=HZ;obtain ⟨wa,hwa⟩:∃wa,wz.drew.alloc (.cells #[.int .i64 j,.int .i64 t,.bool rr,.int .i64 (lo+kl-aj)] 183)=wa:=⟨_,rfl⟩
     have HWA:Hid (Ax wa X (fu,lo+hn,he) (.slice Ac nn ck)∧wa.ownsRow (X+1) 183 4 (.slice Ac nn ck) nn (clr cl4 (zf4 d h L T.1 i))∧Below X w4 wa∧js wa (I+1) (1,0,0)∧X+1≤wa.heap.size∧zep wa I 30 j zb ∧
       (∀q u,(cl4 ((j:Int),t,rr,lo+kl-aj))[q]?=some u→wa.cell? ((⟨wz.heap.size,0,none⟩:Addr).add q)=some u)):=zhy (by
      rw [←hwa]
      have hz1:Ax wz.drew X (fu,lo+hn,he) (.slice Ac nn ck):=HZ.o
      have hz2:wz.drew.ownsRow (X+1) 183 4 (.slice Ac nn ck) nn (clr cl4 (zf4 d h L T.1 i)):=HOZ.o
      have hz3:js wz.drew (I+1) (1,0,0):=HEC.o
      have hlt:X<wz.drew.heap.size:=HZ.o.lt
      have hz4:zep wz.drew I 30 j zb:=HIC.o
      refine ⟨hz1.keep qh,hz2.alloc _,(qf HBZ.o 1).trans (qh.mono (by have:=hlt;exact Nat.le_of_lt this)),hz3.keep qh,by rw [qn];omega,hz4.keep qh,fun q u hq=>?_⟩
      match q,hq with
      | 0,hq=>simp [cl4] at hq;subst hq;simp [go_sem,Addr.add]
      | 1,hq=>simp [cl4] at hq;subst hq;simp [go_sem,Addr.add]
      | 2,hq=>simp [cl4] at hq;subst hq;simp [go_sem,Addr.add]
      | 3,hq=>simp [cl4] at hq;subst hq;simp [go_sem,Addr.add])
     refine zu [27] (S:=fun w'=>w'.cell? ⟨X,3,none⟩=some (.slice Ac nn ck)∧w'.cell? ⟨I,1,none⟩=some (.int .i64 (j:Int))∧w'.cell? (at_.add i)=some (.int .i64 t)∧w'.cell? (adR.add (i*2))=some (.bool rr)∧w'.cell? ⟨(adR.add (i*2)).block,(adR.add (i*2)).off+1,none⟩=some (.slice z.A kl z.c)) (by kernel_rfl) (⟨x3,i1,t1,r0,r1⟩) (fun hHeld=>?_);refine qd (i:=0) (v:=?_) rfl (by kernel_rfl) (fun _ _ _ h=>h) (Or.inl ⟨by rfl,?_⟩) (Or.inr (by assumption)) ?_;rotate_left 1
     ·intro w _;go_simp;try with_reducible rfl
     (try simp only [Act.put,zg1,zg2,zg3,zg4,zg5,zg6]);refine qq (i:=1) (v:=?_) rfl (by kernel_rfl) (fun _ _ _ h=>h) (Or.inl ⟨by rfl,?_⟩) (by assumption) ?_;rotate_left 1
     ·intro w hSw;(try dsimp only at hSw);obtain ⟨s0,s1,s2,s3,s4⟩:=hSw;go_simp;try with_reducible rfl
     (try simp only [Act.put,zg1,zg2,zg3,zg4,zg5,zg6]);refine qd (i:=2) (v:=?_) rfl (by kernel_rfl) (fun _ _ _ h=>h) (Or.inl ⟨by rfl,?_⟩) (Or.inr (by assumption)) ?_;rotate_left 1
     ·intro w _;go_simp;try with_reducible rfl
     (try simp only [Act.put,zg1,zg2,zg3,zg4,zg5,zg6]);refine qq (i:=3) (v:=?_) rfl (by kernel_rfl) (fun _ _ _ h=>h) (Or.inl ⟨by rfl,?_⟩) (by assumption) ?_;rotate_left 1
     ·intro w hSw;(try dsimp only at hSw);obtain ⟨s0,s1,s2,s3,s4⟩:=hSw;go_simp;try with_reducible rfl
     (try simp only [Act.put,zg1,zg2,zg3,zg4,zg5,zg6]);refine qd (i:=4) (v:=?_) rfl (by kernel_rfl) (fun _ _ _ h=>h) (Or.inl ⟨by rfl,?_⟩) (Or.inr (by assumption)) ?_;rotate_left 1
     ·intro w _;go_simp;try with_reducible rfl
     (try simp only [Act.put,zg1,zg2,zg3,zg4,zg5,zg6]);refine qd (i:=5) (v:=?_) rfl (by kernel_rfl) (fun _ _ _ h=>h) (Or.inl ⟨by rfl,?_⟩) (Or.inr (by assumption)) ?_;rotate_left 1
     ·intro w _;go_simp;try with_reducible rfl
     (try simp only [Act.put,zg1,zg2,zg3,zg4,zg5,zg6]);refine qd (i:=6) (v:=?_) rfl (by kernel_rfl) (fun _ _ _ h=>h) (Or.inl ⟨by rfl,?_⟩) (Or.inr (by assumption)) ?_;rotate_left 1
     ·intro w _;go_simp;try with_reducible rfl
     (try simp only [Act.put,zg1,zg2,zg3,zg4,zg5,zg6]);refine qq (i:=7) (v:=?_) rfl (by kernel_rfl) (fun _ _ _ h=>h) (Or.inl ⟨by rfl,?_⟩) (by assumption) ?_;rotate_left 1
     ·intro w hSw;(try dsimp only at hSw);obtain ⟨s0,s1,s2,s3,s4⟩:=hSw;go_simp;try with_reducible rfl
     (try simp only [Act.put,zg1,zg2,zg3,zg4,zg5,zg6]);refine qd (i:=8) (v:=?_) rfl (by kernel_rfl) (fun _ _ _ h=>h) (Or.inl ⟨by rfl,?_⟩) (Or.inr (by assumption)) ?_;rotate_left 1
     ·intro w _;go_simp;try with_reducible rfl
     (try simp only [Act.put,zg1,zg2,zg3,zg4,zg5,zg6]);refine qd (i:=9) (v:=?_) rfl (by kernel_rfl) (fun _ _ _ h=>h) (Or.inl ⟨by rfl,?_⟩) (Or.inr (by assumption)) ?_;rotate_left 1
     ·intro w _;go_simp;try with_reducible rfl
     (try simp only [Act.put,zg1,zg2,zg3,zg4,zg5,zg6]);refine qd (i:=10) (v:=?_) rfl (by kernel_rfl) (fun _ _ _ h=>h) (Or.inl ⟨by rfl,?_⟩) (Or.inr (by assumption)) ?_;rotate_left 1
     ·intro w _;go_simp;try with_reducible rfl
     (try simp only [Act.put,zg1,zg2,zg3,zg4,zg5,zg6]);refine qd (i:=11) (v:=?_) rfl (by kernel_rfl) (fun _ _ _ h=>h) (Or.inl ⟨by rfl,?_⟩) (Or.inr (by assumption)) ?_;rotate_left 1
     ·intro w _;go_simp;try with_reducible rfl
     (try simp only [Act.put,zg1,zg2,zg3,zg4,zg5,zg6]);refine qq (i:=12) (v:=?_) rfl (by kernel_rfl) (fun _ _ _ h=>h) (Or.inl ⟨by rfl,?_⟩) (by assumption) ?_;rotate_left 1
     ·intro w hSw;(try dsimp only at hSw);obtain ⟨s0,s1,s2,s3,s4⟩:=hSw;go_simp;try with_reducible rfl
     (try simp only [Act.put,zg1,zg2,zg3,zg4,zg5,zg6]);refine qd (i:=13) (v:=?_) rfl (by kernel_rfl) (fun _ _ _ h=>h) (Or.inl ⟨by rfl,?_⟩) (Or.inr (by assumption)) ?_;rotate_left 1
     ·intro w _;go_simp;try with_reducible rfl
     (try simp only [Act.put,zg1,zg2,zg3,zg4,zg5,zg6]);refine qd (i:=14) (v:=?_) rfl (by kernel_rfl) (fun _ _ _ h=>h) (Or.inl ⟨by rfl,?_⟩) (Or.inr (by assumption)) ?_;rotate_left 1
     ·intro w _;go_simp;try with_reducible rfl
     (try simp only [Act.put,zg1,zg2,zg3,zg4,zg5,zg6]);refine qd (i:=15) (v:=?_) rfl (by kernel_rfl) (fun _ _ _ h=>h) (Or.inl ⟨by rfl,?_⟩) (Or.inr (by assumption)) ?_;rotate_left 1
     ·intro w _;go_simp;try with_reducible rfl
     (try simp only [Act.put,zg1,zg2,zg3,zg4,zg5,zg6]);refine qd (i:=16) (v:=?_) rfl (by kernel_rfl) (fun _ _ _ h=>h) (Or.inl ⟨by rfl,?_⟩) (Or.inr (by assumption)) ?_;rotate_left 1
     ·intro w _;go_simp;try with_reducible rfl
     (try simp only [Act.put,zg1,zg2,zg3,zg4,zg5,zg6]);refine qd (i:=17) (v:=?_) rfl (by kernel_rfl) (fun _ _ _ h=>h) (Or.inl ⟨by rfl,?_⟩) (Or.inr (by assumption)) ?_;rotate_left 1
     ·intro w _;go_simp;try with_reducible rfl
     (try simp only [Act.put,zg1,zg2,zg3,zg4,zg5,zg6]);refine qq (i:=18) (v:=?_) rfl (by kernel_rfl) (fun _ _ _ h=>h) (Or.inl ⟨by rfl,?_⟩) (by assumption) ?_;rotate_left 1
     ·intro w hSw;(try dsimp only at hSw);obtain ⟨s0,s1,s2,s3,s4⟩:=hSw;go_simp;try with_reducible rfl
     (try simp only [Act.put,zg1,zg2,zg3,zg4,zg5,zg6]);refine qd (i:=19) (v:=?_) rfl (by kernel_rfl) (fun _ _ _ h=>h) (Or.inl ⟨by rfl,?_⟩) (Or.inr (by assumption)) ?_;rotate_left 1
     ·intro w _;go_simp;try with_reducible rfl
     (try simp only [Act.put,zg1,zg2,zg3,zg4,zg5,zg6]);refine qd (i:=20) (v:=?_) rfl (by kernel_rfl) (fun _ _ _ h=>h) (Or.inl ⟨by rfl,?_⟩) (Or.inr (by assumption)) ?_;rotate_left 1
     ·intro w _;go_simp;try with_reducible rfl
     (try simp only [Act.put,zg1,zg2,zg3,zg4,zg5,zg6]);refine qd (i:=21) (v:=?_) rfl (by kernel_rfl) (fun _ _ _ h=>h) (Or.inl ⟨by rfl,?_⟩) (Or.inr (by assumption)) ?_;rotate_left 1
     ·intro w _;go_simp;try with_reducible rfl
     (try simp only [Act.put,zg1,zg2,zg3,zg4,zg5,zg6]);refine qd (i:=22) (v:=?_) rfl (by kernel_rfl) (fun _ _ _ h=>h) (Or.inl ⟨by rfl,?_⟩) (Or.inr (by assumption)) ?_;rotate_left 1
     ·intro w _;go_simp;try with_reducible rfl
     (try simp only [Act.put,zg1,zg2,zg3,zg4,zg5,zg6]);refine qd (i:=23) (v:=?_) rfl (by kernel_rfl) (fun _ _ _ h=>h) (Or.inl ⟨by rfl,?_⟩) (Or.inr (by assumption)) ?_;rotate_left 1
     ·intro w _;go_simp;try with_reducible rfl
     (try simp only [Act.put,zg1,zg2,zg3,zg4,zg5,zg6]);refine qp (rs:=[24]) (by kernel_rfl) (by simp) ?_;refine zad.cons rfl (fun K hK=>?_) zad.nil;go_simp;go_simp;go_wp2_with fail;refine hK.out _ _ (⟨HWA.o.1.cells.2.2.2.1,HWA.o.2.2.2.2.2.1.cells.2.1,HTW.o wa HWA.o.2.2.1⟩) (fun hHeld=>?_);clear hK K;(try simp only [Act.put,zg1,zg2,zg3,zg4,zg5,zg6]);refine qp (rs:=[25]) (by kernel_rfl) (by simp) ?_;refine zad.cons rfl (fun K hK=>?_) zad.nil;refine zds zkm zyo _ _ 32 _ Tryz.underlying103 Tryz.infoCl rfl (by decide) (by decide) rfl (.tmp 78) (.tmp 101) rfl (X+1) _ nn (zf4 d h L T.1 i) rfl HWA.o.2.1 _ ((j:Int),t,rr,lo+kl-aj) rfl HWA.o.2.2.2.2.2.2 (by omega) HWA.o.2.2.2.2.1 ?_;intro A9 c9 w9 ho9 hg9 hb9 _;rw [←HCA.o] at ho9;have HO9':=zhy ho9;have HX9':Hid (Ax w9 X (fu,lo+hn,he) (.slice Ac nn ck)):=zhy (zcr HWA.o.1 HWA.o.2.1 (by decide) hg9);have HC9':Hid (js w9 (I+1) (1,0,0)):=zhy (zcr HWA.o.2.2.2.1 HWA.o.2.1 (by decide) hg9);have HI9':Hid (zep w9 I 30 j zb):=zhy (zcr HWA.o.2.2.2.2.2.1 HWA.o.2.1 (by decide) hg9);have HB9':Hid (Below X w4 w9):=zhy (HWA.o.2.2.1.trans (hb9.mono (by omega)));obtain ⟨x0',x1',x2',x3',y0',y1',y2',y3'⟩:=HX9'.o.cells;clear ho9 hg9 hb9;refine hK.out _ _ (⟨x3',HI9'.o.cells.2.1,HTW.o w9 HB9'.o⟩) (fun hHeld=>?_);clear hK K;(try simp only [Act.put,zg1,zg2,zg3,zg4,zg5,zg6]);refine qd (i:=26) (v:=?_) rfl (by kernel_rfl) (fun _ _ _ h=>h) (Or.inl ⟨by rfl,?_⟩) (Or.inr (by assumption)) ?_;rotate_left 1
     ·intro w _;go_simp;try with_reducible rfl
     (try simp only [Act.put,zg1,zg2,zg3,zg4,zg5,zg6]);refine qp (rs:=[27]) (by kernel_rfl) (by simp) ?_;refine zad.late rfl (by kernel_rfl) (fun K hK=>?_) zad.nil;go_simp;refine hK.out _ _ ?_;clear hK K;(try simp only [Act.put,zg1,zg2,zg3,zg4,zg5,zg6]);refine jm (by kernel_rfl) ?_ _;have HZ2:=zhy (HX9'.o.set3 (.slice A9 (nn+1) c9));have HOZ2:=zhy (ownsRow_setCell_below HO9'.o (show (⟨X,3,none⟩:Addr).block<X+1 from by show X<X+1;omega) (.slice A9 (nn+1) c9));have HBZ2:=zhy (HB9'.o.setCell (p:=⟨X,3,none⟩) (Nat.le_refl _) (.slice A9 (nn+1) c9));have HEC2:=zhy (HC9'.o.other (p:=⟨X,3,none⟩) (by show X≠I+1;omega) (.slice A9 (nn+1) c9))
     have t2:(w9.setCell ⟨X,3,none⟩ (.slice A9 (nn+1) c9)).cell? (at_.add i)=some (.int .i64 t):=by
      have SY:=S4.o.call (w':=w9.setCell ⟨X,3,none⟩ (.slice A9 (nn+1) c9)) (by rw [HXX.o];exact HBZ2.o);obtain ⟨at2,e2,t2⟩:=SY.2.1.at_ (HTM.o i h1);injection e2 with e2;subst e2;rw [HT.o] at t2;exact t2
     clear hHeld HZ HOZ HBZ HEC HWA hHR HTW HI9' HO9' HX9' HC9' HB9' e0 e1 e2 f0 f1 f2 t1 SZ HIC i0 i1 i2 x0 x1 x2 x3 y0 y1 y2 y3 r0 r1 g0 d0 d1 d2 d3 d4 x0' x1' x2' x3' y0' y1' y2' y3';go_upto_region 19 with (fail);generalize w9.setCell ⟨X,3,none⟩ (.slice A9 (nn+1) c9)=wy at HZ2 HOZ2 HBZ2 HEC2 t2 ⊢;obtain ⟨e0,e1,e2,f0,f1,f2⟩:=HEC2.o.cells;dsimp only at e0 e1 e2;have hm0:0≤0*t:=by omega
     have hm1:0*t≤1024*100000000:=by omega
     refine zu [6] (S:=fun w'=>w'.cell? ⟨I+1,0,none⟩=some (.int .i64 1)∧w'.cell? ⟨I+1,1,none⟩=some (.int .i64 0)∧w'.cell? ⟨I+1,2,none⟩=some (.int .i64 0)∧w'.cell? (at_.add i)=some (.int .i64 t)) (by kernel_rfl) (⟨e0,e1,e2,t2⟩) (fun hHeld=>?_);refine qd (i:=0) (v:=?_) rfl (by kernel_rfl) (fun _ _ _ h=>h) (Or.inl ⟨by rfl,?_⟩) (Or.inr (by assumption)) ?_;rotate_left 1
     ·intro w _;go_simp;try with_reducible rfl
     (try simp only [Act.put,zg1,zg2,zg3,zg4,zg5,zg6]);refine qq (i:=1) (v:=?_) rfl (by kernel_rfl) (fun _ _ _ h=>h) (Or.inl ⟨by rfl,?_⟩) (by assumption) ?_;rotate_left 1
     ·intro w hSw;(try dsimp only at hSw);obtain ⟨s0,s1,s2,s3⟩:=hSw;go_simp;try with_reducible rfl
     (try simp only [Act.put,zg1,zg2,zg3,zg4,zg5,zg6]);refine qd (i:=2) (v:=?_) rfl (by kernel_rfl) (fun _ _ _ h=>h) (Or.inl ⟨by rfl,?_⟩) (Or.inr (by assumption)) ?_;rotate_left 1
     ·intro w _;go_simp;try with_reducible rfl
     (try simp only [Act.put,zg1,zg2,zg3,zg4,zg5,zg6]);refine qd (i:=3) (v:=?_) rfl (by kernel_rfl) (fun _ _ _ h=>h) (Or.inl ⟨by rfl,?_⟩) (Or.inr (by assumption)) ?_;rotate_left 1
     ·intro w _;go_simp;try with_reducible rfl
     (try simp only [Act.put,zg1,zg2,zg3,zg4,zg5,zg6]);refine qd (i:=4) (v:=?_) rfl (by kernel_rfl) (fun _ _ _ h=>h) (Or.inl ⟨by rfl,?_⟩) (Or.inr (by assumption)) ?_;rotate_left 1
     ·intro w _;go_simp;try with_reducible rfl
     (try simp only [Act.put,zg1,zg2,zg3,zg4,zg5,zg6]);refine qq (i:=5) (v:=?_) rfl (by kernel_rfl) (fun _ _ _ h=>h) (Or.inl ⟨by rfl,?_⟩) (by assumption) ?_;rotate_left 1
     ·intro w hSw;(try dsimp only at hSw);obtain ⟨s0,s1,s2,s3⟩:=hSw;go_simp;try with_reducible rfl
     (try simp only [Act.put,zg1,zg2,zg3,zg4,zg5,zg6]);refine qp (rs:=[6]) (by kernel_rfl) (by simp) ?_;refine zad.late rfl (by kernel_rfl) (fun K hK=>?_) zad.nil;go_simp;refine (zh5 X (fu,lo+hn,he) _ 1 0 (0) t _ (show Ax (wy.drew) X _ _ from HZ2.o) (by omega) (by omega) (by show 0≤fu∧fu≤_;omega) (by show 0≤he∧he≤_;omega)).mono ?_;rintro r w9 ⟨rfl,hx9,hf9⟩;go_wp2_with fail;refine hK.out _ _ ?_;clear hK K;(try simp only [Act.put,zg1,zg2,zg3,zg4,zg5,zg6]);refine jm (by kernel_rfl) ?_ _
     have HX9:Hid (Ax w9 X (zic L (i+1),lo+hn,zid L (i+1)) _):=zhy (by
      have h:=hx9;rw [Int.one_mul] at h;rw [HFS.o,HHS.o,HHN2.o];exact h)
     have HO9:=zhy (hf9.own (show (wy.drew).ownsRow _ _ _ _ _ _ from HOZ2.o) (fun g hg e=>by have:=(HOZ2.o.lt g hg).1;omega));have HB9:Hid (Below X w4 w9):=zhy ((qf HBZ2.o 1).trans (hf9.below (Nat.le_refl _) (show X≤wy.heap.size by have:=HZ2.o.lt;omega)));clear hx9 hf9 HZ2 HOZ2 HBZ2 HEC2 e0 e1 e2 f0 f1 f2 t2 hHeld;go_wp2_with fail;go_roundw
     case rel=>exact ⟨i+1,nn+1,c9,A9,by omega,by go_num,by omega,HX9,HO9,HB9⟩
     case measure=>simp [intOf];omega
    ·have HHN2:Hid (zny L i=0*t):=zhy (by rw [zny,HO1.o.1,if_neg ho22,Int.zero_mul]);have HCA:Hid (zf4 d h L T.1 (i+1)=zf4 d h L T.1 i):=zhy (by rw [zb4,HO1.o.1,if_neg ho30,List.append_nil]);have HZ2:=HZ;have HOZ2:=HOZ;have HBZ2:=HBZ;have HEC2:=HEC;have t2:=t1;rw [←HCA.o] at HOZ2;have b22:(o==22)=false:=by simpa using ho22
     have b30:(o==30)=false:=by simpa using ho30
     go_upto_region 19 with (fail);clear HZ HOZ HBZ HEC t1 SZ HIC i0 i1 i2;have hm0:0≤0*t:=by omega
     have hm1:0*t≤1024*100000000:=by omega
     refine zu [6] (S:=fun w'=>w'.cell? ⟨I+1,0,none⟩=some (.int .i64 1)∧w'.cell? ⟨I+1,1,none⟩=some (.int .i64 0)∧w'.cell? ⟨I+1,2,none⟩=some (.int .i64 0)∧w'.cell? (at_.add i)=some (.int .i64 t)) (by kernel_rfl) (⟨e0,e1,e2,t2⟩) (fun hHeld=>?_);refine qd (i:=0) (v:=?_) rfl (by kernel_rfl) (fun _ _ _ h=>h) (Or.inl ⟨by rfl,?_⟩) (Or.inr (by assumption)) ?_;rotate_left 1
     ·intro w _;go_simp;try with_reducible rfl
     (try simp only [Act.put,zg1,zg2,zg3,zg4,zg5,zg6]);refine qq (i:=1) (v:=?_) rfl (by kernel_rfl) (fun _ _ _ h=>h) (Or.inl ⟨by rfl,?_⟩) (by assumption) ?_;rotate_left 1
     ·intro w hSw;(try dsimp only at hSw);obtain ⟨s0,s1,s2,s3⟩:=hSw;go_simp;try with_reducible rfl
     (try simp only [Act.put,zg1,zg2,zg3,zg4,zg5,zg6]);refine qd (i:=2) (v:=?_) rfl (by kernel_rfl) (fun _ _ _ h=>h) (Or.inl ⟨by rfl,?_⟩) (Or.inr (by assumption)) ?_;rotate_left 1
     ·intro w _;go_simp;try with_reducible rfl
     (try simp only [Act.put,zg1,zg2,zg3,zg4,zg5,zg6]);refine qd (i:=3) (v:=?_) rfl (by kernel_rfl) (fun _ _ _ h=>h) (Or.inl ⟨by rfl,?_⟩) (Or.inr (by assumption)) ?_;rotate_left 1
     ·intro w _;go_simp;try with_reducible rfl
     (try simp only [Act.put,zg1,zg2,zg3,zg4,zg5,zg6]);refine qd (i:=4) (v:=?_) rfl (by kernel_rfl) (fun _ _ _ h=>h) (Or.inl ⟨by rfl,?_⟩) (Or.inr (by assumption)) ?_;rotate_left 1
     ·intro w _;go_simp;try with_reducible rfl
     (try simp only [Act.put,zg1,zg2,zg3,zg4,zg5,zg6]);refine qq (i:=5) (v:=?_) rfl (by kernel_rfl) (fun _ _ _ h=>h) (Or.inl ⟨by rfl,?_⟩) (by assumption) ?_;rotate_left 1
     ·intro w hSw;(try dsimp only at hSw);obtain ⟨s0,s1,s2,s3⟩:=hSw;go_simp;try with_reducible rfl
     (try simp only [Act.put,zg1,zg2,zg3,zg4,zg5,zg6]);refine qp (rs:=[6]) (by kernel_rfl) (by simp) ?_;refine zad.late rfl (by kernel_rfl) (fun K hK=>?_) zad.nil;go_simp;refine (zh5 X (fu,lo+hn,he) _ 1 0 (0) t _ (show Ax (wz.drew) X _ _ from HZ2.o) (by omega) (by omega) (by show 0≤fu∧fu≤_;omega) (by show 0≤he∧he≤_;omega)).mono ?_;rintro r w9 ⟨rfl,hx9,hf9⟩;go_wp2_with fail;refine hK.out _ _ ?_;clear hK K;(try simp only [Act.put,zg1,zg2,zg3,zg4,zg5,zg6]);refine jm (by kernel_rfl) ?_ _
     have HX9:Hid (Ax w9 X (zic L (i+1),lo+hn,zid L (i+1)) _):=zhy (by
      have h:=hx9;rw [Int.one_mul] at h;rw [HFS.o,HHS.o,HHN2.o];exact h)
     have HO9:=zhy (hf9.own (show (wz.drew).ownsRow _ _ _ _ _ _ from HOZ2.o) (fun g hg e=>by have:=(HOZ2.o.lt g hg).1;omega));have HB9:Hid (Below X w4 w9):=zhy ((qf HBZ2.o 1).trans (hf9.below (Nat.le_refl _) (show X≤wz.heap.size by have:=HZ2.o.lt;omega)));clear hx9 hf9 HZ2 HOZ2 HBZ2 HEC2 e0 e1 e2 f0 f1 f2 t2 hHeld;go_wp2_with fail;go_roundw
     case rel=>exact ⟨i+1,nn,ck,Ac,by omega,by go_num,by omega,HX9,HO9,HB9⟩
     case measure=>simp [intOf];omega
  ·obtain rfl:m=i:=by omega
   have hck:=HX.o.cells;obtain ⟨x0,x1,x2,x3,-⟩:=hck;have HR:=zhy SQ.o.2.2.2.2.2.1;obtain ⟨r0,r1,r2,r3,f0,f1,f2,f3⟩:=HR.o.cells;dsimp only [zd4] at r0 r1 r2;dsimp only at x0 x1 x2;have hRX:B+1<X:=by omega
   have HNN:=zhy (Rg.of_own zkm (by omega) (((ownsRow_setCell_below (ownsRow_setCell_below (ownsRow_setCell_below (ownsRow_setCell_below HO.o (a:=⟨B+1,0,none⟩) (by show B+1<X+1;omega) (.int .i64 (zic L m))) (a:=⟨B+1,1,none⟩) (by show B+1<X+1;omega) (.int .i64 (lo+hn))) (a:=⟨B+1,2,none⟩) (by show B+1<X+1;omega) (.int .i64 (zid L m))) (a:=⟨B+1,3,none⟩) (by show B+1<X+1;omega) (.slice Ac nn ck)))))
   have HNW:Hid (∀ad:Addr,Ac=some ad→B+1<ad.block):=zhy (fun ad e=>by
    subst e;have:=(HO.o.lt ad.block rfl).1;omega)
   have HBW:=zhy SQ.o.1;have HAX:=zhy ((((HR.o.set0 (zic L m)).set1 (lo+hn)).set2 (zid L m)).set3 (.slice Ac nn ck));clear SQ HO HB HR;go_wp2_with fail;refine zj6 _ _ (B+1) _ _ 0 rfl rfl HAX.o _ ?_;refine .inr ⟨by rw [HTT.o];exact HE0.o,⟨(zic L m,lo+hn,zid L m),Ac,ck,zf4 d h L T.1 m⟩,by rw [←HNN.o.2],?_,?_,HNN.o.1,fun ad e=>by have:=HNW.o ad e;have:=HBB.o;omega,?_⟩
   ·rw [zkc,qc6,HME.o,HCO.o,HTT.o,HLm.o,HLO.o,HHN.o]
   ·rw [ziy,HME.o,HCO.o,HTT.o,HLm.o]
   ·have:=HBB.o;exact (((HBW.o.setCell (p:=⟨B+1,0,none⟩) (by show w.heap.size≤B+1;omega) _).setCell (p:=⟨B+1,1,none⟩) (by show w.heap.size≤B+1;omega) _).setCell (p:=⟨B+1,2,none⟩) (by show w.heap.size≤B+1;omega) _).setCell (p:=⟨B+1,3,none⟩) (by show w.heap.size≤B+1;omega) _
end Go.Proofs.YtnjgkkoiamiaaaaGreatDoor
