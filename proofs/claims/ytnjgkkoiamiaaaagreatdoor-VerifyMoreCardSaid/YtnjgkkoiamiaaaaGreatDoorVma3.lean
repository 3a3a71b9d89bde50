import Derived.Test.YtnjgkkoiamiaaaaGreatDoorVma1
import Derived.Test.YtnjgkkoiamiaaaaGreatDoorVma2
import Derived.ProofKit
import Derived.LaidMore
import Derived.OpenShut
import Derived.Stop.Joined
import Derived.Lib.SmallJoins
set_option maxRecDepth 100000
set_option maxHeartbeats 16000000
set_option linter.unusedSimpArgs false
set_option linter.unusedVariables false
namespace Go.Proofs.YtnjgkkoiamiaaaaGreatDoor
open Go.RowKit
section
open Go.ChangeShapes Go.WideShapes Go.ChangeAt Go.RowKit
theorem tWidths:(Tryz.prog.globals[6]?).map (·.type)=some 251:=by kernel_rfl
theorem arr_ints {H:Type} {enc:TypeId×Value→H} {P:Program} {w:World} {base:Nat} {sp:Nat→Bool} {held:Bool} {fuel:Nat} {t e:TypeId} {k:IntKind} {n:Nat} {cs:List Value} {ds:List (DataW H)} {p:List MemPlace}
  (ht:P.underlying t=some (.array n e)) (he:P.underlying e=some (.int k)) (hE:P.cellsOf e=1) (h:DataW.trod enc P w base sp held fuel t cs=some (.agg ds,p)) (i:Nat) (hi:i<n) (z:Int) (hz:ds[i]?=some (.lit (.int k z))):cs[i]?=some (.int k z):=by
 obtain ⟨xs,m,rfl,hx,_,hn,hel⟩:=DataW.trod_array ht h
 simp only [Prod.mk.injEq,DataW.agg.injEq] at hx
 obtain ⟨rfl,_⟩:=hx
 have h1:=hel i hi
 rw [hE,Nat.mul_one] at h1
 rw [List.getElem?_map] at hz
 cases hxi:xs[i]? with
 | none=>rw [hxi] at hz;cases hz
 | some x =>
  rw [hxi] at hz h1
  simp only [Option.map_some,Option.some.injEq] at hz
  obtain ⟨q,e1,e2,_⟩:=DataW.trod_int he h1
  rw [e2] at hz
  simp only [DataW.lit.injEq,Lit.int.injEq,true_and] at hz
  subst hz
  have:=congrArg (fun l:List Value=>l[0]?) e1
  simpa using this
theorem arr_at {H:Type} {enc:TypeId×Value→H} {P:Program} {w:World} {base:Nat} {sp:Nat→Bool} {held:Bool} {fuel:Nat} {t e:TypeId} {n c:Nat} {cs:List Value} {ds:List (DataW H)} {p:List MemPlace}
  (ht:P.underlying t=some (.array n e)) (hE:P.cellsOf e=c) (h:DataW.trod enc P w base sp held fuel t cs=some (.agg ds,p)) (i:Nat) (hi:i<n) (d:DataW H) (hz:ds[i]?=some d) :
  ∃m q,DataW.trod enc P w base sp held m e ((cs.drop (i*c)).take c)=some (d,q):=by
 obtain ⟨xs,m,rfl,hx,_,hn,hel⟩:=DataW.trod_array ht h
 simp only [Prod.mk.injEq,DataW.agg.injEq] at hx
 obtain ⟨rfl,_⟩:=hx
 have h1:=hel i hi
 rw [hE] at h1
 rw [List.getElem?_map] at hz
 cases hxi:xs[i]? with
 | none=>rw [hxi] at hz;cases hz
 | some x =>
  rw [hxi] at hz h1
  simp only [Option.map_some,Option.some.injEq] at hz
  exact ⟨m,x.2,by rw [h1,←hz]⟩
theorem of_GW (laid:List (String×DataW Unit)) (k:Nat) (hpl:(laid.all fun x=>x.2.handleName?.isNone)=true) (hk:(laid[k]?).map (·.2)=some (.agg [.agg [.lit (.int .i64 0),.lit (.int .i64 0)],.agg [.lit (.int .i64 8),.lit (.int .i64 0)],.agg [.lit (.int .i64 3),.lit (.int .i64 3)]])) (hn:((laid[k]?).bind fun x=>Tryz.prog.globalNamed x.1)=some 6) {W:World}
  (h:laidMetH Tryz.prog laid W):GW W:=by
 rw [MakeChecks.laidMetH_plain _ _ _ hpl] at h
 obtain ⟨ps,hl,_,_⟩:=h
 cases hx:laid[k]? with
 | none=>rw [hx] at hk;cases hk
 | some x =>
  obtain ⟨n,d⟩:=x
  rw [hx] at hk hn
  simp only [Option.map_some,Option.some.injEq] at hk
  simp only [Option.bind_some] at hn
  subst hk
  obtain ⟨g0,t0,cs0,f0,p0,hg0,ht0,hv0,hd0⟩:=laid_limb hl k n _ hx
  obtain rfl:=Option.some.inj (hn.symm.trans hg0)
  obtain rfl:=Option.some.inj (tWidths.symm.trans ht0)
  have u1:=Tryz.underlying251
  have u2:=Tryz.underlying250
  have u3:=Tryz.underlying3
  have c2:Tryz.prog.cellsOf 250=2:=by kernel_rfl
  have c3:Tryz.prog.cellsOf 3=1:=by kernel_rfl
  have hcell:∀i v,cs0.toList[i]?=some v→W.cell? ⟨6,i,none⟩=some v:=fun i v hi=>by
   have:=World.var?_cell hg0 hv0 i;rw [this];simpa using hi
  have row:∀i j z,i<3→j<2→(∃d1 d2,([.agg [.lit (.int .i64 0),.lit (.int .i64 0)],.agg [.lit (.int .i64 8),.lit (.int .i64 0)],.agg [.lit (.int .i64 3),.lit (.int .i64 3)]]:List (DataW Unit))[i]?=some (.agg [d1,d2])∧[d1,d2][j]?=some (.lit (.int .i64 z)))→cs0.toList[i*2+j]?=some (.int .i64 z):=by
   rintro i j z hi hj ⟨d1,d2,h1,h2⟩;obtain ⟨m,q,hm⟩:=arr_at u1 c2 hd0 i hi _ h1;have:=arr_ints u2 u3 c3 hm j hj z h2;rw [List.getElem?_take,if_pos hj,List.getElem?_drop] at this;exact this
  exact ⟨hcell 0 _ (row 0 0 0 (by decide) (by decide) ⟨_,_,rfl,rfl⟩),hcell 1 _ (row 0 1 0 (by decide) (by decide) ⟨_,_,rfl,rfl⟩),hcell 2 _ (row 1 0 8 (by decide) (by decide) ⟨_,_,rfl,rfl⟩),
   hcell 3 _ (row 1 1 0 (by decide) (by decide) ⟨_,_,rfl,rfl⟩),hcell 4 _ (row 2 0 3 (by decide) (by decide) ⟨_,_,rfl,rfl⟩),hcell 5 _ (row 2 1 3 (by decide) (by decide) ⟨_,_,rfl,rfl⟩)⟩
end
abbrev Vlu:=Int×Int×Int
def VlOk (x:Vlu):Prop:=(0≤x.1∧x.1<256)∧(-9223372036854775808≤x.2.1∧x.2.1≤9223372036854775807)∧(-9223372036854775808≤x.2.2∧x.2.2≤9223372036854775807)
def Rv (w:World) (A:Option Addr) (c:Nat) (L:List Vlu):Prop:=
 (∀x∈L,VlOk x)∧L.length≤c∧c≤maxLen∧((A=none∧c=0)∨∃ad:Addr,A=some ad∧∀i x,L[i]?=some x→w.cell? (ad.add (i*3))=some (.int .u8 x.1)∧w.cell? ⟨(ad.add (i*3)).block,(ad.add (i*3)).off+1,none⟩=some (.int .i64 x.2.1)∧w.cell? ⟨(ad.add (i*3)).block,(ad.add (i*3)).off+2,none⟩=some (.int .i64 x.2.2))
def cev (L:List Vlu):List Value:=L.flatMap fun x=>[.int .u8 x.1,.int .i64 x.2.1,.int .i64 x.2.2]
section
variable {w w' : World} {A : Option Addr} {c : Nat} {L : List Vlu}
theorem Rv.le (h:Rv w A c L):L.length≤c:=h.2.1
theorem Rv.len (h:Rv w A c L):L.length≤9223372036854775807:=Nat.le_trans h.le h.2.2.1
theorem Rv.at_ (h:Rv w A c L) {i:Nat} (hi:i<L.length):∃ad:Addr,A=some ad∧w.cell? (ad.add (i*3))=some (.int .u8 (L[i]).1)∧w.cell? ⟨(ad.add (i*3)).block,(ad.add (i*3)).off+1,none⟩=some (.int .i64 (L[i]).2.1)∧w.cell? ⟨(ad.add (i*3)).block,(ad.add (i*3)).off+2,none⟩=some (.int .i64 (L[i]).2.2):=by
 rcases h.2.2.2 with ⟨_,hc⟩ | ⟨ad,ha,hc⟩
 ·have:=h.le;omega
 ·exact ⟨ad,ha,hc i _ (zg7 hi)⟩
theorem Rv.none_ (w:World):Rv w none 0 []:=⟨fun x hx=>(by cases hx),Nat.le_refl _,Nat.zero_le _,.inl ⟨rfl,rfl⟩⟩
theorem Rv.keep (h:Rv w A c L) (hb:Below w.heap.size w w'):Rv w' A c L:=by
 refine ⟨h.1,h.2.1,h.2.2.1,?_⟩;rcases h.2.2.2 with hn | ⟨ad,ha,hc⟩
 ·exact .inl hn
 ·refine .inr ⟨ad,ha,fun i x hx=>?_⟩;obtain ⟨h1,h2,h3⟩:=hc i x hx;exact ⟨(hb.cell (cell_lt h1)).trans h1,(hb.cell (cell_lt h2)).trans h2,(hb.cell (cell_lt h3)).trans h3⟩
end
abbrev fW (A:Option Addr) (c:Nat) (L:List Vlu):Fct:=⟨fun w=>Rv w A c L,fun _ _ h hb=>h.keep hb⟩
theorem length_cev (L:List Vlu):(cev L).length=L.length*3:=by
 induction L with
 | nil=>rfl
 | cons x L ih=>rw [cev,List.flatMap_cons,List.length_append,←cev,ih];simp;omega
theorem cev_append (L M:List Vlu):cev (L++M)=cev L++cev M:=by simp [cev]
theorem cev_cons (x:Vlu) (L:List Vlu):cev (x::L)=.int .u8 x.1::.int .i64 x.2.1::.int .i64 x.2.2::cev L:=by simp [cev]
theorem cev_one (L:List Vlu):∀u∈cev L,u.oneCell'=true:=by
 intro u hu;simp only [cev,List.mem_flatMap] at hu;obtain ⟨x,_,hx⟩:=hu;simp at hx;rcases hx with rfl | rfl | rfl<;>rfl
theorem cev_at {L:List Vlu} {i:Nat} {x:Vlu} (h:L[i]?=some x):(cev L)[i*3]?=some (.int .u8 x.1)∧(cev L)[i*3+1]?=some (.int .i64 x.2.1)∧(cev L)[i*3+2]?=some (.int .i64 x.2.2):=by
 induction L generalizing i with
 | nil=>simp at h
 | cons y L ih =>
  cases i with
  | zero =>
   simp at h;subst h;rw [cev_cons];exact ⟨rfl,rfl,rfl⟩
  | succ i =>
   obtain ⟨h1,h2,h3⟩:=ih (i:=i) (by simpa using h);rw [cev_cons,show (i+1)*3=i*3+1+1+1 by omega,show i*3+1+1+1+1=(i*3+1)+1+1+1 by omega,show i*3+1+1+1+2=(i*3+2)+1+1+1 by omega];simp only [List.getElem?_cons_succ];exact ⟨h1,h2,h3⟩
theorem cev_inv {L:List Vlu} {j:Nat} {u:Value} (h:(cev L)[j]?=some u):∃i x,L[i]?=some x∧((j=i*3∧u=.int .u8 x.1)∨(j=i*3+1∧u=.int .i64 x.2.1)∨(j=i*3+2∧u=.int .i64 x.2.2)):=by
 have hj:=(zg8.1 h).1;rw [length_cev] at hj;have hi:j / 3<L.length:=by omega
 have hx:L[j / 3]?=some L[j / 3]:=zg7 hi;obtain ⟨h1,h2,h3⟩:=cev_at hx;refine ⟨j / 3,_,hx,?_⟩;have h3':j % 3=0∨j % 3=1∨j % 3=2:=by omega
 rcases h3' with e | e | e
 ·have e':j=j / 3*3:=by omega
  rw [←e',h] at h1;exact .inl ⟨e',Option.some.inj h1⟩
 ·have e':j=j / 3*3+1:=by omega
  rw [←e',h] at h2;exact .inr (.inl ⟨e',Option.some.inj h2⟩)
 ·have e':j=j / 3*3+2:=by omega
  rw [←e',h] at h3;exact .inr (.inr ⟨e',Option.some.inj h3⟩)
theorem vadd_1 (ad:Addr) (k:Nat):ad.add (k+1)=⟨(ad.add k).block,(ad.add k).off+1,none⟩:=by
 unfold Addr.add;rw [if_neg (by omega)];split
 ·subst_vars;rfl
 ·rfl
theorem vadd_2 (ad:Addr) (k:Nat):ad.add (k+2)=⟨(ad.add k).block,(ad.add k).off+2,none⟩:=by
 unfold Addr.add;rw [if_neg (by omega)];split
 ·subst_vars;rfl
 ·rfl
theorem Rv.of_own {w:World} {A:Option Addr} {c base e:Nat} {n:Nat} {L:List Vlu} (h:w.ownsRow base e 3 (.slice A n c) n (cev L)) (hb:∀x∈L,VlOk x):Rv w A c L∧n=L.length:=by
 have hn:n=L.length:=by have:=h.1;rw [length_cev] at this;omega
 refine ⟨⟨hb,?_⟩,hn⟩;have hcell:=fun g=>h.cells (g:=g);rcases h.2 with ⟨hv,h0⟩ | ⟨g,cap,cur,hv,_,_,hcap,hm,_⟩
 ·injection hv with e1 e2 e3;exact ⟨by omega,by omega,.inl ⟨e1,e3⟩⟩
 ·injection hv with e1 e2 e3;subst e1 e3;refine ⟨by omega,hm,.inr ⟨_,rfl,fun i x hx=>?_⟩⟩;obtain ⟨h1,h2,h3⟩:=cev_at hx;rw [←vadd_1,←vadd_2];exact ⟨hcell g rfl _ _ h1,hcell g rfl _ _ h2,hcell g rfl _ _ h3⟩
theorem rv_cells {w:World} {ad:Addr} {c:Nat} {L:List Vlu} (h:Rv w (some ad) c L) (hc:0<c):∀j u,(cev L)[j]?=some u→w.cell? (ad.add j)=some u:=by
 intro j u hj;obtain ⟨i,x,hx,hu⟩:=cev_inv hj;rcases h.2.2.2 with ⟨ha,_⟩ | ⟨ad',ha,hcell⟩
 ·cases ha
 ·injection ha with ha;subst ha;obtain ⟨h1,h2,h3⟩:=hcell i x hx;rw [←vadd_1] at h2;rw [←vadd_2] at h3;rcases hu with ⟨rfl,rfl⟩ | ⟨rfl,rfl⟩ | ⟨rfl,rfl⟩
  ·exact h1
  ·exact h2
  ·exact h3
theorem rv_new (w:World) (x:Vlu) (h:VlOk x):Rv (w.alloc (.cells #[.int .u8 x.1,.int .i64 x.2.1,.int .i64 x.2.2] 139)) (some ⟨w.heap.size,0,none⟩) 1 [x]:=by
 refine ⟨fun y hy=>by rw [List.mem_singleton.1 hy];exact h,Nat.le_refl _,by unfold maxLen;omega,.inr ⟨_,rfl,fun i y hi=>?_⟩⟩;match i,hi with
 | 0,hi =>
  simp at hi;subst hi;refine ⟨?_,?_,?_⟩<;>simp [go_sem,Addr.add]
theorem Tryz.infoV:(Tryz.prog.info? 139).map (fun i=>(i.zero,i.size,i.bytes))=some (some (.agg #[.int .u8 0,.int .i64 0,.int .i64 0]),3,24):=by kernel_rfl
theorem wpList_append_rv (w:World) {ops:Array Oper} {rest:List Oper} {o:Oper} {a:Act} {Q:Exit→Act→World→Prop} (hgd:o.guard=none) (s x:Operand)
  (ho:o.op=.call { callee:=.builtin .append,args:=#[s,x],argTypes:=#[22,22]})
  (base:Nat) (v:Value) (n:Nat) (K:List Vlu) (hs:a.eval s=v) (hown:w.ownsRow base 139 3 v n (cev K))
  (A:Option Addr) (m c:Nat) (L:List Vlu) (hx:a.eval x=.slice A m c) (hr:Rv w A c L) (hm:m=L.length) (hbytes:n+m≤1000000) (hbase:base≤w.heap.size)
  (h:∀A' c' w',w'.ownsRow base 139 3 (.slice A' (n+m) c') (n+m) (cev (K++L))→Below base w w'→wpList Tryz.prog ops Q rest (a.put o.dst (.slice A' (n+m) c')) w'):wpList Tryz.prog ops Q (o::rest) a w:=by
 have hinfo:=Tryz.infoV
 rw [Option.map_eq_some_iff] at hinfo
 obtain ⟨i,hi,hz⟩:=hinfo
 simp only [Prod.mk.injEq] at hz
 obtain ⟨hz0,hz1,hz2⟩:=hz
 have hbel:∀{w'},w.grownBy w' v.ownBlock→Below base w w':=fun hg=>(Below.refl _ _).grown hg hbase fun g hg'=>(hown.lt g hg').1
 rcases hr.2.2.2 with ⟨rfl,rfl⟩ | ⟨ad,rfl,hcell⟩
 ·have h0:L=[]:=List.eq_nil_of_length_eq_zero (by have:=hr.le;omega)
  subst h0
  obtain rfl:m=0:=hm
  refine wpList_append_own_none hgd s x 22 ho base 139 i 3 Tryz.underlying22 hi v n (cev K) hs hown hx ?_
  obtain ⟨A',c',rfl⟩:=own_form hown
  have:=h A' c' w (by simpa using hown) (hbel (World.grownBy.refl w _))
  simpa using this
 ·by_cases hc:c=0
  ·subst hc
   have h0:L=[]:=List.eq_nil_of_length_eq_zero (by have:=hr.le;omega)
   subst h0
   obtain rfl:m=0:=hm
   refine wpList_append_own_at w hgd s x 22 ho base 139 i _ 3 24 Tryz.underlying22 hi hz0 hz1 hz2 rfl (by decide) v n (cev K) hs hown ad 0 0 [] hx rfl (fun j u hj=>by cases hj) (fun u hu=>by cases hu) (by unfold maxLen;omega) (by omega) hbase ?_
   intro v' w' hown' hg _ _
   obtain ⟨A',c',rfl⟩:=own_form hown'
   exact h A' c' w' (by simpa using hown') (hbel hg)
  ·refine wpList_append_own_at w hgd s x 22 ho base 139 i _ 3 24 Tryz.underlying22 hi hz0 hz1 hz2 rfl (by decide) v n (cev K) hs hown ad m c (cev L) hx (by rw [length_cev,hm])
    (rv_cells hr (by omega)) (cev_one L) (by unfold maxLen;omega) (by omega) hbase ?_
   intro v' w' hown' hg _ _
   obtain ⟨A',c',rfl⟩:=own_form hown'
   exact h A' c' w' (by rw [cev_append];exact hown') (hbel hg)
theorem r3copy_any (A:Option Addr) (c m:Nat) (L:List Vlu) (w:World) (hr:Rv w A c L) (hm:L.length=m) (hl:m≤1000000):Calls Tryz.prog 32 #[.slice A m c] w fun e w'=>∃A' c',e=.returned (.slice A' m c')∧w'.ownsRow w.heap.size 139 3 (.slice A' m c') m (cev L)∧Below w.heap.size w w':=by
 go_enter Tryz.func32,Tryz.ntmps32;go_wp2_with (at_builtin;refine wpList_append_rv _ rfl _ _ rfl w.heap.size _ 0 [] rfl (World.ownsRow_nil _ _ _ _) A m c L rfl hr hm.symm (by omega) (Nat.le_refl _) ?_);intro A' c' w1 ho hb;have HO:=zhy ho;have HB:=zhy hb;clear ho hb;go_wp2_with fail;go_ret;exact ⟨A',c',rfl,HO.out,HB.out⟩
structure Mh where
 a:List Int
 l:List Int
 r:Int
 q:Bool
 f:Int
 s:Int
 h:Int
structure Mc where
 A:Option Addr
 c:Nat
 B:Option Addr
 d:Nat
 D:Option Addr
 k:Nat
 e:Nat
def Mh.zero:Mh:=⟨[],[],0,false,0,0,0⟩
def Mc.zero:Mc:=⟨none,0,none,0,none,0,0⟩
abbrev mv (x:Mc) (m:Mh):Value:=.agg #[.slice x.A m.a.length x.c,.slice x.B m.l.length x.d,.int .u8 m.r,.bool m.q,.int .i64 m.f,.int .i64 m.s,.int .i64 m.h,.slice x.D x.k x.e]
abbrev hcel (x:Mc) (m:Mh):Obj:=.cells #[.slice x.A m.a.length x.c,.slice x.B m.l.length x.d,.int .u8 m.r,.bool m.q,.int .i64 m.f,.int .i64 m.s,.int .i64 m.h,.slice x.D x.k x.e] 50
def Mh.nums (m:Mh):Prop:=(0≤m.r∧m.r<256)∧(-9223372036854775808≤m.f∧m.f≤9223372036854775807)∧(-9223372036854775808≤m.s∧m.s≤9223372036854775807)∧(-9223372036854775808≤m.h∧m.h≤9223372036854775807)
def Hd (w:World) (x:Mc) (m:Mh):Prop:=Rd w x.A x.c m.a∧Rd w x.B x.d m.l∧m.nums
theorem Hd.keep {w w':World} {x:Mc} {m:Mh} (h:Hd w x m) (hb:Below w.heap.size w w'):Hd w' x m:=⟨h.1.keep hb,h.2.1.keep hb,h.2.2⟩
theorem Hd.la {w:World} {x:Mc} {m:Mh} (h:Hd w x m):m.a.length≤9223372036854775807:=h.1.len
theorem Hd.ll {w:World} {x:Mc} {m:Mh} (h:Hd w x m):m.l.length≤9223372036854775807:=h.2.1.len
theorem Hd.zero (w:World):Hd w Mc.zero Mh.zero:=⟨Rd.none_ w,Rd.none_ w,by unfold Mh.nums Mh.zero;decide⟩
abbrev fH (x:Mc) (m:Mh):Fct:=⟨fun w=>Hd w x m,fun _ _ h hb=>h.keep hb⟩
def Mb (w:World) (B:Nat) (x:Mc) (m:Mh):Prop:=B<w.heap.size∧w.cell? ⟨B,0,none⟩=some (.slice x.A m.a.length x.c)∧w.cell? ⟨B,1,none⟩=some (.slice x.B m.l.length x.d) ∧
 w.cell? ⟨B,2,none⟩=some (.int .u8 m.r)∧w.cell? ⟨B,3,none⟩=some (.bool m.q)∧w.cell? ⟨B,4,none⟩=some (.int .i64 m.f)∧w.cell? ⟨B,5,none⟩=some (.int .i64 m.s)∧w.cell? ⟨B,6,none⟩=some (.int .i64 m.h) ∧
 w.cell? ⟨B,7,none⟩=some (.slice x.D x.k x.e)
theorem Mb.new (w:World) (x:Mc) (m:Mh):Mb (w.alloc (hcel x m)) w.heap.size x m:=by
 refine ⟨by simp,?_,?_,?_,?_,?_,?_,?_,?_⟩<;>simp [go_sem]
theorem Mb.keep {w w':World} {B:Nat} {x:Mc} {m:Mh} (h:Mb w B x m) (hb:Below w.heap.size w w'):Mb w' B x m:=by
 obtain ⟨h0,h1,h2,h3,h4,h5,h6,h7,h8⟩:=h;obtain ⟨hc,hf⟩:=bcell hb;exact ⟨Nat.lt_of_lt_of_le h0 hb.size,(hc _ _ h0).trans h1,(hc _ _ h0).trans h2,(hc _ _ h0).trans h3,(hc _ _ h0).trans h4,(hc _ _ h0).trans h5,(hc _ _ h0).trans h6,(hc _ _ h0).trans h7,(hc _ _ h0).trans h8⟩
theorem Mb.other {w:World} {B:Nat} {x:Mc} {m:Mh} (h:Mb w B x m) {p:Addr} (hp:p.block≠B) (v:Value):Mb (w.setCell p v) B x m:=by
 obtain ⟨h0,h1,h2,h3,h4,h5,h6,h7,h8⟩:=h;have ne:∀i,p≠(⟨B,i,none⟩:Addr):=fun i e=>hp (by rw [e]);refine ⟨by simpa using h0,?_,?_,?_,?_,?_,?_,?_,?_⟩<;>(rw [World.cell?_setCell_other _ _ _ _ (ne _)];assumption)
abbrev fM (B:Nat) (x:Mc) (m:Mh):Fct:=⟨fun w=>Mb w B x m,fun _ _ h hb=>h.keep hb⟩
theorem Sx.mkM {w0 w:World} {L:List Fct} (h:Sx w0 w L) (x:Mc) (m:Mh):Sx w0 (w.alloc (hcel x m)) (fM w.heap.size x m::L):=(h.mk1 _).add (fM w.heap.size x m) (Mb.new w x m)
def kO (l:List Int):Bool:=l.all fun x=>decide (1≤x)&&decide (x≤3)
def mM (m:Mh):Bool:=decide (m.a.length≤4)&&(decide (m.l.length+m.a.length≤16)&&(kO m.a&&(kO m.l&&((decide (1≤m.r)&&decide (m.r≤2))&&((decide (0≤m.f)&&decide (m.f≤1048576))&&((decide (0≤m.s)&&decide (m.s≤256))&&(decide (0≤m.h)&&decide (m.h≤1024))))))))
def mS (a b:Mh):Bool:=a.a==b.a&&(a.l==b.l&&(a.r==b.r&&(a.q==b.q&&(a.f==b.f&&(a.s==b.s&&a.h==b.h)))))
def fl (q:Bool):Int:=if q then 1 else 0
def mL (m:Mh):List Int:=if mM m then ((m.a.length:Int)::m.a)++(((m.l.length:Int)::m.l)++([m.r,fl m.q]++(digs m.f 3++(digs m.s 2++digs m.h 2)))) else []
def mE (m:Mh):Int:=if mM m then 0 else 70
theorem mM_iff {m:Mh}:mM m=true↔m.a.length≤4∧m.l.length+m.a.length≤16∧kO m.a=true∧kO m.l=true∧(1≤m.r∧m.r≤2)∧(0≤m.f∧m.f≤1048576)∧(0≤m.s∧m.s≤256)∧(0≤m.h∧m.h≤1024):=by
 simp [mM,and_assoc]
theorem kO_at {l:List Int} (h:kO l=true) {x:Int} (hx:x∈l):1≤x∧x≤3:=by
 have:=List.all_eq_true.1 h x hx;simpa using this
def nE (l:List Int) (q W lo hi:Int):Int:=if getE l q W=0 then (if lo≤getV l q W∧getV l q W≤hi then 0 else 70) else getE l q W
def rN (l:List Int) (W lo hi:Int) (s:Int×Int):Int×Int×Int:=
 if s.2=0 then (if nE l s.1 W lo hi=0 then (getV l s.1 W,getN l s.1 W,0) else (0,s.1,nE l s.1 W lo hi)) else (0,s.1,s.2)
def rKs (l:List Int):Nat→Int×Int→List Int×Int×Int
 | 0,s=>([],s.1,s.2)
 | k+1,s=>((rN l 1 1 3 s).1::(rKs l k (rN l 1 1 3 s).2).1,(rKs l k (rN l 1 1 3 s).2).2)
def rK (l:List Int) (hi:Int) (s:Int×Int):List Int×Int×Int:=rKs l (rN l 1 0 hi s).1.toNat (rN l 1 0 hi s).2
theorem rN_err {l:List Int} {W lo hi q e:Int} (he:e≠0):rN l W lo hi (q,e)=(0,q,e):=by rw [rN,if_neg he]
theorem rN_yes {l:List Int} {W lo hi q:Int} (h:nE l q W lo hi=0):rN l W lo hi (q,0)=(getV l q W,getN l q W,0):=by rw [rN,if_pos rfl,if_pos h]
theorem rN_no {l:List Int} {W lo hi q:Int} (h:nE l q W lo hi≠0):rN l W lo hi (q,0)=(0,q,nE l q W lo hi):=by rw [rN,if_pos rfl,if_neg h]
theorem rKs_err {l:List Int} {q e:Int} (he:e≠0):∀k,(rKs l k (q,e)).2=(q,e)
 | 0=>rfl
 | k+1=>by rw [rKs,rN_err he];exact rKs_err he k
theorem rK_err {l:List Int} {hi q e:Int} (he:e≠0):rK l hi (q,e)=([],q,e):=by rw [rK,rN_err he];rfl
theorem rKs_len (l:List Int):∀k s,(rKs l k s).1.length=k
 | 0,s=>rfl
 | k+1,s=>by rw [rKs,List.length_cons,rKs_len l k]
theorem rKs_snoc (l:List Int):∀k s,rKs l (k+1) s=((rKs l k s).1++[(rN l 1 1 3 (rKs l k s).2).1],(rN l 1 1 3 (rKs l k s).2).2)
 | 0,s=>by simp [rKs]
 | k+1,s=>by
  have:=rKs_snoc l k (rN l 1 1 3 s).2;rw [rKs,this];rfl
theorem nE_arg {l:List Int} {q:Int} (h:q<0∨(l.length:Int)<q) (W lo hi:Int) (h1:1≤W) (h2:W≤7):nE l q W lo hi=2:=by
 have e:=cut_arg (n:=W) h;have:getE l q W=2:=by rw [get_eq (by omega),e.1];simp
 rw [nE,this];simp
theorem getE_small {l:List Int} (hb:Byt l) {q W:Int} (h1:1≤W) (h2:W≤7):getE l q W=cutE l q W:=by
 refine get_small (by omega) ?_;have hl:=cutL_le l q W 7 (by omega);have:=num_lt (byt_cut hb q W)
 have h3:p256 (cutL l q W).length≤p256 7:=by
  exact p256_le hl
 have h4:p256 7=72057594037927936:=by decide
 omega
theorem getB_short {l:List Int} (hb:Byt l) {q W:Int} (h0:0≤q) (hq:q≤l.length) (h1:1≤W) (h2:W≤7) (h:(l.length:Int)<q+W):getE l q W=10:=by
 rw [getE_small hb h1 h2,(cut_short h0 hq (by omega)).1]
theorem getB_long {l:List Int} (hb:Byt l) {q W:Int} (h0:0≤q) (h1:1≤W) (h2:W≤7) (h:q+W≤l.length):getE l q W=0∧getV l q W=num ((l.drop q.toNat).take W.toNat)∧getN l q W=q+W:=by
 have e:=cut_yes (l:=l) (p:=q) (n:=W) h0 (by omega) (by omega);have:getE l q W=0:=by rw [getE_small hb h1 h2,e.1]
 exact ⟨this,by rw [getV,if_pos this,e.2.1],by rw [getN,if_pos this]⟩
theorem getB_byte {l:List Int} (hb:Byt l) {q:Nat} (h:q<l.length):getE l q 1=0∧getV l q 1=l[q]∧getN l q 1=q+1:=by
 obtain ⟨h1,h2,h3⟩:=getB_long hb (q:=q) (W:=1) (by omega) (by omega) (by omega) (by omega);refine ⟨h1,?_,h3⟩;rw [h2,Int.toNat_natCast,show (1:Int).toNat=1 from rfl,List.drop_eq_getElem_cons h,List.take_succ_cons,List.take_zero,num,num];omega
theorem nE_byte {l:List Int} (hb:Byt l) {q:Nat} (h:q<l.length) (lo hi:Int):nE l q 1 lo hi=if lo≤l[q]∧l[q]≤hi then 0 else 70:=by
 obtain ⟨h1,h2,h3⟩:=getB_byte hb h;rw [nE,if_pos h1,h2]
theorem nE_end {l:List Int} (hb:Byt l) {q:Nat} (h:q=l.length) (lo hi:Int):nE l q 1 lo hi=10:=by
 have:=getB_short hb (q:=q) (W:=1) (by omega) (by omega) (by omega) (by omega) (by omega);rw [nE,this];simp
def fs7:List (Int×Int×Int):=[(1,1,2),(1,0,1),(3,0,1048576),(2,0,256),(2,0,1024)]
def rF (l:List Int):List (Int×Int×Int)→Int×Int→List Int×Int×Int
 | [],s=>([],s.1,s.2)
 | (W,lo,hi)::r,s=>((rN l W lo hi s).1::(rF l r (rN l W lo hi s).2).1,(rF l r (rN l W lo hi s).2).2)
def mk7 (A B:List Int) (r:List Int×Int×Int):Mh×Int×Int:=if r.2.2=0 then (⟨A,B,r.1.getD 0 0,r.1.getD 1 0==1,r.1.getD 2 0,r.1.getD 3 0,r.1.getD 4 0⟩,r.2.1,0) else (Mh.zero,0,r.2.2)
def rdQ (l:List Int) (p:Int):Mh×Int×Int:=mk7 (rK l 4 (p,0)).1 (rK l (16-(rK l 4 (p,0)).1.length) (rK l 4 (p,0)).2).1 (rF l fs7 (rK l (16-(rK l 4 (p,0)).1.length) (rK l 4 (p,0)).2).2)
theorem rF_err {l:List Int} {q e:Int} (he:e≠0):∀fs,(rF l fs (q,e)).2=(q,e)
 | []=>rfl
 | (W,lo,hi)::r=>by rw [rF,rN_err he];exact rF_err he r
theorem mk7_no {A B:List Int} {r:List Int×Int×Int} {e:Int} (h:r.2.2=e) (he:e≠0):mk7 A B r=(Mh.zero,0,e):=by rw [mk7,h,if_neg he]
theorem rdQ_1 {l:List Int} {p:Int} {K1:List Int} {n1 e1:Int} (h:rK l 4 (p,0)=(K1,n1,e1)) (he:e1≠0):rdQ l p=(Mh.zero,0,e1):=by
 rw [rdQ,h,rK_err he,rF_err he |> fun h=>mk7_no (by rw [h]) he]
theorem rdQ_arg {l:List Int} {p:Int} (h:p<0∨(l.length:Int)<p):rdQ l p=(Mh.zero,0,2):=by
 refine rdQ_1 (K1:=[]) (n1:=p) ?_ (by decide);have e:=nE_arg h 1 0 4 (by decide) (by decide);rw [rK,rN_no (by rw [e];decide),e];rfl
theorem rKs_ok {l:List Int} (hb:Byt l):∀(k:Nat) (q:Nat) (K:List Int) (n:Int),q≤l.length→rKs l k ((q:Int),0)=(K,n,0)→n=((q+k:Nat):Int)∧q+k≤l.length∧K.length=k∧K=(l.drop q).take k∧kO K=true
 | 0,q,K,n,hq,h=>by
  simp only [rKs,Prod.mk.injEq] at h;obtain ⟨rfl,rfl,_⟩:=h;exact ⟨by simp,by omega,rfl,by simp,rfl⟩
 | k+1,q,K,n,hq,h=>by
  by_cases h1:q<l.length
  ·have e:=nE_byte hb h1 1 3;by_cases hx:1≤l[q]∧l[q]≤3
   ·rw [if_pos hx] at e;obtain ⟨g1,g2,g3⟩:=getB_byte hb h1;rw [rKs,rN_yes e,g2,g3] at h;simp only [Prod.mk.injEq] at h;obtain ⟨rfl,h2⟩:=h;obtain ⟨a1,a2,a3,a4,a5⟩:=rKs_ok hb k (q+1) _ n (by omega) (show rKs l k (((q+1:Nat):Int),0)=((rKs l k (((q:Int)+1),0)).1,n,0) from Prod.ext rfl h2);refine ⟨by rw [a1];congr 1;omega,by omega,by rw [List.length_cons,a3],?_,?_⟩
    ·rw [List.drop_eq_getElem_cons h1,List.take_succ_cons,←a4]
    ·have:=a5;unfold kO at *;rw [List.all_cons,this];simpa using hx
   ·rw [if_neg hx] at e;rw [rKs,rN_no (by rw [e];decide),e] at h;have:=rKs_err (l:=l) (q:=q) (e:=70) (by decide) k;simp only [Prod.mk.injEq] at h;rw [this] at h;simp at h
  ·have e:=nE_end hb (show q=l.length by omega) 1 3;rw [rKs,rN_no (by rw [e];decide),e] at h;have:=rKs_err (l:=l) (q:=q) (e:=10) (by decide) k;simp only [Prod.mk.injEq] at h;rw [this] at h;simp at h
theorem rK_ok {l:List Int} (hb:Byt l) {q:Nat} {hi n:Int} {K:List Int} (hq:q≤l.length) (h:rK l hi (q,0)=(K,n,0)) :
  n=((q+(1+K.length):Nat):Int)∧q+(1+K.length)≤l.length∧(K.length:Int)≤hi∧(K.length:Int)::K=(l.drop q).take (1+K.length)∧kO K=true:=by
 by_cases h1:q<l.length
 ·have hbd:=hb _ (List.getElem_mem h1)
  have e:=nE_byte hb h1 0 hi
  by_cases hx:0≤l[q]∧l[q]≤hi
  ·rw [if_pos hx] at e
   obtain ⟨g1,g2,g3⟩:=getB_byte hb h1
   rw [rK,rN_yes e,g2,g3] at h
   obtain ⟨a1,a2,a3,a4,a5⟩:=rKs_ok hb _ (q+1) _ n (by omega) h
   have e2:(K.length:Int)=l[q]:=by omega
   refine ⟨by rw [a1];congr 1;omega,by omega,by omega,?_,a5⟩
   rw [e2,List.drop_eq_getElem_cons h1,Nat.add_comm 1,List.take_succ_cons,a3,←a4]
  ·rw [if_neg hx] at e
   rw [rK,rN_no (by rw [e];decide),e] at h
   have:=rKs_err (l:=l) (q:=q) (e:=70) (by decide) 0
   simp [rKs] at h
 ·have e:=nE_end hb (show q=l.length by omega) 0 hi
  rw [rK,rN_no (by rw [e];decide),e] at h
  simp [rKs] at h
theorem take_ne {l k:List Int} {j:Nat} (h1:j<l.length) (h2:j<k.length) (h:¬l[j]=k[j]):¬l=k:=by
 intro e;subst e;exact h rfl
theorem take_eq {l k:List Int} {j:Nat} (h1:j<l.length) (h2:j<k.length) (h:l[j]=k[j]) (ht:l.take j=k.take j):l.take (j+1)=k.take (j+1):=by
 rw [List.take_add_one,List.take_add_one,zg7 h1,zg7 h2,h,ht]
theorem beq_no {l k:List Int} (h:¬l=k):(l==k)=false:=by simpa using h
theorem r7same_v (A B:Option Addr) (c d n m:Nat) (l k:List Int) (v:Bool) (w:World) (hr:Rd w A c l) (hs:Rd w B d k) (hn:l.length=n) (hm:k.length=m) (hv:(l==k)=v) :
  Calls Tryz.prog 76 #[.slice A n c,.slice B m d] w fun e w'=>e=.returned (.bool v)∧Below w.heap.size w w':=by
 subst hn hm
 have hlen:=hr.len
 have hlen2:=hs.len
 have HR:=zhy hr
 have HS:=zhy hs
 have HV:=zhy hv
 clear hr hs hv
 by_cases hl:l.length=k.length
 ·go_enter Tryz.func76,Tryz.ntmps76
  go_wp2_with fail
  go_loopw [5] (fun i wr=>∃j:Nat,j≤l.length∧i=.int .i64 j∧Hid (l.take j=k.take j)∧Hid (Below w.heap.size w wr)) (fun i _=>l.length-(intOf i).toNat)
  case atStart=>exact ⟨0,by omega,rfl,rfl,Below.refl _ _⟩
  case round =>
   obtain ⟨j,hj,rfl,HT,HB⟩:=hrel
   by_cases h1:j<l.length
   ·have h2:j<k.length:=by omega
    obtain ⟨ad,rfl,hc⟩:=(HR.out.keep HB.out).at_ h1
    obtain ⟨bd,rfl,hd⟩:=(HS.out.keep HB.out).at_ h2
    rw [zg7 h1] at hc
    rw [zg7 h2] at hd
    simp only [Option.getD_some] at hc hd
    by_cases hx:l[j]=k[j]
    ·have HN:=zhy (take_eq h1 h2 hx HT.out)
     clear HT
     rw [←hx] at hd
     clear hx
     generalize l[j]=x at *
     go_wp2_with fail
     go_quiet (fail)
     go_wp2_with fail
     go_roundw
     case rel=>exact ⟨j+1,by omega,by go_num,HN,zhy (below_draws HB.out _)⟩
     case measure=>simp [intOf];omega
    ·have HN:Hid (v=false):=by rw [Hid,←HV.out];exact beq_no (take_ne h1 h2 hx)
     clear HT
     generalize l[j]=x at *
     generalize k[j]=y at *
     go_wp2_with fail
     go_quiet (fail)
     go_wp2_with fail
     go_ret
     exact ⟨by rw [HN.out];rfl,below_draws HB.out _⟩
   ·obtain rfl:j=l.length:=by omega
    have HN:Hid (v=true):=by
     rw [Hid,←HV.out];have:=HT.out;rw [List.take_length,hl,List.take_length] at this;simpa using this
    clear HT
    go_wp2_with fail
    go_ret
    exact ⟨by rw [HN.out];rfl,HB.out⟩
 ·have HN:Hid (v=false):=by rw [Hid,←HV.out];exact beq_no (fun e=>hl (by rw [e]))
  go_enter Tryz.func76,Tryz.ntmps76
  go_wp2_with fail
  go_ret
  exact ⟨by rw [HN.out];rfl,Below.refl _ _⟩
theorem r7sam_v (x y:Mc) (m k:Mh) (v:Bool) (w:World) (hx:Hd w x m) (hy:Hd w y k) (hv:mS m k=v) :
  Calls Tryz.prog 42 #[mv x m,mv y k] w fun e w'=>e=.returned (.bool v)∧Below w.heap.size w w':=by
 have HV:=zhy hv
 have S0:=zhy (((((Sx.start w).add (fH x m) hx).add (fH y k) hy).mkM x m).mkM y k)
 rw [size1] at S0
 clear hx hy hv
 obtain ⟨-,⟨hy0,hy1,hy2,hy3,hy4,hy5,hy6,hy7,hy8⟩,⟨hx0,hx1,hx2,hx3,hx4,hx5,hx6,hx7,hx8⟩,hyd,hxd,-⟩:=S0.out
 have P1:=zhy (r7same_v x.A y.A x.c y.c _ _ m.a k.a _ _ hxd.1 hyd.1 rfl rfl rfl)
 clear hxd hyd
 go_enter Tryz.func42,Tryz.ntmps42
 go_wp2_with fail
 refine P1.out.mono ?_
 rintro e w1 ⟨rfl,hb1⟩
 have S1:=zhy (S0.out.call hb1)
 clear P1 S0 hb1 hx1 hx2 hx3 hx4 hx5 hx6 hx7 hx8 hy1 hy2 hy3 hy4 hy5 hy6 hy7 hy8
 by_cases h0:m.a=k.a
 ·rw [show (m.a==k.a)=true from by simpa using h0]
  obtain ⟨-,⟨hy0,hy1,hy2,hy3,hy4,hy5,hy6,hy7,hy8⟩,⟨hx0,hx1,hx2,hx3,hx4,hx5,hx6,hx7,hx8⟩,hyd,hxd,-⟩:=S1.out
  have P2:=zhy (r7same_v x.B y.B x.d y.d _ _ m.l k.l _ _ hxd.2.1 hyd.2.1 rfl rfl rfl)
  clear hxd hyd
  have H0:=zhy h0
  clear h0
  go_wp2_with fail
  refine P2.out.mono ?_
  rintro e w2 ⟨rfl,hb2⟩
  have S2:=zhy (S1.out.call hb2)
  clear P2 S1 hb2 hx1 hx2 hx3 hx4 hx5 hx6 hx7 hx8 hy1 hy2 hy3 hy4 hy5 hy6 hy7 hy8
  obtain ⟨-,⟨hy0,hy1,hy2,hy3,hy4,hy5,hy6,hy7,hy8⟩,⟨hx0,hx1,hx2,hx3,hx4,hx5,hx6,hx7,hx8⟩,hyd,hxd,-⟩:=S2.out
  clear hxd hyd
  by_cases h1:m.l=k.l
  ·rw [show (m.l==k.l)=true from by simpa using h1]
   have H1:=zhy h1
   clear h1
   by_cases h2:m.r=k.r
   ·have H2:=zhy h2
    have E2:(m.r==k.r)=true:=by simpa using h2
    clear h2
    by_cases h3:m.q=k.q
    ·have H3:=zhy h3
     have E3:(m.q==k.q)=true:=by simpa using h3
     clear h3
     by_cases h4:m.f=k.f
     ·have H4:=zhy h4
      have E4:(m.f==k.f)=true:=by simpa using h4
      clear h4
      by_cases h5:m.s=k.s
      ·have H5:=zhy h5
       have E5:(m.s==k.s)=true:=by simpa using h5
       clear h5
       by_cases h6:m.h=k.h
       ·have H6:=zhy h6
        have E6:(m.h==k.h)=true:=by simpa using h6
        clear h6
        go_wp2_with fail
        go_ret
        exact ⟨by rw [←HV.out];simp [mS,H0.out,H1.out,H2.out,H3.out,H4.out,H5.out,H6.out],S2.out.1⟩
       ·have H6:=zhy h6
        have E6:(m.h==k.h)=false:=by simpa using h6
        clear h6
        go_wp2_with fail
        go_ret
        exact ⟨by rw [←HV.out];simp [mS,H6.out],S2.out.1⟩
      ·have H5:=zhy h5
       have E5:(m.s==k.s)=false:=by simpa using h5
       clear h5
       go_wp2_with fail
       go_ret
       exact ⟨by rw [←HV.out];simp [mS,H5.out],S2.out.1⟩
     ·have H4:=zhy h4
      have E4:(m.f==k.f)=false:=by simpa using h4
      clear h4
      go_wp2_with fail
      go_ret
      exact ⟨by rw [←HV.out];simp [mS,H4.out],S2.out.1⟩
    ·have H3:=zhy h3
     have E3:(m.q==k.q)=false:=by simpa using h3
     clear h3
     go_wp2_with fail
     go_ret
     exact ⟨by rw [←HV.out];simp [mS,H3.out],S2.out.1⟩
   ·have H2:=zhy h2
    have E2:(m.r==k.r)=false:=by simpa using h2
    clear h2
    go_wp2_with fail
    go_ret
    exact ⟨by rw [←HV.out];simp [mS,H2.out],S2.out.1⟩
  ·rw [show (m.l==k.l)=false from by simpa using h1]
   have H1:=zhy h1
   clear h1
   go_wp2_with fail
   go_ret
   exact ⟨by rw [←HV.out];simp [mS,H1.out],S2.out.1⟩
 ·rw [show (m.a==k.a)=false from by simpa using h0]
  have H0:=zhy h0
  clear h0
  go_wp2_with fail
  go_ret
  exact ⟨by rw [←HV.out];simp [mS,H0.out],S1.out.1⟩
def gB (m:Mh):Bool:=decide ((100:Int)<m.a.length)||decide ((100:Int)<m.l.length)
theorem gB_no {m:Mh} (h:gB m=false):m.a.length≤100∧m.l.length≤100:=by
 simp [gB] at h;omega
theorem great_v (x:Mc) (m:Mh) (w:World) (hx:Hd w x m):Calls Tryz.prog 31 #[mv x m] w fun e w'=>e=.returned (.bool (gB m))∧Below w.heap.size w w':=by
 have h1:=hx.la;have h2:=hx.ll;clear hx;by_cases g1:100<m.a.length
 ·have E:gB m=true:=by simp [gB];omega
  rw [E];clear E;go_enter Tryz.func31,Tryz.ntmps31;go_wp2_with fail;go_ret;exact ⟨rfl,new1⟩
 ·go_enter Tryz.func31,Tryz.ntmps31;go_wp2_with fail;go_ret;exact ⟨rfl,new1⟩
def Mf (w:World) (B:Nat):Prop:=B<w.heap.size∧∀i,w.frozen? ⟨B,i,none⟩=false
theorem Mf.new (w:World) (cs:Array Value) (t:Nat):Mf (w.alloc (.cells cs t)) w.heap.size:=⟨by simp,fun i=>by simp [go_sem]⟩
theorem Mf.keep {w w':World} {B:Nat} (h:Mf w B) (hb:Below w.heap.size w w'):Mf w' B:=⟨Nat.lt_of_lt_of_le h.1 hb.size,fun i=>((bcell hb).2 _ _ h.1).trans (h.2 i)⟩
theorem Mf.set {w:World} {B:Nat} (h:Mf w B) (p:Addr) (v:Value):Mf (w.setCell p v) B:=⟨by simpa using h.1,fun i=>by simpa using h.2 i⟩
abbrev fF (B:Nat):Fct:=⟨fun w=>Mf w B,fun _ _ h hb=>h.keep hb⟩
def put8 (w:World) (B:Nat) (x:Mc) (m:Mh):World:=
 (((((((w.setCell ⟨B,0,none⟩ (.slice x.A m.a.length x.c)).setCell ⟨B,1,none⟩ (.slice x.B m.l.length x.d)).setCell ⟨B,2,none⟩ (.int .u8 m.r)).setCell ⟨B,3,none⟩ (.bool m.q)).setCell ⟨B,4,none⟩ (.int .i64 m.f)).setCell ⟨B,5,none⟩ (.int .i64 m.s)).setCell ⟨B,6,none⟩ (.int .i64 m.h)).setCell ⟨B,7,none⟩ (.slice x.D x.k x.e)
theorem put8_below {w0 w:World} {k B:Nat} (h:Below k w0 w) (hB:k≤B) (x:Mc) (m:Mh):Below k w0 (put8 w B x m):=
 (((((((h.setCell (p:=⟨B,0,none⟩) hB _).setCell (p:=⟨B,1,none⟩) hB _).setCell (p:=⟨B,2,none⟩) hB _).setCell (p:=⟨B,3,none⟩) hB _).setCell (p:=⟨B,4,none⟩) hB _).setCell (p:=⟨B,5,none⟩) hB _).setCell (p:=⟨B,6,none⟩) hB _).setCell (p:=⟨B,7,none⟩) hB _
theorem put8_mb {w:World} {B:Nat} {y:Mc} {k:Mh} (h:Mb w B y k) (x:Mc) (m:Mh):Mb (put8 w B x m) B x m:=by
 obtain ⟨h0,h1,h2,h3,h4,h5,h6,h7,h8⟩:=h;unfold put8;refine ⟨by simpa using h0,?_,?_,?_,?_,?_,?_,?_,?_⟩<;>simp [go_sem,h1,h2,h3,h4,h5,h6,h7,h8]
theorem Mb.setA {w:World} {B:Nat} {x:Mc} {m:Mh} (h:Mb w B x m) (A:Option Addr) (c:Nat) (a:List Int) (n:Nat) (hn:a.length=n):Mb (w.setCell ⟨B,0,none⟩ (.slice A n c)) B { x with A:=A,c:=c } { m with a:=a }:=by
 subst hn;obtain ⟨h0,h1,h2,h3,h4,h5,h6,h7,h8⟩:=h;refine ⟨by simpa using h0,?_,?_,?_,?_,?_,?_,?_,?_⟩<;>simp [go_sem,h1,h2,h3,h4,h5,h6,h7,h8]
theorem Mb.setB {w:World} {B:Nat} {x:Mc} {m:Mh} (h:Mb w B x m) (A:Option Addr) (c:Nat) (a:List Int) (n:Nat) (hn:a.length=n):Mb (w.setCell ⟨B,1,none⟩ (.slice A n c)) B { x with B:=A,d:=c } { m with l:=a }:=by
 subst hn;obtain ⟨h0,h1,h2,h3,h4,h5,h6,h7,h8⟩:=h;refine ⟨by simpa using h0,?_,?_,?_,?_,?_,?_,?_,?_⟩<;>simp [go_sem,h1,h2,h3,h4,h5,h6,h7,h8]
theorem Mb.setR {w:World} {B:Nat} {x:Mc} {m:Mh} (h:Mb w B x m) (z:Int):Mb (w.setCell ⟨B,2,none⟩ (.int .u8 z)) B x { m with r:=z }:=by
 obtain ⟨h0,h1,h2,h3,h4,h5,h6,h7,h8⟩:=h;refine ⟨by simpa using h0,?_,?_,?_,?_,?_,?_,?_,?_⟩<;>simp [go_sem,h1,h2,h3,h4,h5,h6,h7,h8]
theorem Mb.setQ {w:World} {B:Nat} {x:Mc} {m:Mh} (h:Mb w B x m) (z:Bool):Mb (w.setCell ⟨B,3,none⟩ (.bool z)) B x { m with q:=z }:=by
 obtain ⟨h0,h1,h2,h3,h4,h5,h6,h7,h8⟩:=h;refine ⟨by simpa using h0,?_,?_,?_,?_,?_,?_,?_,?_⟩<;>simp [go_sem,h1,h2,h3,h4,h5,h6,h7,h8]
theorem Mb.setF {w:World} {B:Nat} {x:Mc} {m:Mh} (h:Mb w B x m) (z:Int):Mb (w.setCell ⟨B,4,none⟩ (.int .i64 z)) B x { m with f:=z }:=by
 obtain ⟨h0,h1,h2,h3,h4,h5,h6,h7,h8⟩:=h;refine ⟨by simpa using h0,?_,?_,?_,?_,?_,?_,?_,?_⟩<;>simp [go_sem,h1,h2,h3,h4,h5,h6,h7,h8]
theorem Mb.setS {w:World} {B:Nat} {x:Mc} {m:Mh} (h:Mb w B x m) (z:Int):Mb (w.setCell ⟨B,5,none⟩ (.int .i64 z)) B x { m with s:=z }:=by
 obtain ⟨h0,h1,h2,h3,h4,h5,h6,h7,h8⟩:=h;refine ⟨by simpa using h0,?_,?_,?_,?_,?_,?_,?_,?_⟩<;>simp [go_sem,h1,h2,h3,h4,h5,h6,h7,h8]
theorem Mb.setH {w:World} {B:Nat} {x:Mc} {m:Mh} (h:Mb w B x m) (z:Int):Mb (w.setCell ⟨B,6,none⟩ (.int .i64 z)) B x { m with h:=z }:=by
 obtain ⟨h0,h1,h2,h3,h4,h5,h6,h7,h8⟩:=h;refine ⟨by simpa using h0,?_,?_,?_,?_,?_,?_,?_,?_⟩<;>simp [go_sem,h1,h2,h3,h4,h5,h6,h7,h8]
theorem Mb.setD {w:World} {B:Nat} {x:Mc} {m:Mh} (h:Mb w B x m) (A:Option Addr) (k e:Nat):Mb (w.setCell ⟨B,7,none⟩ (.slice A k e)) B { x with D:=A,k:=k,e:=e } m:=by
 obtain ⟨h0,h1,h2,h3,h4,h5,h6,h7,h8⟩:=h;refine ⟨by simpa using h0,?_,?_,?_,?_,?_,?_,?_,?_⟩<;>simp [go_sem,h1,h2,h3,h4,h5,h6,h7,h8]
theorem Rd.setc {w:World} {A:Option Addr} {c:Nat} {l:List Int} (h:Rd w A c l) {p:Addr} (hp:∀ad,A=some ad→0<l.length→ad.block≠p.block) (v:Value):Rd (w.setCell p v) A c l:=by
 refine ⟨h.1,h.2.1,h.2.2.1,?_⟩;rcases h.2.2.2 with hn | ⟨ad,ha,hc⟩
 ·exact .inl hn
 ·refine .inr ⟨ad,ha,fun i x hx=>?_⟩;have hb:(ad.add i).block=ad.block:=by unfold Addr.add;split<;>rfl
  rw [World.cell?_setCell_other _ _ _ _ (fun e=>hp ad ha (by have:=(zg8.1 hx).1;omega) (by rw [←hb,←e]))];exact hc i x hx
theorem Mf.keepM {w:World} {B:Nat} (h:Mf w B):w.frozen? ⟨B,0,none⟩=false∧w.frozen? ⟨B,1,none⟩=false∧w.frozen? ⟨B,2,none⟩=false∧w.frozen? ⟨B,3,none⟩=false∧w.frozen? ⟨B,4,none⟩=false∧w.frozen? ⟨B,5,none⟩=false∧w.frozen? ⟨B,6,none⟩=false∧w.frozen? ⟨B,7,none⟩=false:=
 ⟨h.2 0,h.2 1,h.2 2,h.2 3,h.2 4,h.2 5,h.2 6,h.2 7⟩
abbrev fO (B:Nat) (A:Option Addr) (c:Nat) (l:List Int):Fct:=⟨fun w=>w.ownsRow B 5 1 (.slice A l.length c) l.length (cel l)∧Byt l,fun _ _ h hb=>⟨own_below h.1 hb (Nat.le_refl _),h.2⟩⟩
theorem put8_own {w:World} {N B e size n:Nat} {v:Value} {xs:List Value} (h:w.ownsRow N e size v n xs) (hB:B<N) (x:Mc) (m:Mh):(put8 w B x m).ownsRow N e size v n xs:=
 ownsRow_setCell_below (ownsRow_setCell_below (ownsRow_setCell_below (ownsRow_setCell_below (ownsRow_setCell_below (ownsRow_setCell_below (ownsRow_setCell_below (ownsRow_setCell_below h hB _) hB _) hB _) hB _) hB _) hB _) hB _) hB _
theorem Mb.drew {w:World} {B:Nat} {x:Mc} {m:Mh} (h:Mb w B x m):Mb w.drew B x m:=h
theorem own_succ {W:World} {base e size k:Nat} {v:Value} {xs:List Value} (h:W.ownsRow base e size v (k+1) xs):∃g cap,v=.slice (some ⟨g,0,none⟩) (k+1) cap:=by
 rcases h.2 with ⟨_,h0⟩ | ⟨g,cap,_,rfl,_⟩
 ·omega
 ·exact ⟨g,cap,rfl⟩
theorem Tryz.infoN:(Tryz.prog.info? 3).map (fun i=>(i.zero,i.size,i.bytes))=some (some (.int .i64 0),1,8):=by kernel_rfl
def T3 (w:World) (B:Nat) (x y z:Int):Prop:=B<w.heap.size∧w.cell? ⟨B,0,none⟩=some (.int .i64 x)∧w.cell? ⟨B,1,none⟩=some (.int .i64 y)∧w.cell? ⟨B,2,none⟩=some (.int .i64 z)
theorem T3.keep {w w':World} {B:Nat} {x y z:Int} (h:T3 w B x y z) (hb:Below w.heap.size w w'):T3 w' B x y z:=by
 obtain ⟨h1,h2,h3,h4⟩:=h;obtain ⟨hc,hf⟩:=bcell hb;exact ⟨Nat.lt_of_lt_of_le h1 hb.size,(hc _ _ h1).trans h2,(hc _ _ h1).trans h3,(hc _ _ h1).trans h4⟩
theorem T3.new (w:World) (x y z:Int) (t:Nat):T3 (w.alloc (.cells #[.int .i64 x,.int .i64 y,.int .i64 z] t)) w.heap.size x y z:=by
 refine ⟨by simp,?_,?_,?_⟩<;>simp [go_sem]
abbrev fT3 (B:Nat) (x y z:Int):Fct:=⟨fun w=>T3 w B x y z,fun _ _ h hb=>h.keep hb⟩
def R3 (w:World) (B:Nat) (A:Option Addr) (c n:Nat) (p e:Int):Prop:=B<w.heap.size∧w.cell? ⟨B,0,none⟩=some (.slice A n c)∧w.cell? ⟨B,1,none⟩=some (.int .i64 p)∧w.cell? ⟨B,2,none⟩=some (.int .i64 e) ∧
 w.frozen? ⟨B,0,none⟩=false∧w.frozen? ⟨B,1,none⟩=false∧w.frozen? ⟨B,2,none⟩=false
section
variable {w w' : World} {B : Nat} {A : Option Addr} {c n : Nat} {p e : Int}
theorem R3.keep (h:R3 w B A c n p e) (hb:Below w.heap.size w w'):R3 w' B A c n p e:=by
 obtain ⟨h1,h2,h3,h4,h5,h6,h7⟩:=h;obtain ⟨hc,hf⟩:=bcell hb;exact ⟨Nat.lt_of_lt_of_le h1 hb.size,(hc _ _ h1).trans h2,(hc _ _ h1).trans h3,(hc _ _ h1).trans h4,(hf _ _ h1).trans h5,(hf _ _ h1).trans h6,(hf _ _ h1).trans h7⟩
theorem R3.set1 (h:R3 w B A c n p e) (q:Int):R3 (w.setCell ⟨B,1,none⟩ (.int .i64 q)) B A c n q e:=by
 obtain ⟨h1,h2,h3,h4,h5,h6,h7⟩:=h;refine ⟨by simpa using h1,?_,?_,?_,?_,?_,?_⟩<;>simp [go_sem,h2,h3,h4,h5,h6,h7]
theorem R3.set2 (h:R3 w B A c n p e) (q:Int):R3 (w.setCell ⟨B,2,none⟩ (.int .i64 q)) B A c n p q:=by
 obtain ⟨h1,h2,h3,h4,h5,h6,h7⟩:=h;refine ⟨by simpa using h1,?_,?_,?_,?_,?_,?_⟩<;>simp [go_sem,h2,h3,h4,h5,h6,h7]
theorem R3.other (h:R3 w B A c n p e) {q:Addr} (hp:q.block≠B) (v:Value):R3 (w.setCell q v) B A c n p e:=by
 obtain ⟨h1,h2,h3,h4,h5,h6,h7⟩:=h;have ne:∀i,q≠(⟨B,i,none⟩:Addr):=fun i e=>hp (by rw [e]);refine ⟨by simpa using h1,?_,?_,?_,?_,?_,?_⟩
 ·rw [World.cell?_setCell_other _ _ _ _ (ne 0)];exact h2
 ·rw [World.cell?_setCell_other _ _ _ _ (ne 1)];exact h3
 ·rw [World.cell?_setCell_other _ _ _ _ (ne 2)];exact h4
 ·simpa using h5
 ·simpa using h6
 ·simpa using h7
theorem R3.new (w:World) (A:Option Addr) (c n:Nat) (p e:Int) (t:Nat):R3 (w.alloc (.cells #[.slice A n c,.int .i64 p,.int .i64 e] t)) w.heap.size A c n p e:=by
 refine ⟨by simp,?_,?_,?_,?_,?_,?_⟩<;>simp [go_sem]
end
abbrev fR3 (B:Nat) (A:Option Addr) (c n:Nat) (p e:Int):Fct:=⟨fun w=>R3 w B A c n p e,fun _ _ h hb=>h.keep hb⟩
theorem g7_of {w w':World} (h:Below w.heap.size w w') (row:Option Nat):w.grownBy w' row:=⟨h.os,h.tape,h.output,h.size,fun i hi _=>h.block i hi⟩
theorem g7_set {w w1:World} {row:Option Nat} (h:w.grownBy w1 row) {p:Addr} (hp:w.heap.size≤p.block∨row=some p.block) (v:Value):w.grownBy (w1.setCell p v) row:=by
 have hb:=(Below.refl p.block w1).setCell (Nat.le_refl _) v;refine ⟨hb.os.trans h.os,hb.tape.trans h.tape,hb.output.trans h.output,Nat.le_trans h.size hb.size,fun i hi hne=>(Below.heap_setCell w1 p v i ?_).trans (h.block i hi hne)⟩;rintro rfl;rcases hp with hp | hp
 ·omega
 ·exact hne hp.symm
theorem g7_on {w w1 w2:World} {row:Option Nat} (h:w.grownBy w1 row) (hb:Below w1.heap.size w1 w2):w.grownBy w2 row:=h.trans (g7_of hb row)
abbrev fv (x y z:Int):Value:=.agg #[.int .i64 x,.int .i64 y,.int .i64 z]
theorem fmay_v (x lo hi v:Int) (w:World):Calls Tryz.prog 89 #[fv x lo hi,.int .i64 v] w fun e w'=>e=.returned (.bool (decide (lo≤v)&&decide (v≤hi)))∧Below w.heap.size w w':=by
 by_cases h:lo≤v
 ·rw [decide_eq_true h,Bool.true_and];go_enter Tryz.func89,Tryz.ntmps89;go_wp2_with fail;go_ret;exact ⟨rfl,new1⟩
 ·rw [decide_eq_false h,Bool.false_and];go_enter Tryz.func89,Tryz.ntmps89;go_wp2_with fail;go_ret;exact ⟨rfl,new1⟩
theorem count_v (z:Int) (w:World):Calls Tryz.prog 149 #[.int .i64 z] w fun e w'=>e=.returned (fv 1 0 z)∧Below w.heap.size w w':=by
 go_enter Tryz.func149,Tryz.ntmps149;go_wp2_with fail;exact bodyPost_ret (v:=fv 1 0 z) (by simp [results,Tryz.results149,go_sem]) rfl ⟨rfl,new1⟩
theorem other_v (z:Int) (w:World) (h0:0≤z) (h1:z≤9223372036854775807):Calls Tryz.prog 153 #[.int .i64 z] w fun e w'=>e=.returned (fv 1 0 (16-z))∧Below w.heap.size w w':=by
 have HT:=zhy ((T3.new w 0 0 0 159));go_enter Tryz.func153,Tryz.ntmps153;go_wp2_with fail;refine (count_v _ _).mono ?_;rintro e w1 ⟨rfl,hb1⟩;have HB1:=zhy (below_on (new1 (w:=w)) hb1);obtain ⟨b0,c0,c1,c2⟩:=HT.out.keep hb1;have f0:=((bcell hb1).2 w.heap.size 0 (by simp)).trans (show (w.alloc (.cells #[.int .i64 0,.int .i64 0,.int .i64 0] 159)).frozen? ⟨w.heap.size,0,none⟩=false by simp [go_sem]);have f1:=((bcell hb1).2 w.heap.size 1 (by simp)).trans (show (w.alloc (.cells #[.int .i64 0,.int .i64 0,.int .i64 0] 159)).frozen? ⟨w.heap.size,1,none⟩=false by simp [go_sem]);have f2:=((bcell hb1).2 w.heap.size 2 (by simp)).trans (show (w.alloc (.cells #[.int .i64 0,.int .i64 0,.int .i64 0] 159)).frozen? ⟨w.heap.size,2,none⟩=false by simp [go_sem]);clear hb1 HT;go_wp2_with fail;exact bodyPost_ret (v:=fv 1 0 (16-z)) (by simp [results,Tryz.results153,go_sem,c0,c1,c2]) rfl ⟨rfl,((HB1.out.setCell (p:=⟨w.heap.size,0,none⟩) (Nat.le_refl _) _).setCell (p:=⟨w.heap.size,1,none⟩) (Nat.le_refl _) _).setCell (p:=⟨w.heap.size,2,none⟩) (Nat.le_refl _) _⟩
theorem flag_v (q:Bool) (w:World):Calls Tryz.prog 154 #[.bool q] w fun e w'=>e=.returned (.int .i64 (fl q))∧w=w':=by
 cases q with
 | true =>
  go_enter Tryz.func154,Tryz.ntmps154;go_wp2_with fail;go_ret;exact ⟨rfl,rfl⟩
 | false =>
  go_enter Tryz.func154,Tryz.ntmps154;go_wp2_with fail;go_ret;exact ⟨rfl,rfl⟩
theorem num7_err (B:Nat) (A:Option Addr) (c n:Nat) (W lo hi at_ e0:Int) (w:World) (h:R3 w B A c n at_ e0) (h0:e0≠0):Calls Tryz.prog 224 #[.pointer (some ⟨B,0,none⟩),fv W lo hi] w fun e w'=>e=.returned (.int .i64 0)∧Below w.heap.size w w':=by
 have he:(e0 != 0)=true:=by simpa using h0
 obtain ⟨b0,s0,s1,s2,z0,z1,z2⟩:=h.keep (new1 (a:=.cells #[.int .i64 W,.int .i64 lo,.int .i64 hi] 159));clear h h0;go_enter Tryz.func224,Tryz.ntmps224;go_wp2_with fail;go_ret;exact ⟨rfl,new1⟩
theorem num7_bad (B:Nat) (A:Option Addr) (c n:Nat) (l:List Int) (W lo hi at_ V N E:Int) (w:World) (hr:Rd w A c l) (hn:l.length=n) (h:R3 w B A c n at_ 0) (hV:getV l at_ W=V) (hN:getN l at_ W=N) (hE:getE l at_ W=E) (h0:E≠0):Calls Tryz.prog 224 #[.pointer (some ⟨B,0,none⟩),fv W lo hi] w fun e w'=>e=.returned (.int .i64 0)∧w.grownBy w' (some B)∧R3 w' B A c n at_ E:=by
 subst hn;have HG:=fun w hr=>zhy (get_any A c l at_ W w hr);rw [hV,hN,hE] at HG;have S0:=zhy ((((Sx.start w).add (fR A c l) hr).add (fR3 B A c l.length at_ 0) h).mk1 (.cells #[.int .i64 W,.int .i64 lo,.int .i64 hi] 159) |>.add (fT3 w.heap.size W lo hi) (T3.new w W lo hi 159));clear hV hN hE hr;obtain ⟨b0,s0,s1,s2,z0,z1,z2⟩:=h.keep (new1 (a:=.cells #[.int .i64 W,.int .i64 lo,.int .i64 hi] 159));clear h;go_enter Tryz.func224,Tryz.ntmps224;go_upto_region 3 with (fail);clear b0 s0 s1 s2 z0 z1 z2;refine wp_region_held_drew (S:=fun w'=>Hid (Sx w w' [fT3 w.heap.size W lo hi,fR3 B A c l.length at_ 0,fR A c l])) (by kernel_rfl) (Hsx.drew S0) (fun hHeld=>?_);refine zq 0 (h:=?_);refine zq 1 (h:=?_);refine zq 2 (h:=?_);refine zq 3 (hy:=fun w hSw=>by (try dsimp only at hSw);obtain ⟨-,⟨-,i0,i1,i2⟩,⟨-,s0,s1,s2,-⟩,-⟩:=hSw.out;go_simp;try with_reducible rfl) (h:=?_);refine zq 4 (h:=?_);refine zq 5 (h:=?_);refine zq 6 (h:=?_);refine zq 7 (hy:=fun w hSw=>by (try dsimp only at hSw);obtain ⟨-,⟨-,i0,i1,i2⟩,⟨-,s0,s1,s2,-⟩,-⟩:=hSw.out;go_simp;try with_reducible rfl) (h:=?_);refine zq 8 (h:=?_);refine zq 9 (hy:=fun w hSw=>by (try dsimp only at hSw);obtain ⟨-,⟨-,i0,i1,i2⟩,⟨-,s0,s1,s2,-⟩,-⟩:=hSw.out;go_simp;try with_reducible rfl) (h:=?_);refine wpAnyH_ready (rs:=[10]) (by kernel_rfl) (by simp) ?_;refine AllReadyH.cons rfl (fun K hK=>?_) AllReadyH.nil;go_simp;refine (HG _ hHeld.out.2.2.2.1).out.mono ?_;rintro e w1 ⟨rfl,hb⟩;go_wp2_with fail;refine hK.out _ _ (Hsx.call hb hHeld) (fun hHeld=>?_);clear hK K;(try simp only [Act.put,zg1,zg2,zg3,zg4,zg5,zg6]);refine zq 11 (h:=?_);refine zq 12 (h:=?_);refine zq 13 (h:=?_);refine zq 14 (h:=?_);refine zq 15 (h:=?_);refine zq 16 (h:=?_);refine zq 17 (h:=?_);refine wpAnyH_done (by kernel_rfl) ?_ _;have he:(E==0)=false:=by simpa using h0
 have he2:(E != 0)=true:=by simpa using h0
 obtain ⟨-,⟨-,i0,i1,i2⟩,⟨b0,s0,s1,s2,z0,z1,z2⟩,-⟩:=hHeld.out;go_wp2_with fail;go_ret;exact ⟨rfl,g7_set (g7_of hHeld.out.1 _) (.inr rfl) _,hHeld.out.2.2.1.set2 E⟩
theorem num7_yes (B:Nat) (A:Option Addr) (c n:Nat) (l:List Int) (W lo hi at_ V N E:Int) (w:World) (hr:Rd w A c l) (hn:l.length=n) (h:R3 w B A c n at_ 0) (hV:getV l at_ W=V) (hN:getN l at_ W=N) (hE:getE l at_ W=E) (h0:E=0) (hx:lo≤V∧V≤hi):Calls Tryz.prog 224 #[.pointer (some ⟨B,0,none⟩),fv W lo hi] w fun e w'=>e=.returned (.int .i64 V)∧w.grownBy w' (some B)∧R3 w' B A c n N 0:=by
 subst hn;have HG:=fun w hr=>zhy (get_any A c l at_ W w hr);rw [hV,hN,hE] at HG;have S0:=zhy ((((Sx.start w).add (fR A c l) hr).add (fR3 B A c l.length at_ 0) h).mk1 (.cells #[.int .i64 W,.int .i64 lo,.int .i64 hi] 159) |>.add (fT3 w.heap.size W lo hi) (T3.new w W lo hi 159));clear hV hN hE hr;obtain ⟨b0,s0,s1,s2,z0,z1,z2⟩:=h.keep (new1 (a:=.cells #[.int .i64 W,.int .i64 lo,.int .i64 hi] 159));clear h;go_enter Tryz.func224,Tryz.ntmps224;go_upto_region 3 with (fail);clear b0 s0 s1 s2 z0 z1 z2;refine wp_region_held_drew (S:=fun w'=>Hid (Sx w w' [fT3 w.heap.size W lo hi,fR3 B A c l.length at_ 0,fR A c l])) (by kernel_rfl) (Hsx.drew S0) (fun hHeld=>?_);refine zq 0 (h:=?_);refine zq 1 (h:=?_);refine zq 2 (h:=?_);refine zq 3 (hy:=fun w hSw=>by (try dsimp only at hSw);obtain ⟨-,⟨-,i0,i1,i2⟩,⟨-,s0,s1,s2,-⟩,-⟩:=hSw.out;go_simp;try with_reducible rfl) (h:=?_);refine zq 4 (h:=?_);refine zq 5 (h:=?_);refine zq 6 (h:=?_);refine zq 7 (hy:=fun w hSw=>by (try dsimp only at hSw);obtain ⟨-,⟨-,i0,i1,i2⟩,⟨-,s0,s1,s2,-⟩,-⟩:=hSw.out;go_simp;try with_reducible rfl) (h:=?_);refine zq 8 (h:=?_);refine zq 9 (hy:=fun w hSw=>by (try dsimp only at hSw);obtain ⟨-,⟨-,i0,i1,i2⟩,⟨-,s0,s1,s2,-⟩,-⟩:=hSw.out;go_simp;try with_reducible rfl) (h:=?_);refine wpAnyH_ready (rs:=[10]) (by kernel_rfl) (by simp) ?_;refine AllReadyH.cons rfl (fun K hK=>?_) AllReadyH.nil;go_simp;refine (HG _ hHeld.out.2.2.2.1).out.mono ?_;rintro e w1 ⟨rfl,hb⟩;go_wp2_with fail;refine hK.out _ _ (Hsx.call hb hHeld) (fun hHeld=>?_);clear hK K;(try simp only [Act.put,zg1,zg2,zg3,zg4,zg5,zg6]);refine zq 11 (h:=?_);refine zq 12 (h:=?_);refine zq 13 (h:=?_);refine zq 14 (h:=?_);refine zq 15 (h:=?_);refine zq 16 (h:=?_);refine zq 17 (h:=?_);refine wpAnyH_done (by kernel_rfl) ?_ _;obtain rfl:=h0;obtain ⟨-,⟨-,i0,i1,i2⟩,-⟩:=hHeld.out;go_wp2_with fail;refine (fmay_v W lo hi V _).mono ?_;rintro e w3 ⟨rfl,hb3⟩;rw [show (decide (lo≤V)&&decide (V≤hi))=true by simpa using hx];have S3:=zhy (hHeld.out.call hb3);clear hb3 hHeld i0 i1 i2;obtain ⟨-,⟨-,i0,i1,i2⟩,⟨b0,s0,s1,s2,z0,z1,z2⟩,-⟩:=S3.out;go_wp2_with fail;go_ret;exact ⟨rfl,g7_set (g7_of S3.out.1 _) (.inr rfl) _,S3.out.2.2.1.set1 N⟩
theorem num7_no (B:Nat) (A:Option Addr) (c n:Nat) (l:List Int) (W lo hi at_ V N E:Int) (w:World) (hr:Rd w A c l) (hn:l.length=n) (h:R3 w B A c n at_ 0) (hV:getV l at_ W=V) (hN:getN l at_ W=N) (hE:getE l at_ W=E) (h0:E=0) (hx:¬(lo≤V∧V≤hi)):Calls Tryz.prog 224 #[.pointer (some ⟨B,0,none⟩),fv W lo hi] w fun e w'=>e=.returned (.int .i64 0)∧w.grownBy w' (some B)∧R3 w' B A c n at_ 70:=by
 subst hn;have HG:=fun w hr=>zhy (get_any A c l at_ W w hr);rw [hV,hN,hE] at HG;have S0:=zhy ((((Sx.start w).add (fR A c l) hr).add (fR3 B A c l.length at_ 0) h).mk1 (.cells #[.int .i64 W,.int .i64 lo,.int .i64 hi] 159) |>.add (fT3 w.heap.size W lo hi) (T3.new w W lo hi 159));clear hV hN hE hr;obtain ⟨b0,s0,s1,s2,z0,z1,z2⟩:=h.keep (new1 (a:=.cells #[.int .i64 W,.int .i64 lo,.int .i64 hi] 159));clear h;go_enter Tryz.func224,Tryz.ntmps224;go_upto_region 3 with (fail);clear b0 s0 s1 s2 z0 z1 z2;refine wp_region_held_drew (S:=fun w'=>Hid (Sx w w' [fT3 w.heap.size W lo hi,fR3 B A c l.length at_ 0,fR A c l])) (by kernel_rfl) (Hsx.drew S0) (fun hHeld=>?_);refine zq 0 (h:=?_);refine zq 1 (h:=?_);refine zq 2 (h:=?_);refine zq 3 (hy:=fun w hSw=>by (try dsimp only at hSw);obtain ⟨-,⟨-,i0,i1,i2⟩,⟨-,s0,s1,s2,-⟩,-⟩:=hSw.out;go_simp;try with_reducible rfl) (h:=?_);refine zq 4 (h:=?_);refine zq 5 (h:=?_);refine zq 6 (h:=?_);refine zq 7 (hy:=fun w hSw=>by (try dsimp only at hSw);obtain ⟨-,⟨-,i0,i1,i2⟩,⟨-,s0,s1,s2,-⟩,-⟩:=hSw.out;go_simp;try with_reducible rfl) (h:=?_);refine zq 8 (h:=?_);refine zq 9 (hy:=fun w hSw=>by (try dsimp only at hSw);obtain ⟨-,⟨-,i0,i1,i2⟩,⟨-,s0,s1,s2,-⟩,-⟩:=hSw.out;go_simp;try with_reducible rfl) (h:=?_);refine wpAnyH_ready (rs:=[10]) (by kernel_rfl) (by simp) ?_;refine AllReadyH.cons rfl (fun K hK=>?_) AllReadyH.nil;go_simp;refine (HG _ hHeld.out.2.2.2.1).out.mono ?_;rintro e w1 ⟨rfl,hb⟩;go_wp2_with fail;refine hK.out _ _ (Hsx.call hb hHeld) (fun hHeld=>?_);clear hK K;(try simp only [Act.put,zg1,zg2,zg3,zg4,zg5,zg6]);refine zq 11 (h:=?_);refine zq 12 (h:=?_);refine zq 13 (h:=?_);refine zq 14 (h:=?_);refine zq 15 (h:=?_);refine zq 16 (h:=?_);refine zq 17 (h:=?_);refine wpAnyH_done (by kernel_rfl) ?_ _;obtain rfl:=h0;obtain ⟨-,⟨-,i0,i1,i2⟩,-⟩:=hHeld.out;go_wp2_with fail;refine (fmay_v W lo hi V _).mono ?_;rintro e w3 ⟨rfl,hb3⟩;rw [show (decide (lo≤V)&&decide (V≤hi))=false by simp;omega];have S3:=zhy (hHeld.out.call hb3);clear hb3 hHeld i0 i1 i2;obtain ⟨-,⟨-,i0,i1,i2⟩,⟨b0,s0,s1,s2,z0,z1,z2⟩,-⟩:=S3.out;go_wp2_with fail;go_ret;exact ⟨rfl,g7_set (g7_of S3.out.1 _) (.inr rfl) _,S3.out.2.2.1.set2 70⟩
theorem num7_v (B:Nat) (A:Option Addr) (c n:Nat) (l:List Int) (W lo hi p e v p' e':Int) (w:World) (hr:Rd w A c l) (hn:l.length=n) (h:R3 w B A c n p e) (hR:rN l W lo hi (p,e)=(v,p',e')):Calls Tryz.prog 224 #[.pointer (some ⟨B,0,none⟩),fv W lo hi] w fun x w'=>x=.returned (.int .i64 v)∧w.grownBy w' (some B)∧R3 w' B A c n p' e':=by
 by_cases he:e=0
 ·subst he;by_cases hE:getE l p W=0
  ·by_cases hx:lo≤getV l p W∧getV l p W≤hi
   ·have e0:nE l p W lo hi=0:=by rw [nE,if_pos hE,if_pos hx]
    rw [rN_yes e0] at hR;simp only [Prod.mk.injEq] at hR;obtain ⟨rfl,rfl,rfl⟩:=hR;exact num7_yes B A c n l W lo hi p _ _ _ w hr hn h rfl rfl rfl hE hx
   ·have e0:nE l p W lo hi=70:=by rw [nE,if_pos hE,if_neg hx]
    rw [rN_no (by rw [e0];decide),e0] at hR;simp only [Prod.mk.injEq] at hR;obtain ⟨rfl,rfl,rfl⟩:=hR;exact num7_no B A c n l W lo hi p _ _ _ w hr hn h rfl rfl rfl hE hx
  ·have e0:nE l p W lo hi=getE l p W:=by rw [nE,if_neg hE]
   rw [rN_no (by rw [e0];exact hE),e0] at hR;simp only [Prod.mk.injEq] at hR;obtain ⟨rfl,rfl,rfl⟩:=hR;exact num7_bad B A c n l W lo hi p _ _ _ w hr hn h rfl rfl rfl hE
 ·rw [rN_err he] at hR;simp only [Prod.mk.injEq] at hR;obtain ⟨rfl,rfl,rfl⟩:=hR;refine (num7_err B A c n W lo hi p e w h he).mono ?_;rintro x w' ⟨rfl,hb⟩;exact ⟨rfl,g7_of hb _,h.keep hb⟩
end Go.Proofs.YtnjgkkoiamiaaaaGreatDoor
