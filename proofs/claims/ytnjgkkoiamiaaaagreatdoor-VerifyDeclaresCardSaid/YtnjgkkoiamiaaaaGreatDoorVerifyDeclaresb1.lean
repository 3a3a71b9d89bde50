import Derived.Test.YtnjgkkoiamiaaaaGreatDoorVca15
set_option maxRecDepth 100000
set_option maxHeartbeats 16000000
set_option linter.unusedSimpArgs false
set_option linter.unusedVariables false
namespace Go.Proofs.YtnjgkkoiamiaaaaGreatDoor
open Go.RowKit
theorem cev_one (L:List Vlu):∀u∈cev L,u.oneCell'=true:=by
 intro u hu;simp only [cev,List.mem_flatMap] at hu;obtain ⟨x,_,hx⟩:=hu;simp at hx;rcases hx with rfl | rfl | rfl<;>rfl
theorem cev_inv {L:List Vlu} {j:Nat} {u:Value} (h:(cev L)[j]?=some u):∃i x,L[i]?=some x∧((j=i*3∧u=.int .u8 x.1)∨(j=i*3+1∧u=.int .i64 x.2.1)∨(j=i*3+2∧u=.int .i64 x.2.2)):=by
 have hj:=(zg8.1 h).1;rw [length_cev] at hj;have hi:j / 3<L.length:=by omega
 have hx:L[j / 3]?=some L[j / 3]:=zg7 hi;obtain ⟨h1,h2,h3⟩:=cev_at hx;refine ⟨j / 3,_,hx,?_⟩;have h3':j % 3=0∨j % 3=1∨j % 3=2:=by omega
 rcases h3' with e | e | e
 ·have e':j=j / 3*3:=by omega
  rw [←e',h] at h1;exact .inl ⟨e',Option.some.inj h1⟩
 ·have e':j=j / 3*3+1:=by omega
  rw [←e',h] at h2;exact .inr (.inl ⟨e',Option.some.inj h2⟩)
 ·have e':j=j / 3*3+2:=by omega
  rw [←e',h] at h3;exact .inr (.inr ⟨e',Option.some.inj h3⟩)
theorem rv_cells {w:World} {ad:Addr} {c:Nat} {L:List Vlu} (h:Rv w (some ad) c L) (hc:0<c):∀j u,(cev L)[j]?=some u→w.cell? (ad.add j)=some u:=by
 intro j u hj;obtain ⟨i,x,hx,hu⟩:=cev_inv hj;rcases h.2.2.2 with ⟨ha,_⟩ | ⟨ad',ha,hcell⟩
 ·cases ha
 ·injection ha with ha;subst ha;obtain ⟨h1,h2,h3⟩:=hcell i x hx;rw [←vadd_1] at h2;rw [←vadd_2] at h3;rcases hu with ⟨rfl,rfl⟩ | ⟨rfl,rfl⟩ | ⟨rfl,rfl⟩
  ·exact h1
  ·exact h2
  ·exact h3
theorem wpList_append_rv (w:World) {ops:Array Oper} {rest:List Oper} {o:Oper} {a:Act} {Q:Exit→Act→World→Prop} (hgd:o.guard=none) (s x:Operand)
  (ho:o.op=.call { callee:=.builtin .append,args:=#[s,x],argTypes:=#[22,22]})
  (base:Nat) (v:Value) (n:Nat) (K:List Vlu) (hs:a.eval s=v) (hown:w.ownsRow base 139 3 v n (cev K))
  (A:Option Addr) (m c:Nat) (L:List Vlu) (hx:a.eval x=.slice A m c) (hr:Rv w A c L) (hm:m=L.length) (hbytes:n+m≤1000000) (hbase:base≤w.heap.size)
  (h:∀A' c' w',w'.ownsRow base 139 3 (.slice A' (n+m) c') (n+m) (cev (K++L))→Below base w w'→wpList Tryz.prog ops Q rest (a.put o.dst (.slice A' (n+m) c')) w'):wpList Tryz.prog ops Q (o::rest) a w:=by
 have hinfo:=Tryz.infoV
 rw [Option.map_eq_some_iff] at hinfo
 obtain ⟨i,hi,hz⟩:=hinfo
 simp only [Prod.mk.injEq] at hz
 obtain ⟨hz0,hz1,hz2⟩:=hz
 have hbel:∀{w'},w.grownBy w' v.ownBlock→Below base w w':=fun hg=>(Below.refl _ _).grown hg hbase fun g hg'=>(hown.lt g hg').1
 rcases hr.2.2.2 with ⟨rfl,rfl⟩ | ⟨ad,rfl,hcell⟩
 ·have h0:L=[]:=List.eq_nil_of_length_eq_zero (by have:=hr.le;omega)
  subst h0
  obtain rfl:m=0:=hm
  refine wpList_append_own_none hgd s x 22 ho base 139 i 3 Tryz.underlying22 hi v n (cev K) hs hown hx ?_
  obtain ⟨A',c',rfl⟩:=own_form hown
  have:=h A' c' w (by simpa using hown) (hbel (World.grownBy.refl w _))
  simpa using this
 ·by_cases hc:c=0
  ·subst hc
   have h0:L=[]:=List.eq_nil_of_length_eq_zero (by have:=hr.le;omega)
   subst h0
   obtain rfl:m=0:=hm
   refine wpList_append_own_at w hgd s x 22 ho base 139 i _ 3 24 Tryz.underlying22 hi hz0 hz1 hz2 rfl (by decide) v n (cev K) hs hown ad 0 0 [] hx rfl (fun j u hj=>by cases hj) (fun u hu=>by cases hu) (by unfold maxLen;omega) (by omega) hbase ?_
   intro v' w' hown' hg _ _
   obtain ⟨A',c',rfl⟩:=own_form hown'
   exact h A' c' w' (by simpa using hown') (hbel hg)
  ·refine wpList_append_own_at w hgd s x 22 ho base 139 i _ 3 24 Tryz.underlying22 hi hz0 hz1 hz2 rfl (by decide) v n (cev K) hs hown ad m c (cev L) hx (by rw [length_cev,hm])
    (rv_cells hr (by omega)) (cev_one L) (by unfold maxLen;omega) (by omega) hbase ?_
   intro v' w' hown' hg _ _
   obtain ⟨A',c',rfl⟩:=own_form hown'
   exact h A' c' w' (by rw [cev_append];exact hown') (hbel hg)
theorem r3copy_any (A:Option Addr) (c m:Nat) (L:List Vlu) (w:World) (hr:Rv w A c L) (hm:L.length=m) (hl:m≤1000000):Calls Tryz.prog 32 #[.slice A m c] w fun e w'=>∃A' c',e=.returned (.slice A' m c')∧w'.ownsRow w.heap.size 139 3 (.slice A' m c') m (cev L)∧Below w.heap.size w w':=by
 go_enter Tryz.func32,Tryz.ntmps32;go_wp2_with (at_builtin;refine wpList_append_rv _ rfl _ _ rfl w.heap.size _ 0 [] rfl (World.ownsRow_nil _ _ _ _) A m c L rfl hr hm.symm (by omega) (Nat.le_refl _) ?_);intro A' c' w1 ho hb;have HO:=zhy ho;have HB:=zhy hb;clear ho hb;go_wp2_with fail;go_ret;exact ⟨A',c',rfl,HO.out,HB.out⟩
theorem gB_no {m:Mh} (h:gB m=false):m.a.length≤100∧m.l.length≤100:=by
 simp [gB] at h;omega
abbrev fF (B:Nat):Fct:=⟨fun w=>Mf w B,fun _ _ h hb=>h.keep hb⟩
theorem Mb.setD {w:World} {B:Nat} {x:Mc} {m:Mh} (h:Mb w B x m) (A:Option Addr) (k e:Nat):Mb (w.setCell ⟨B,7,none⟩ (.slice A k e)) B { x with D:=A,k:=k,e:=e } m:=by
 obtain ⟨h0,h1,h2,h3,h4,h5,h6,h7,h8⟩:=h;refine ⟨by simpa using h0,?_,?_,?_,?_,?_,?_,?_,?_⟩<;>simp [go_sem,h1,h2,h3,h4,h5,h6,h7,h8]
theorem cei_one (L:List Ins):∀u∈cei L,u.oneCell'=true:=by
 intro u hu;simp only [cei,List.mem_flatMap] at hu;obtain ⟨x,_,hx⟩:=hu;simp at hx;rcases hx with rfl | rfl | rfl<;>rfl
theorem cei_inv {L:List Ins} {j:Nat} {u:Value} (h:(cei L)[j]?=some u):∃i x,L[i]?=some x∧((j=i*3∧u=.int .u8 x.1)∨(j=i*3+1∧u=.int .i64 x.2.1)∨(j=i*3+2∧u=.int .i64 x.2.2)):=by
 have hj:=(zg8.1 h).1;rw [length_cei] at hj;have hi:j / 3<L.length:=by omega
 have hx:L[j / 3]?=some L[j / 3]:=zg7 hi;obtain ⟨h1,h2,h3⟩:=cei_at hx;refine ⟨j / 3,_,hx,?_⟩;have h3':j % 3=0∨j % 3=1∨j % 3=2:=by omega
 rcases h3' with e | e | e
 ·have e':j=j / 3*3:=by omega
  rw [←e',h] at h1;exact .inl ⟨e',Option.some.inj h1⟩
 ·have e':j=j / 3*3+1:=by omega
  rw [←e',h] at h2;exact .inr (.inl ⟨e',Option.some.inj h2⟩)
 ·have e':j=j / 3*3+2:=by omega
  rw [←e',h] at h3;exact .inr (.inr ⟨e',Option.some.inj h3⟩)
theorem ri_cells {w:World} {ad:Addr} {c:Nat} {L:List Ins} (h:Ri w (some ad) c L) (hc:0<c):∀j u,(cei L)[j]?=some u→w.cell? (ad.add j)=some u:=by
 intro j u hj;obtain ⟨i,x,hx,hu⟩:=cei_inv hj;rcases h.2.2.2 with ⟨ha,_⟩ | ⟨ad',ha,hcell⟩
 ·cases ha
 ·injection ha with ha;subst ha;obtain ⟨h1,h2,h3⟩:=hcell i x hx;rw [←add_1] at h2;rw [←add_2] at h3;rcases hu with ⟨rfl,rfl⟩ | ⟨rfl,rfl⟩ | ⟨rfl,rfl⟩
  ·exact h1
  ·exact h2
  ·exact h3
theorem wpList_append_ri (w:World) {ops:Array Oper} {rest:List Oper} {o:Oper} {a:Act} {Q:Exit→Act→World→Prop} (hgd:o.guard=none) (s x:Operand)
  (ho:o.op=.call { callee:=.builtin .append,args:=#[s,x],argTypes:=#[48,48]})
  (base:Nat) (v:Value) (n:Nat) (K:List Ins) (hs:a.eval s=v) (hown:w.ownsRow base 57 3 v n (cei K))
  (A:Option Addr) (m c:Nat) (L:List Ins) (hx:a.eval x=.slice A m c) (hr:Ri w A c L) (hm:m=L.length) (hbytes:n+m≤1000000) (hbase:base≤w.heap.size)
  (h:∀A' c' w',w'.ownsRow base 57 3 (.slice A' (n+m) c') (n+m) (cei (K++L))→Below base w w'→wpList Tryz.prog ops Q rest (a.put o.dst (.slice A' (n+m) c')) w'):wpList Tryz.prog ops Q (o::rest) a w:=by
 have hinfo:=Tryz.infoI
 rw [Option.map_eq_some_iff] at hinfo
 obtain ⟨i,hi,hz⟩:=hinfo
 simp only [Prod.mk.injEq] at hz
 obtain ⟨hz0,hz1,hz2⟩:=hz
 have hbel:∀{w'},w.grownBy w' v.ownBlock→Below base w w':=fun hg=>(Below.refl _ _).grown hg hbase fun g hg'=>(hown.lt g hg').1
 rcases hr.2.2.2 with ⟨rfl,rfl⟩ | ⟨ad,rfl,hcell⟩
 ·have h0:L=[]:=List.eq_nil_of_length_eq_zero (by have:=hr.le;omega)
  subst h0
  obtain rfl:m=0:=hm
  refine wpList_append_own_none hgd s x 48 ho base 57 i 3 Tryz.underlying48 hi v n (cei K) hs hown hx ?_
  obtain ⟨A',c',rfl⟩:=own_form hown
  have:=h A' c' w (by simpa using hown) (hbel (World.grownBy.refl w _))
  simpa using this
 ·by_cases hc:c=0
  ·subst hc
   have h0:L=[]:=List.eq_nil_of_length_eq_zero (by have:=hr.le;omega)
   subst h0
   obtain rfl:m=0:=hm
   refine wpList_append_own_at w hgd s x 48 ho base 57 i _ 3 24 Tryz.underlying48 hi hz0 hz1 hz2 rfl (by decide) v n (cei K) hs hown ad 0 0 [] hx rfl (fun j u hj=>by cases hj) (fun u hu=>by cases hu) (by unfold maxLen;omega) (by omega) hbase ?_
   intro v' w' hown' hg _ _
   obtain ⟨A',c',rfl⟩:=own_form hown'
   exact h A' c' w' (by simpa using hown') (hbel hg)
  ·refine wpList_append_own_at w hgd s x 48 ho base 57 i _ 3 24 Tryz.underlying48 hi hz0 hz1 hz2 rfl (by decide) v n (cei K) hs hown ad m c (cei L) hx (by rw [length_cei,hm])
    (ri_cells hr (by omega)) (cei_one L) (by unfold maxLen;omega) (by omega) hbase ?_
   intro v' w' hown' hg _ _
   obtain ⟨A',c',rfl⟩:=own_form hown'
   exact h A' c' w' (by rw [cei_append];exact hown') (hbel hg)
theorem rcopy_any (A:Option Addr) (c m:Nat) (L:List Ins) (w:World) (hr:Ri w A c L) (hm:L.length=m) (hl:m≤1000000):Calls Tryz.prog 33 #[.slice A m c] w fun e w'=>∃A' c',e=.returned (.slice A' m c')∧w'.ownsRow w.heap.size 57 3 (.slice A' m c') m (cei L)∧Below w.heap.size w w':=by
 go_enter Tryz.func33,Tryz.ntmps33;go_wp2_with (at_builtin;refine wpList_append_ri _ rfl _ _ rfl w.heap.size _ 0 [] rfl (World.ownsRow_nil _ _ _ _) A m c L rfl hr hm.symm (by omega) (Nat.le_refl _) ?_);intro A' c' w1 ho hb;have HO:=zhy ho;have HB:=zhy hb;clear ho hb;go_wp2_with fail;go_ret;exact ⟨A',c',rfl,HO.out,HB.out⟩
theorem Bk.lt {w:World} {B t n:Nat} (h:Bk w B t n):B<w.heap.size:=by
 obtain ⟨cur,h,_⟩:=h;exact (zg9.1 h).1
theorem Bk.keep {w w':World} {B t n:Nat} (h:Bk w B t n) (hb:Below w.heap.size w w'):Bk w' B t n:=by
 have hl:=h.lt;obtain ⟨cur,h,hn⟩:=h;exact ⟨cur,(hb.block B hl).trans h,hn⟩
theorem Bk.new (w:World) (cs:Array Value) (t:Nat):Bk (w.alloc (.cells cs t)) w.heap.size t cs.size:=⟨cs,heap_alloc_new w _,rfl⟩
theorem Bk.grown {w w':World} {B t n base2 e2 size2 n2:Nat} {v2:Value} {xs2:List Value} (h:Bk w B t n) (h2:w.ownsRow base2 e2 size2 v2 n2 xs2) (hne:t≠e2) (hg:w.grownBy w' v2.ownBlock):Bk w' B t n:=by
 have hlt:=h.lt;obtain ⟨cur,hh,hn⟩:=h
 have hgB:some B≠v2.ownBlock:=fun e'=>by
  rcases h2.2 with ⟨rfl,_⟩ | ⟨g2,cap2,cur2,rfl,_,hh2,_⟩
  ·simp [Value.ownBlock] at e'
  ·simp [Value.ownBlock] at e';subst e';rw [hh] at hh2;injection hh2 with hh2;injection hh2 with _ h3 _;exact hne h3
 exact ⟨cur,(hg.block B hlt hgB).trans hh,hn⟩
theorem cem_append (Z Y:List Me):cem (Z++Y)=cem Z++cem Y:=by simp [cem]
theorem cem_one (z:Me):cem [z]=ce8 z:=by simp [cem]
theorem ce8_one (z:Me):∀u∈ce8 z,u.oneCell'=true:=by
 intro u hu;simp [ce8] at hu;rcases hu with rfl | rfl | rfl | rfl | rfl | rfl | rfl | rfl<;>rfl
theorem wpList_append_rm (w:World) {ops:Array Oper} {rest:List Oper} {o:Oper} {a:Act} {Q:Exit→Act→World→Prop} (hgd:o.guard=none) (s x:Operand)
  (ho:o.op=.call { callee:=.builtin .append,args:=#[s,x],argTypes:=#[23,23]})
  (base:Nat) (v:Value) (n:Nat) (K:List Me) (hs:a.eval s=v) (hown:w.ownsRow base 50 8 v n (cem K))
  (ad:Addr) (z:Me) (hx:a.eval x=.slice (some ad) 1 1) (hr:∀j u,(ce8 z)[j]?=some u→w.cell? (ad.add j)=some u) (hbytes:n+1≤1000000) (hbase:base≤w.heap.size)
  (h:∀A' c' w',w'.ownsRow base 50 8 (.slice A' (n+1) c') (n+1) (cem (K++[z]))→w.grownBy w' v.ownBlock→Below base w w' →
   ((Value.slice A' (n+1) c').ownBlock=v.ownBlock∨(Value.slice A' (n+1) c').ownBlock=some w.heap.size)→wpList Tryz.prog ops Q rest (a.put o.dst (.slice A' (n+1) c')) w'):wpList Tryz.prog ops Q (o::rest) a w:=by
 have hinfo:=Tryz.infoM
 rw [Option.map_eq_some_iff] at hinfo
 obtain ⟨i,hi,hz⟩:=hinfo
 simp only [Prod.mk.injEq] at hz
 obtain ⟨hz0,hz1,hz2⟩:=hz
 have hbel:∀{w'},w.grownBy w' v.ownBlock→Below base w w':=fun hg=>(Below.refl _ _).grown hg hbase fun g hg'=>(hown.lt g hg').1
 refine wpList_append_own_at w hgd s x 23 ho base 50 i _ 8 104 Tryz.underlying23 hi hz0 hz1 hz2 rfl (by decide) v n (cem K) hs hown ad 1 1 (ce8 z) hx (by rw [length_ce8]) hr (ce8_one z) (by unfold maxLen;omega) (by omega) hbase ?_
 intro v' w' hown' hg _ hb
 obtain ⟨A',c',rfl⟩:=own_form hown'
 exact h A' c' w' (by rw [cem_append,cem_one];exact hown') hg (hbel hg) hb
theorem Rs.set {w:World} {lo hi e size n:Nat} {A:Option Addr} (h:Rs w lo hi e size A n) (b j:Nat) (v:Value):Rs (w.setCell ⟨b,j,none⟩ v) lo hi e size A n:=by
 rcases h with h | ⟨g,cur,h1,h2,h3,h4,h5⟩
 ·exact .inl h
 ·by_cases hg:b=g
  ·subst hg;exact .inr ⟨b,cur.setIfInBounds j v,h1,h2,h3,heap_setCell_same w b j cur e v h4,by simpa using h5⟩
  ·exact .inr ⟨g,cur,h1,h2,h3,(Below.heap_setCell w ⟨b,j,none⟩ v g (fun e'=>hg e'.symm)).trans h4,h5⟩
def rm10 (d:Md) (h:Mh) (c:List Ins):List Rz×Int:=
 if flE9 c=0 then (if c.all (th10 d h)=true then (if (rs10 d h c c.length).2=0 then ((rs10 d h c c.length).1,0) else ([],(rs10 d h c c.length).2)) else ([],100)) else ([],flE9 c)
def rw10 (d:Md) (k:Int):List Rz×Int:=if k<0∨(d.s.length:Int)≤k then ([],2) else rm10 d (d.s[k.toNat]?.getD (Mh.zero,[])).1 (d.s[k.toNat]?.getD (Mh.zero,[])).2
structure Sa10 (d d':Md):Prop where
 p:d'.p.map (fun v=>v.1)=d.p.map (fun v=>v.1)
 g:d'.g.map (fun v=>v.1)=d.g.map (fun v=>v.1)
 s:d'.s.map (fun z=>(z.1.a,z.1.r))=d.s.map (fun z=>(z.1.a,z.1.r))
theorem pk10_same {L L':List Vlu} (h:L'.map (fun v=>v.1)=L.map (fun v=>v.1)) (a:Nat):pk10 L' a=pk10 L a:=by
 have e:∀M:List Vlu,pk10 M a=((M.map (fun v=>v.1))[a]?).getD 0:=fun M=>by
  rw [List.getElem?_map,pk10];cases M[a]?<;>rfl
 rw [e,e,h]
theorem me10_same {d d':Md} (h:d'.s.map (fun z=>(z.1.a,z.1.r))=d.s.map (fun z=>(z.1.a,z.1.r))) (a:Nat):(me10 d' a).a=(me10 d a).a∧(me10 d' a).r=(me10 d a).r:=by
 have e:∀M:Md,((me10 M a).a,(me10 M a).r)=((M.s.map (fun z=>(z.1.a,z.1.r)))[a]?).getD (Mh.zero.a,Mh.zero.r):=fun M=>by
  rw [List.getElem?_map,me10];cases M.s[a]?<;>rfl
 have e2:=(e d').trans ((congrArg (fun l=>(l[a]?).getD (Mh.zero.a,Mh.zero.r)) h).trans (e d).symm);exact ⟨congrArg Prod.fst e2,congrArg Prod.snd e2⟩
theorem th10_same {d d':Md} (S:Sa10 d d') {h h':Mh} (ha:h'.a=h.a) (hl:h'.l=h.l) (x:Ins):th10 d' h' x=th10 d h x:=by
 have e1:d'.p.length=d.p.length:=by simpa using congrArg List.length S.p
 have e2:d'.g.length=d.g.length:=by simpa using congrArg List.length S.g
 have e3:d'.s.length=d.s.length:=by simpa using congrArg List.length S.s
 simp only [th10,e1,e2,e3,ha,hl]
theorem af10_same {d d':Md} (S:Sa10 d d') {h h':Mh} (ha:h'.a=h.a) (hl:h'.l=h.l) (hr:h'.r=h.r) (x:Ins) (R:List Int):af10 d' h' x R=af10 d h x R:=by
 have e1:=pk10_same S.p;have e2:=pk10_same S.g;have e3:=fun a=>(me10_same S.s a).1;have e4:=fun a=>(me10_same S.s a).2;simp only [af10,ki10,e1,e2,e3,e4,ha,hl,hr]
theorem rs10_same {d d':Md} (S:Sa10 d d') {h h':Mh} (ha:h'.a=h.a) (hl:h'.l=h.l) (hr:h'.r=h.r) (c:List Ins):∀p,rs10 d' h' c p=rs10 d h c p
 | 0=>rfl
 | p+1=>by
  have ih:=rs10_same S ha hl hr c p;simp only [rs10,ih,af10_same S ha hl hr]
theorem rm10_same {d d':Md} (S:Sa10 d d') {h h':Mh} (ha:h'.a=h.a) (hl:h'.l=h.l) (hr:h'.r=h.r) (c:List Ins):rm10 d' h' c=rm10 d h c:=by
 have e:(th10 d' h')=th10 d h:=funext fun x=>th10_same S ha hl x;simp only [rm10,rs10_same S ha hl hr,e]
theorem rw10_same {d d':Md} (S:Sa10 d d') {k:Int} (hm:∀z z',0≤k→d.s[k.toNat]?=some z→d'.s[k.toNat]?=some z'→z'.1.l=z.1.l∧z'.2=z.2):rw10 d' k=rw10 d k:=by
 have e3:d'.s.length=d.s.length:=by simpa using congrArg List.length S.s
 unfold rw10;rw [e3];by_cases hk:k<0∨(d.s.length:Int)≤k
 ·rw [if_pos hk,if_pos hk]
 ·rw [if_neg hk,if_neg hk];have h1:k.toNat<d.s.length:=by omega
  obtain ⟨z,hz⟩:∃z,d.s[k.toNat]?=some z:=⟨_,zg7 h1⟩;obtain ⟨z',hz'⟩:∃z,d'.s[k.toNat]?=some z:=⟨_,zg7 (by rw [e3];exact h1)⟩;obtain ⟨hl,hc⟩:=hm z z' (by omega) hz hz';have:=me10_same S.s k.toNat;simp only [me10,hz,hz',Option.getD_some] at this;rw [hz,hz'];simp only [Option.getD_some,hc];exact rm10_same S this.1 hl this.2 _
theorem af10s_same {d d':Md} (S:Sa10 d d') {h h':Mh} (ha:h'.a=h.a) (hl:h'.l=h.l) (hr:h'.r=h.r) (x:Ins) (R:List Int):af10s d' h' x R=af10s d h x R:=by
 have e1:=pk10_same S.p;have e2:=pk10_same S.g;have e3:=fun a=>(me10_same S.s a).1;have e4:=fun a=>(me10_same S.s a).2;have f1:K10 d' h' x=K10 d h x:=by simp only [K10,ki10,e2,e3,ha,hl,hr]
 have f2:∀T,lv10 d' h' x T=lv10 d h x T:=fun T=>by simp only [lv10,ki10,e1,e2,e4,ha,hl]
 have f3:sk10 d' h' x R=sk10 d h x R:=by rw [sk10,f1,←sk10]
 rw [af10s,f3,f2,←af10s]
theorem rs10s_same {d d':Md} (S:Sa10 d d') {h h':Mh} (ha:h'.a=h.a) (hl:h'.l=h.l) (hr:h'.r=h.r) (c:List Ins):∀p,rs10s d' h' c p=rs10s d h c p
 | 0=>rfl
 | p+1=>by
  have ih:=rs10s_same S ha hl hr c p;simp only [rs10s,ih,af10s_same S ha hl hr]
theorem rm10s_same {d d':Md} (S:Sa10 d d') {h h':Mh} (ha:h'.a=h.a) (hl:h'.l=h.l) (hr:h'.r=h.r) (c:List Ins):rm10s d' h' c=rm10s d h c:=by
 have e:(th10 d' h')=th10 d h:=funext fun x=>th10_same S ha hl x;simp only [rm10s,rs10s_same S ha hl hr,e]
theorem rw10s_same {d d':Md} (S:Sa10 d d') {k:Int} (hm:∀z z',0≤k→d.s[k.toNat]?=some z→d'.s[k.toNat]?=some z'→z'.1.l=z.1.l∧z'.2=z.2):rw10s d' k=rw10s d k:=by
 have e3:d'.s.length=d.s.length:=by simpa using congrArg List.length S.s
 unfold rw10s;rw [e3];by_cases hk:k<0∨(d.s.length:Int)≤k
 ·rw [if_pos hk,if_pos hk]
 ·rw [if_neg hk,if_neg hk];have h1:k.toNat<d.s.length:=by omega
  obtain ⟨z,hz⟩:∃z,d.s[k.toNat]?=some z:=⟨_,zg7 h1⟩;obtain ⟨z',hz'⟩:∃z,d'.s[k.toNat]?=some z:=⟨_,zg7 (by rw [e3];exact h1)⟩;obtain ⟨hl,hc⟩:=hm z z' (by omega) hz hz';have:=me10_same S.s k.toNat;simp only [me10,hz,hz',Option.getD_some] at this;rw [hz,hz'];simp only [Option.getD_some,hc];exact rm10s_same S this.1 hl this.2 _
theorem wh11_ok {d:Md} (h:ba11 d=false) {k:Nat} (hk:k<d.s.length):wh11 d k=(ns11 ((List.range d.s.length).filter (e11 d k)),0):=by
 rw [wh11,if_neg (by omega),Int.toNat_natCast,if_neg (by rw [ba11_at h hk];decide)]
theorem ok12_at {d:Md} (h:(ro11 d).2=0) (hf:ok12 d d.s.length=true) {k:Nat} (hk:k<d.s.length):fi12 (ce12 d k) (me10 d k)=true:=by
 obtain ⟨-,-,ho,hl,hb⟩:=or12 h;unfold ok12 at hf;rw [List.take_of_length_le (by omega),List.all_eq_true] at hf;exact hf k (all11 ho.nd ho.lt hl k hk)
theorem ok12_of {d:Md} (h:(ro11 d).2=0) (hf:∀k,k<d.s.length→fi12 (ce12 d k) (me10 d k)=true):ok12 d d.s.length=true:=by
 obtain ⟨-,-,ho,hl,hb⟩:=or12 h;unfold ok12;rw [List.all_eq_true];exact fun k hk=>hf k (ho.lt k (List.mem_of_mem_take hk))
structure Sd12 (d d':Md):Prop where
 sa:Sa10 d d'
 len:d'.s.length=d.s.length
 co:∀k,co11 d' k=co11 d k
 ki:∀k,(me10 d' k).a=(me10 d k).a∧(me10 d' k).l=(me10 d k).l∧(me10 d' k).r=(me10 d k).r
section
variable {d d' : Md} (S : Sd12 d d')
include S
theorem Sd12.e:e11 d'=e11 d:=by
 funext k j;unfold e11;rw [S.co]
theorem Sd12.ba:ba11 d'=ba11 d:=by
 by_cases h:ba11 d=true
 ·rw [h];by_cases h':ba11 d'=true
  ·exact h'
  ·exfalso;have h':ba11 d'=false:=by simpa using h'
   have:ba11 d=false:=ba11_of fun k hk=>by
    have:=ba11_at h' (k:=k) (by rw [S.len];exact hk);rw [S.co,S.len] at this;exact this
   rw [this] at h;cases h
 ·have h:ba11 d=false:=by simpa using h
  rw [h];refine ba11_of fun k hk=>?_;rw [S.co,S.len];exact ba11_at h (by rw [←S.len];exact hk)
theorem Sd12.ro:ro11 d'=ro11 d:=by
 unfold ro11;rw [S.ba,S.e,S.len]
theorem Sd12.oo:oo12 d'=oo12 d:=by
 unfold oo12;rw [S.e,S.len]
theorem Sd12.rw_ (k:Int):rw10s d' k=rw10s d k:=by
 refine rw10s_same S.sa fun z z' hk h1 h2=>?_;have e1:=S.co k.toNat;have e2:=(S.ki k.toNat).2.1;simp only [co11,me10,h1,h2,Option.getD_some] at e1 e2;exact ⟨e2,e1⟩
theorem Sd12.er:∀n,er12 d' n=er12 d n
 | 0=>rfl
 | n+1=>by rw [er12,er12,Sd12.er n,S.rw_]
theorem Sd12.ar (L:List Ins) (p:Nat):ar12 d' L p=ar12 d L p:=by
 unfold ar12;rw [(S.ki _).1]
theorem Sd12.aw (k:Nat):aw12 d' k=aw12 d k:=by
 unfold aw12 ow12 lc12;rw [S.co,S.rw_,(S.ki _).1,(S.ki _).2.1]
theorem Sd12.al (k:Nat):al12 d' k=al12 d k:=by
 unfold al12 ca12;rw [S.co,S.rw_];congr 1;funext p;unfold mk12 lc12;rw [S.ar,(S.ki _).1,(S.ki _).2.1]
theorem Sd12.of (C:Nat→Ce) (k:Nat):of12 d' C k=of12 d C k:=by
 unfold of12;rw [S.aw,S.al]
theorem Sd12.ce:ce12 d'=ce12 d:=by
 unfold ce12 cf12;rw [S.oo];congr 1;funext C k;rw [S.of]
theorem Sd12.cs:cs12 d'=cs12 d:=by
 unfold cs12;rw [S.ce,S.len]
end
structure Lk14 (d d':Md):Prop where
 g:d'.g=d.g
 p:d'.p=d.p
 i:d'.i=d.i
 len:d'.s.length=d.s.length
 at_:∀(j:Nat) (z z':Mh×List Ins),d.s[j]?=some z→d'.s[j]?=some z'→z'.1.a=z.1.a∧z'.1.l=z.1.l∧z'.1.r=z.1.r∧z'.2=z.2
section
variable {d d' : Md} (L : Lk14 d d')
include L
theorem Lk14.both {k:Nat} (hk:k<d.s.length):∃z z',d.s[k]?=some z∧d'.s[k]?=some z'∧z'.1.a=z.1.a∧z'.1.l=z.1.l∧z'.1.r=z.1.r∧z'.2=z.2:=by
 have h1:d'.s[k]?=some (d'.s[k]'(by rw [L.len];exact hk)):=zg7 _;exact ⟨_,_,zg7 hk,h1,L.at_ k _ _ (zg7 hk) h1⟩
theorem Lk14.sd:Sd12 d d':=by
 have none1:∀k,¬k<d.s.length→d.s[k]?=none∧d'.s[k]?=none:=fun k hk=>⟨List.getElem?_eq_none (by omega),List.getElem?_eq_none (by rw [L.len];omega)⟩;refine ⟨⟨by rw [L.p],by rw [L.g],?_⟩,L.len,fun k=>?_,fun k=>?_⟩
 ·apply List.ext_getElem?;intro k;rw [List.getElem?_map,List.getElem?_map];by_cases hk:k<d.s.length
  ·obtain ⟨z,z',h1,h2,h3,h4,h5,h6⟩:=L.both hk;rw [h1,h2];simp [h3,h5]
  ·rw [(none1 k hk).1,(none1 k hk).2]
 ·by_cases hk:k<d.s.length
  ·obtain ⟨z,z',h1,h2,h3,h4,h5,h6⟩:=L.both hk;rw [co11,co11,h1,h2];exact h6
  ·rw [co11,co11,(none1 k hk).1,(none1 k hk).2]
 ·by_cases hk:k<d.s.length
  ·obtain ⟨z,z',h1,h2,h3,h4,h5,h6⟩:=L.both hk;rw [me10,me10,h1,h2];exact ⟨h3,h4,h5⟩
  ·rw [me10,me10,(none1 k hk).1,(none1 k hk).2];exact ⟨rfl,rfl,rfl⟩
theorem Lk14.qE (h:qE d=0) (hm:∀z∈d'.s,mM z.1=true):qE d'=0:=by
 obtain ⟨h1,h2,h3,h4,h5,h6,h7,h8⟩:=qE_parts h;refine qE_mk (by rw [L.g];exact h1) (by rw [L.len];exact h2) (by rw [L.i];exact h3) (by rw [L.i,L.len];exact h4) (by rw [L.g];exact h5) (by rw [L.p];exact h6) (qmE_mk fun z' hz=>⟨hm z' hz,?_⟩) ?_
 ·obtain ⟨k,hk⟩:=List.getElem?_of_mem hz;have hk2:k<d.s.length:=by rw [←L.len];exact (zg8.1 hk).1
  obtain ⟨z,z2,a1,a2,a3,a4,a5,a6⟩:=L.both hk2;rw [hk] at a2;injection a2 with a2;subst a2;rw [a6];exact (qmE_all h7 z (List.mem_of_getElem? a1)).2
 ·have key:∀{s s':List (Mh×List Ins)},s'.length=s.length→(∀(j:Nat) (z z':Mh×List Ins),s[j]?=some z→s'[j]?=some z'→z'.1.a=z.1.a∧z'.1.l=z.1.l∧z'.1.r=z.1.r∧z'.2=z.2)→(∀z∈s,mM z.1=true)→(∀z∈s',mM z.1=true)→(qmB s').length=(qmB s).length:=by
   intro s;induction s with
   | nil =>
    intro s' hl _ _ _;match s',hl with
    | [],_=>rfl
   | cons z s ih =>
    intro s' hl ha hm1 hm2;match s',hl with
    | z'::s',hl =>
     obtain ⟨b1,b2,b3,b4⟩:=ha 0 z z' rfl rfl;have e:=ih (s':=s') (by simpa using hl) (fun j x y hx hy=>ha (j+1) x y hx hy) (fun x hx=>hm1 x (List.mem_cons_of_mem _ hx)) (fun x hx=>hm2 x (List.mem_cons_of_mem _ hx));unfold qmB at e ⊢;rw [List.flatMap_cons,List.flatMap_cons,List.length_append,List.length_append,List.length_append,List.length_append,e,mL_len (hm1 z List.mem_cons_self),mL_len (hm2 z' List.mem_cons_self),b1,b2,b4]
  have e:=key L.len L.at_ (fun z hz=>(qmE_all h7 z hz).1) hm
  have e1:(qX d').length=(qX d).length:=by
   simp only [qX,L.g,L.p,List.length_append,List.length_cons,e,List.length_nil]
  rw [e1];exact h8
theorem Lk14.mi:mi14 d'=mi14 d:=by
 unfold mi14;rw [L.i,(L.sd.ki _).1]
theorem Lk14.so (k:Nat):so13 d' k=so13 d k:=by rw [so13,L.sd.co,←so13]
theorem Lk14.ve (h:(ve14 d).1=0) (hm:∀z∈d'.s,mM z.1=true) (hf:∀k,k<d.s.length→fi12 (ce12 d k) (me10 d' k)=true):ve14 d'=if sd13 d'=true then (0,-1,cs12 d) else (130,-1,[]):=by
 obtain ⟨h1,h2,h3,h4,h5,h6⟩:=ve14_zero.1 h;have S:=L.sd;have hb:ba11 d=false:=(ro11_ok h4).1;have hlen:=L.len
 have hco:co12 d'=(cs12 d,0):=by
  obtain ⟨a1,a2,a3,a4⟩:=co12_ok h5;have hok:=ok12_of (d:=d') (by rw [S.ro];exact a1) fun k hk=>by rw [S.ce];exact hf k (by rw [←S.len];exact hk)
  rw [S.len] at hok;unfold co12;rw [S.ro,S.er,S.len,S.cs,if_pos a1,if_pos a2,if_pos hok]
 have hch:ch13 d'=if sd13 d'=true then 0 else 130:=by rw [ch13,S.ba,hb,if_neg (by decide)]
 rw [ve14,if_pos (L.qE h1 hm),L.mi,if_neg (by rw [h2];decide),hlen,S.er,if_pos h3,S.ro,if_pos h4,hco];dsimp only;rw [if_pos rfl,hch,S.cs];by_cases hs:sd13 d'=true
 ·rw [if_pos hs,if_pos hs,if_pos rfl]
 ·rw [if_neg hs,if_neg hs,if_neg (by decide)]
theorem Lk14.sd13 (hs:sd13 d=true) {k:Nat} (hk:k<d.s.length) (hr:∀j,j<d.s.length→re13 d' j=(re13 d j&&!(j==k))):sd13 d'=true↔∀i,i<d.s.length→i≠k→re13 d i=true→e11 d i k=false:=by
 rw [sd13_iff] at hs ⊢;rw [L.len];constructor
 ·intro h i hi hik hri;cases he:e11 d i k with
  | false=>rfl
  | true =>
   have h2:=(h i hi (by rw [hr i hi,hri];simpa using hik)).2 k hk (by rw [L.sd.e];exact he);rw [hr k hk] at h2;simp at h2
 ·intro h i hi hri;rw [hr i hi,Bool.and_eq_true] at hri;obtain ⟨a,b⟩:=hs i hi hri.1;have hik:i≠k:=by simpa using hri.2
  refine ⟨by rw [L.so];exact a,fun j hj he=>?_⟩;rw [L.sd.e] at he;rw [hr j hj,b j hj he];have hjk:j≠k:=fun e=>by rw [e,h i hi hik hri.1] at he;cases he
  simpa using hjk
end
theorem ve14_sd {d:Md} (h:(ve14 d).1=0):sd13 d=true:=by
 obtain ⟨h1,h2,h3,h4,h5,h6⟩:=ve14_zero.1 h;have hb:=(ro11_ok h4).1;exact Classical.byContradiction fun hn=>by rw [ch13,if_neg (by rw [hb];decide),if_neg hn] at h6;cases h6
section
variable {w w' : World} {lo hi lo2 hi2 : Nat} {y : Ma} {d : Md} {z : Me}
theorem Owz.set (h:Owz w lo hi z) (b j:Nat) (v:Value):Owz (w.setCell ⟨b,j,none⟩ v) lo hi z:=⟨h.1.set b j v,h.2.1.set b j v,h.2.2.set b j v⟩
theorem Ow.set (h:Ow w lo hi y d) (b j:Nat) (v:Value):Ow (w.setCell ⟨b,j,none⟩ v) lo hi y d:=⟨h.1.set b j v,h.2.1.set b j v,h.2.2.1.set b j v,fun z hz=>(h.2.2.2 z hz).set b j v⟩
theorem Db.apart {B:Nat} (h:Db w B y d) (hp:Sp lo hi w w') (ha:B<lo∨hi≤B):Db w' B y d:=by
 obtain ⟨h0,h1,h2,h3,h4⟩:=h;have k:∀{i:Nat} {v:Value},w.cell? ⟨B,i,none⟩=some v→w'.cell? ⟨B,i,none⟩=some v:=fun hv=>(hp.at_ (cell_lt hv) ha).trans hv;exact ⟨Nat.lt_of_lt_of_le h0 hp.size,k h1,k h2,k h3,k h4⟩
end
abbrev fMz (B:Nat):Fct:=⟨fun w=>Mf w B∧Db w B Ma.zero Md.zero,fun _ _ h hb=>⟨h.1.keep hb,h.2.keep hb⟩⟩
theorem put4_ownN {w:World} {N B e size n:Nat} {v:Value} {xs:List Value} (h:w.ownsRow N e size v n xs) (hB:B<N) (y:Ma) (d:Md):(put4 w B y d).ownsRow N e size v n xs:=
 ownsRow_setCell_below (ownsRow_setCell_below (ownsRow_setCell_below (ownsRow_setCell_below h hB _) hB _) hB _) hB _
theorem Wz.put4 {w:World} {lo B:Nat} {z:Me} (h:Wz w lo z) (hB:B<lo) (y:Ma) (d:Md):Wz (put4 w B y d) lo z:=⟨h.1,put4_ownN h.2.1 hB y d,put4_ownN h.2.2.1 hB y d,put4_ownN h.2.2.2 hB y d⟩
theorem Rs.cellB {w:World} {lo hi e size n:Nat} {A:Option Addr} (h:Rs w lo hi e size A n) {i:Nat} (hi':i<n*size):∃g u k,A=some ⟨g,0,none⟩∧lo≤g∧g<hi∧w.cell? ⟨g,i,none⟩=some u∧w.frozen? ⟨g,i,none⟩=false∧Bk w g e k:=by
 rcases h with h | ⟨g,cur,h1,h2,h3,h4,h5⟩
 ·subst h;omega
 ·exact ⟨g,cur[i]'(by omega),cur.size,h1,h2,h3,by rw [cell_of_row w g i cur e (0,0) h4,Array.getElem?_eq_getElem (by omega)],frozen_of_row w g i cur e h4,cur,h4,rfl⟩
section
variable {w wr w' : World} {lo hi W i : Nat} {y : Ma} {d : Md}
theorem bk_ne {a b ta tb ka kb:Nat} (h:Bk wr a ta ka) (k:Bk wr b tb kb) (hne:ta≠tb):a≠b:=fun e=>by
 subst e;obtain ⟨c1,e1,_⟩:=h;obtain ⟨c2,e2,_⟩:=k;rw [e1] at e2;injection e2 with e2;injection e2 with _ e3 _;exact hne e3
theorem At8.other {p q:Addr} {z:Me} (h:At8 wr p z) (hq:q.block≠p.block∨(q.off<p.off∨p.off+8≤q.off)) (v:Value) (hp:∃b o,p=⟨b,o,none⟩):At8 (wr.setCell q v) p z:=by
 obtain ⟨h1,h2,h3,h4,h5,h6,h7,h8⟩:=h
 have ne:∀j,j<8→q≠(⟨p.block,p.off+j,none⟩:Addr):=fun j hj e=>by
  rw [e] at hq;rcases hq with hq | hq
  ·exact hq rfl
  ·dsimp only at hq;omega
 have e0:p=⟨p.block,p.off+0,none⟩:=by obtain ⟨b,o,rfl⟩:=hp;rfl
 refine ⟨?_,?_,?_,?_,?_,?_,?_,?_⟩
 ·rw [e0,World.cell?_setCell_other _ _ _ _ (ne 0 (by omega)),←e0];exact h1
 all_goals (rw [World.cell?_setCell_other _ _ _ _ (ne _ (by omega))];assumption)
end
theorem qG_bd {w:World} {y:Ma} {d:Md} (hq:Hq w y d) (h:qG d=false):d.g.length≤100∧d.p.length≤100∧d.s.length≤40∧∀z∈y.Z,z.m.a.length≤100∧z.m.l.length≤100∧z.x.k≤300:=by
 rw [qG,Bool.or_eq_false_iff,Bool.or_eq_false_iff,Bool.or_eq_false_iff,decide_eq_false_iff_not,decide_eq_false_iff_not,decide_eq_false_iff_not,List.any_eq_false] at h;obtain ⟨h1,h2,h3,h4⟩:=h;refine ⟨by omega,by omega,by omega,fun z hz=>?_⟩;have h5:=h4 (z.m,z.k) (by rw [←hq.2.2.2.1];exact List.mem_map.2 ⟨z,hz,rfl⟩);have h6:=(hq.2.2.1.1 z hz).2.2;rw [qgE,Bool.not_eq_true,Bool.or_eq_false_iff,decide_eq_false_iff_not] at h5;have h7:=gB_no h5.1;have h8:=h5.2;dsimp only at h7 h8;omega
def set3 (w:World) (g j:Nat) (o a b:Int):World:=((w.setCell ⟨g,j,none⟩ (.int .u8 o)).setCell ⟨g,j+1,none⟩ (.int .i64 a)).setCell ⟨g,j+2,none⟩ (.int .i64 b)
section
variable {w : World} {g j : Nat} {o a b : Int}
theorem set3_sp:Sp g (g+1) w (set3 w g j o a b):=(((Sp.refl g (g+1) w).set (Nat.le_refl _) (by omega) _ _).set (Nat.le_refl _) (by omega) _ _).set (Nat.le_refl _) (by omega) _ _
theorem add0 (g i:Nat):(⟨g,0,none⟩:Addr).add i=⟨g,i,none⟩:=by
 unfold Addr.add;split
 ·rename_i h0;simp [h0]
 ·simp
theorem Rs.nt {lo hi e s n t k:Nat} {A:Option Addr} (hs:Rs w lo hi e s A n) (hg:Bk w g t k) (hne:e≠t):∃l2,Rs w l2 (l2+1) e s A n∧(l2+1≤g∨g+1≤l2):=by
 rcases hs with h0 | ⟨g2,cur,a1,a2,a3,a4,a5⟩
 ·exact ⟨g+1,.inl h0,.inr (Nat.le_refl _)⟩
 ·have hn:=bk_ne (⟨cur,a4,rfl⟩:Bk w g2 e cur.size) hg hne;exact ⟨g2,.inr ⟨g2,cur,a1,Nat.le_refl _,by omega,a4,a5⟩,by omega⟩
end
structure Aw (lo hi M:Nat) (d:Md) (k:Int) (wr:World) (y':Ma) (d':Md):Prop where
 hq:Hq wr y' d'
 ow:Ow wr lo hi y' d'
 db:Db wr M y' d'
 sa:Sa10 d d'
 me:∀z z',0≤k→d.s[k.toNat]?=some z→d'.s[k.toNat]?=some z'→z'.1.l=z.1.l∧z'.2=z.2
 qg:qG d'=false
 hm:hi≤M
section
variable {lo hi M g : Nat} {d d' : Md} {k : Int} {wr w' : World} {y' : Ma}
theorem Aw.keep (h:Aw lo hi M d k wr y' d') (hb:Below wr.heap.size wr w'):Aw lo hi M d k w' y' d':=⟨h.hq.keep hb,h.ow.keep hb,h.db.keep hb,h.sa,h.me,h.qg,h.hm⟩
theorem sp1 (w:World) (g j:Nat) (v:Value):Sp g (g+1) w (w.setCell ⟨g,j,none⟩ v):=(Sp.refl g (g+1) w).set (Nat.le_refl _) (by omega) _ _
theorem ok_nt {w:World} {z:Me} {t kk:Nat} (h:z.ok w) (ho:Owz w lo hi z) (hg:Bk w g t kk) (h1:5≠t) (h2:57≠t) (j:Nat) (v:Value):z.ok (w.setCell ⟨g,j,none⟩ v):=by
 obtain ⟨⟨k1,k2,k3⟩,k4,k5⟩:=h;obtain ⟨o1,o2,o3⟩:=ho;obtain ⟨m1,s1,e1⟩:=o1.nt hg h1;obtain ⟨m2,s2,e2⟩:=o2.nt hg h1;obtain ⟨m3,s3,e3⟩:=o3.nt hg h2;exact ⟨⟨k1.apart s1 (sp1 w g j v) e1,k2.apart s2 (sp1 w g j v) e2,k3⟩,k4.apart (by rw [k5];exact s3) (sp1 w g j v) e3,k5⟩
theorem Aw.meth {j f kk:Nat} {v:Value} {z z':Me} (h:Aw lo hi M d k wr y' d') (hA:y'.A=some ⟨g,0,none⟩) (hg:Bk wr g 50 kk) (h2:g<hi) (hf:f<8) (hz:y'.Z[j]?=some z)
  (hat:At8 (wr.setCell ⟨g,j*8+f,none⟩ v) ⟨g,j*8,none⟩ z') (hok:z'.ok (wr.setCell ⟨g,j*8+f,none⟩ v)) (hoz:Owz wr lo hi z') (e1:z'.m.a=z.m.a∧z'.m.r=z.m.r) (e2:k=(j:Int)→z'.m.l=z.m.l∧z'.k=z.k) (e3:qgE (ze z')=false) :
  Aw lo hi M d k (wr.setCell ⟨g,j*8+f,none⟩ v) { y' with Z:=y'.Z.set j z' } { d' with s:=(y'.Z.set j z').map ze }:=by
 have hp:=sp1 wr g (j*8+f) v
 obtain ⟨l1,r1,n1⟩:=h.ow.1.nt hg (by decide)
 obtain ⟨l2,r2,n2⟩:=h.ow.2.1.nt hg (by decide)
 have ho:=h.ow.set g (j*8+f) v
 have hb:=h.db.apart hp (.inr (by have:=h.hm;omega))
 have hl:((y'.Z.set j z').map ze).length=d'.s.length:=by rw [List.length_map,List.length_set,h.hq.zlen]
 have hs:d'.s=y'.Z.map ze:=h.hq.2.2.2.1.symm
 have hjz:=(zg8.1 hz).1
 refine ⟨⟨h.hq.1.apart r1 hp n1,h.hq.2.1.apart r2 hp n2,⟨fun u hu=>?_,?_,h.hq.2.2.1.2.2.1,?_⟩,rfl,h.hq.2.2.2.2⟩,⟨ho.1,ho.2.1,by rw [hl];exact ho.2.2.1,fun u hu=>?_⟩,⟨hb.1,hb.2.1,hb.2.2.1,by rw [hl];exact hb.2.2.2.1,hb.2.2.2.2⟩,⟨h.sa.p,h.sa.g,?_⟩,fun z1 z2 hk e4 e5=>?_,?_,h.hm⟩
 ·rcases List.mem_or_eq_of_mem_set hu with hu | rfl
  ·exact ok_nt (h.hq.2.2.1.1 u hu) (h.ow.2.2.2 u hu) hg (by decide) (by decide) _ _
  ·exact hok
 ·show (y'.Z.set j z').length≤_
  rw [List.length_set]
  exact h.hq.2.2.1.2.1
 ·rcases h.hq.2.2.1.2.2.2 with ⟨hn,-⟩ | ⟨ad,e0,hc⟩
  ·rw [hA] at hn;cases hn
  ·refine .inr ⟨ad,e0,fun i u hu=>?_⟩
   rw [hA] at e0
   injection e0 with e0
   subst e0
   rw [add0]
   dsimp only at hu
   rw [List.getElem?_set] at hu
   by_cases hij:j=i
   ·subst hij
    rw [if_pos rfl,if_pos hjz] at hu
    injection hu with hu
    subst hu
    exact hat
   ·rw [if_neg hij] at hu
    have h8:=hc i u hu
    rw [add0] at h8
    exact h8.other (.inr (by dsimp only;omega)) _ ⟨_,_,rfl⟩
 ·rcases List.mem_or_eq_of_mem_set hu with hu | rfl
  ·exact ho.2.2.2 u hu
  ·exact hoz.set _ _ _
 ·rw [←h.sa.s]
  dsimp only
  rw [hs,List.map_map,List.map_map,List.map_set]
  apply List.ext_getElem?
  intro i
  rw [List.getElem?_set]
  split
  ·rename_i e
   subst e
   rw [if_pos (by rw [List.length_map];exact hjz),List.getElem?_map,hz]
   simp [e1]
  ·rfl
 ·dsimp only at e5
  rw [List.getElem?_map,List.getElem?_set] at e5
  by_cases hjk:j=k.toNat
  ·rw [if_pos hjk,if_pos hjz] at e5
   injection e5 with e5
   subst e5
   have e6:=h.me z1 (ze z) hk e4 (by rw [hs,←hjk,List.getElem?_map,hz];rfl)
   obtain ⟨q1,q2⟩:=e2 (by omega)
   exact ⟨q1.trans e6.1,q2.trans e6.2⟩
  ·rw [if_neg hjk] at e5
   exact h.me z1 z2 hk e4 (by rw [hs,List.getElem?_map];exact e5)
 ·have hq:=h.qg
  simp only [qG,Bool.or_eq_false_iff] at hq ⊢
  refine ⟨hq.1,hq.2.1,by rw [hl];exact hq.2.2.1,?_⟩
  rw [List.any_eq_false]
  intro u hu
  obtain ⟨q,hq1,rfl⟩:=List.mem_map.1 hu
  rcases List.mem_or_eq_of_mem_set hq1 with hq1 | rfl
  ·exact (List.any_eq_false.1 hq.2.2.2) _ (by rw [hs];exact List.mem_map.2 ⟨q,hq1,rfl⟩)
  ·rw [e3];decide
end
section
variable {w : World} {g p : Nat} {z : Me}
theorem c8n {w:World} {g p q:Nat} {v u:Value} (h:q≠p) (hu:w.cell? ⟨g,q,none⟩=some u):(w.setCell ⟨g,p,none⟩ v).cell? ⟨g,q,none⟩=some u:=by
 rw [World.cell?_setCell_other _ _ _ _ (fun e=>h (by injection e with _ e2;exact e2.symm))];exact hu
theorem at8_f (h:At8 w ⟨g,p,none⟩ z) (v:Int):At8 (w.setCell ⟨g,p+4,none⟩ (.int .i64 v)) ⟨g,p,none⟩ { z with m:={ z.m with f:=v }}:=by
 obtain ⟨h1,h2,h3,h4,h5,h6,h7,h8⟩:=h;exact ⟨c8n (by omega) h1,c8n (by dsimp only;omega) h2,c8n (by dsimp only;omega) h3,c8n (by dsimp only;omega) h4,World.cell?_setCell_same _ _ _ h5,c8n (by dsimp only;omega) h6,c8n (by dsimp only;omega) h7,c8n (by dsimp only;omega) h8⟩
theorem at8_s (h:At8 w ⟨g,p,none⟩ z) (v:Int):At8 (w.setCell ⟨g,p+5,none⟩ (.int .i64 v)) ⟨g,p,none⟩ { z with m:={ z.m with s:=v }}:=by
 obtain ⟨h1,h2,h3,h4,h5,h6,h7,h8⟩:=h;exact ⟨c8n (by omega) h1,c8n (by dsimp only;omega) h2,c8n (by dsimp only;omega) h3,c8n (by dsimp only;omega) h4,c8n (by dsimp only;omega) h5,World.cell?_setCell_same _ _ _ h6,c8n (by dsimp only;omega) h7,c8n (by dsimp only;omega) h8⟩
end
end Go.Proofs.YtnjgkkoiamiaaaaGreatDoor
