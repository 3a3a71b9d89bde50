import Derived.Test.YtnjgkkoiamiaaaaGreatDoorVerifyDeclaresb1
import Derived.Test.YtnjgkkoiamiaaaaGreatDoorVca26
set_option maxRecDepth 100000
set_option maxHeartbeats 16000000
set_option linter.unusedSimpArgs false
set_option linter.unusedVariables false
namespace Go.Proofs.YtnjgkkoiamiaaaaGreatDoor
open Go.RowKit
def Dc (w:World) (T:Nat) (A1 A2 A3:Option Addr) (c1 c2 c3:Nat) (d:Md) (n:Nat):Prop:=T<w.heap.size∧w.cell? ⟨T,0,none⟩=some (.slice A1 d.g.length c1)∧w.cell? ⟨T,1,none⟩=some (.slice A2 d.p.length c2)∧w.cell? ⟨T,2,none⟩=some (.slice A3 n c3)∧w.cell? ⟨T,3,none⟩=some (.int .i64 d.i)
def T8 (w:World) (T:Nat):Prop:=Mf w T∧Db w T Ma.zero Md.zero∧Bk w T 25 4
theorem T8.new (w:World):T8 (w.alloc (.cells #[.slice none 0 0,.slice none 0 0,.slice none 0 0,.int .i64 0] 25)) w.heap.size:=⟨Mf.new w _ _,Db.new w Ma.zero Md.zero,Bk.new w _ _⟩
theorem T8.keep {w w':World} {T:Nat} (h:T8 w T) (hb:Below w.heap.size w w'):T8 w' T:=⟨h.1.keep hb,h.2.1.keep hb,h.2.2.keep hb⟩
def Tz (wr w':World) (Tb:Nat) (x:Mc) (m:Mh):Prop:=Below Tb wr w'∧Mf w' Tb∧Mb w' Tb x m
section
variable {wr w1 w2 : World} {Tb : Nat} {x : Mc} {m : Mh}
theorem Tz.new (w:World) (x:Mc) (m:Mh):Tz w (w.alloc (hcel x m)) w.heap.size x m:=⟨new1,Mf.new w _ _,Mb.new w x m⟩
theorem Tz.call (h:Tz wr w1 Tb x m) (hb:Below w1.heap.size w1 w2):Tz wr w2 Tb x m:=⟨h.1.trans (hb.mono (Nat.le_of_lt h.2.1.1)),h.2.1.keep hb,h.2.2.keep hb⟩
theorem Tz.set (h:Tz wr w1 Tb x m) {x2:Mc} (i:Nat) (v:Value) (hm:Mb (w1.setCell ⟨Tb,i,none⟩ v) Tb x2 m):Tz wr (w1.setCell ⟨Tb,i,none⟩ v) Tb x2 m:=⟨h.1.setCell (Nat.le_refl _) _,h.2.1.set _ _,hm⟩
end
theorem ce8_new (w:World) (z:Me) (t:Nat):∀j u,(ce8 z)[j]?=some u→(w.alloc (.cells (ce8 z).toArray t)).cell? ((⟨w.heap.size,0,none⟩:Addr).add j)=some u:=by
 intro j u h
 have e:(⟨w.heap.size,0,none⟩:Addr).add j=⟨w.heap.size,j,none⟩:=by
  unfold Addr.add;split
  ·rename_i h0;simp [h0]
  ·simp
 rw [e];simp [go_sem,h]
theorem Bk.grownEq {w w':World} {B t n base2 e2 size2 n2:Nat} {v2:Value} {xs2:List Value} (h:Bk w B t n) (h2:w.ownsRow base2 e2 size2 v2 n2 xs2) (hne:t≠e2) (hg:w.grownBy w' v2.ownBlock):w'.heap[B]?=w.heap[B]?:=by
 have hlt:=h.lt;obtain ⟨cur,hh,hn⟩:=h;refine hg.block B hlt fun e'=>?_;rcases h2.2 with ⟨rfl,_⟩ | ⟨g2,cap2,cur2,rfl,_,hh2,_⟩
 ·simp [Value.ownBlock] at e'
 ·simp [Value.ownBlock] at e';subst e';rw [hh] at hh2;injection hh2 with hh2;injection hh2 with _ h3 _;exact hne h3
theorem Wz.grown {w w':World} {lo base n:Nat} {z:Me} {v:Value} {xs:List Value} (h:Wz w lo z) (h2:w.ownsRow base 50 8 v n xs) (hg:w.grownBy w' v.ownBlock):Wz w' lo z:=⟨h.1,own_grown h.2.1 h2 (by decide) hg,own_grown h.2.2.1 h2 (by decide) hg,own_grown h.2.2.2 h2 (by decide) hg⟩
theorem Wz.based {w:World} {lo lo2:Nat} {z:Me} (h:Wz w lo z) (hl:lo2≤lo):Wz w lo2 z:=⟨h.1,own_base h.2.1 hl,own_base h.2.2.1 hl,own_base h.2.2.2 hl⟩
def Rc8 (w:World) (B1 T:Nat) (y:Ma) (d:Md) (A1 A2:Option Addr) (c1 c2:Nat) (Zs:List Me) (A3:Option Addr) (c3 n:Nat) (wr:World):Prop:=
 Below w.heap.size w wr∧Db wr B1 y d∧(Mf wr (B1+1)∧Db wr (B1+1) Ma.zero Md.zero)∧Mf wr T∧Dc wr T A1 A2 A3 c1 c2 c3 d n∧Bk wr T 25 4 ∧
 wr.ownsRow (B1+2) 139 3 (.slice A1 d.g.length c1) d.g.length (cev d.g)∧wr.ownsRow (B1+2) 139 3 (.slice A2 d.p.length c2) d.p.length (cev d.p) ∧
 wr.ownsRow (B1+2) 50 8 (.slice A3 n c3) n (cem Zs)∧((∀z∈Zs,Wz wr (B1+2) z)∧Zs.map ze=d.s.take n∧w.heap.size=B1)∧B1+2≤T
section
variable {w wr w' : World} {B1 T : Nat} {y : Ma} {d : Md} {A1 A2 A3 : Option Addr} {c1 c2 c3 n : Nat} {Zs : List Me}
theorem Dc.keep (h:Dc wr T A1 A2 A3 c1 c2 c3 d n) (hb:Below wr.heap.size wr w'):Dc w' T A1 A2 A3 c1 c2 c3 d n:=by
 obtain ⟨h0,h1,h2,h3,h4⟩:=h;obtain ⟨hc,hf⟩:=bcell hb;exact ⟨Nat.lt_of_lt_of_le h0 hb.size,(hc _ _ h0).trans h1,(hc _ _ h0).trans h2,(hc _ _ h0).trans h3,(hc _ _ h0).trans h4⟩
theorem Rc8.call (h:Rc8 w B1 T y d A1 A2 c1 c2 Zs A3 c3 n wr) (hb:Below wr.heap.size wr w'):Rc8 w B1 T y d A1 A2 c1 c2 Zs A3 c3 n w':=by
 obtain ⟨h1,h2,h3,h4,h5,h6,h7,h8,h9,⟨ha,hb2,hc⟩,hd⟩:=h;exact ⟨h1.trans (hb.mono h1.size),h2.keep hb,⟨h3.1.keep hb,h3.2.keep hb⟩,h4.keep hb,h5.keep hb,h6.keep hb,own_below h7 hb (Nat.le_refl _),own_below h8 hb (Nat.le_refl _),own_below h9 hb (Nat.le_refl _),⟨fun z hz=>(ha z hz).keep hb,hb2,hc⟩,hd⟩
def Rg8 (w:World) (B1 T:Nat) (y:Ma) (d:Md) (A1 A2:Option Addr) (c1 c2:Nat) (Zs:List Me) (A3:Option Addr) (c3 n:Nat) (z:Me) (A7:Option Addr) (c7:Nat) (wr:World):Prop:=
 Below w.heap.size w wr∧Db wr B1 y d∧(Mf wr (B1+1)∧Db wr (B1+1) Ma.zero Md.zero)∧Mf wr T∧Dc wr T A1 A2 A3 c1 c2 c3 d n∧Bk wr T 25 4 ∧
 wr.ownsRow (B1+2) 139 3 (.slice A1 d.g.length c1) d.g.length (cev d.g)∧wr.ownsRow (B1+2) 139 3 (.slice A2 d.p.length c2) d.p.length (cev d.p) ∧
 wr.ownsRow (B1+2) 50 8 (.slice A7 (n+1) c7) (n+1) (cem (Zs++[z]))∧((∀t∈Zs++[z],Wz wr (B1+2) t)∧(Zs++[z]).map ze=d.s.take (n+1)∧w.heap.size=B1)∧B1+2≤T
theorem Db.belowB {B k:Nat} (h:Db wr B y d) (hb:Below k wr w') (hk:B<k):Db w' B y d:=by
 obtain ⟨h0,h1,h2,h3,h4⟩:=h;have hc:∀i,w'.cell? ⟨B,i,none⟩=wr.cell? ⟨B,i,none⟩:=fun i=>hb.cell (p:=⟨B,i,none⟩) (show B<k from hk);exact ⟨Nat.lt_of_lt_of_le h0 hb.size,(hc _).trans h1,(hc _).trans h2,(hc _).trans h3,(hc _).trans h4⟩
theorem Mf.belowB {B k:Nat} (h:Mf wr B) (hb:Below k wr w') (hk:B<k):Mf w' B:=⟨Nat.lt_of_lt_of_le h.1 hb.size,fun i=>(hb.frozen (p:=⟨B,i,none⟩) (show B<k from hk)).trans (h.2 i)⟩
theorem Rc8.grow {z:Me} {A7:Option Addr} {c7:Nat} (h:Rc8 w B1 T y d A1 A2 c1 c2 Zs A3 c3 n wr) (hg:wr.grownBy w' (Value.slice A3 n c3).ownBlock) (hb:Below (B1+2) wr w') (hw:Wz wr (B1+2) z)
  (ho:w'.ownsRow (B1+2) 50 8 (.slice A7 (n+1) c7) (n+1) (cem (Zs++[z]))) (hz:(d.s)[n]?=some (ze z)):Rg8 w B1 T y d A1 A2 c1 c2 Zs A3 c3 n z A7 c7 w':=by
 obtain ⟨h1,h2,h3,h4,h5,h6,h7,h8,h9,⟨ha,hb2,hc⟩,hd⟩:=h
 have he:=h6.grownEq h9 (by decide) hg
 have hs:=hb.size
 have kc:∀i,w'.cell? ⟨T,i,none⟩=wr.cell? ⟨T,i,none⟩:=fun i=>World.cell?_of_block (w:=wr) he
 have kf:∀i,w'.frozen? ⟨T,i,none⟩=wr.frozen? ⟨T,i,none⟩:=fun i=>World.frozen?_of_block (w:=wr) he
 refine ⟨h1.trans (hb.mono (by omega)),h2.belowB hb (by omega),⟨h3.1.belowB hb (by omega),h3.2.belowB hb (by omega)⟩,⟨Nat.lt_of_lt_of_le h4.1 hs,fun i=>(kf i).trans (h4.2 i)⟩,
  ⟨Nat.lt_of_lt_of_le h5.1 hs,(kc 0).trans h5.2.1,(kc 1).trans h5.2.2.1,(kc 2).trans h5.2.2.2.1,(kc 3).trans h5.2.2.2.2⟩,h6.grown h9 (by decide) hg,own_grown h7 h9 (by decide) hg,own_grown h8 h9 (by decide) hg,ho,⟨fun t ht=>?_,?_,hc⟩,hd⟩
 ·rcases List.mem_append.1 ht with ht | ht
  ·exact (ha t ht).grown h9 hg
  ·rw [List.mem_singleton.1 ht];exact hw.grown h9 hg
 ·rw [List.map_append,hb2,List.take_add_one,hz]
  rfl
theorem Rg8.put {z:Me} {A7:Option Addr} {c7:Nat} (h:Rg8 w B1 T y d A1 A2 c1 c2 Zs A3 c3 n z A7 c7 wr):Rc8 w B1 T y d A1 A2 c1 c2 (Zs++[z]) A7 c7 (n+1) (wr.setCell ⟨T,2,none⟩ (.slice A7 (n+1) c7)):=by
 obtain ⟨h1,h2,h3,h4,h5,h6,h7,h8,h9,⟨ha,hb2,hc⟩,hd⟩:=h;refine ⟨h1.setCell (show w.heap.size≤T by omega) _,h2.other (show T≠B1 by omega) _,⟨h3.1.set _ _,h3.2.other (show T≠B1+1 by omega) _⟩,h4.set _ _,?_,h6.set _ _ _,own_tag h7 h6 (by decide) _ _,own_tag h8 h6 (by decide) _ _,own_tag h9 h6 (by decide) _ _,⟨fun t ht=>?_,hb2,hc⟩,hd⟩
 ·obtain ⟨i0,i1,i2,i3,i4⟩:=h5;refine ⟨by simpa using i0,?_,?_,?_,?_⟩<;>simp [go_sem,i1,i2,i3,i4]
 ·obtain ⟨j1,j2,j3,j4⟩:=ha t ht;exact ⟨j1,own_tag j2 h6 (by decide) _ _,own_tag j3 h6 (by decide) _ _,own_tag j4 h6 (by decide) _ _⟩
theorem Rc8.fin (h:Rc8 w B1 T y d A1 A2 c1 c2 Zs A3 c3 d.s.length wr) (hq:Hq w y d) :
  Db (put4 wr (B1+1) ⟨A1,c1,A2,c2,A3,c3,Zs⟩ d) (B1+1) ⟨A1,c1,A2,c2,A3,c3,Zs⟩ d∧Hq (put4 wr (B1+1) ⟨A1,c1,A2,c2,A3,c3,Zs⟩ d) ⟨A1,c1,A2,c2,A3,c3,Zs⟩ d ∧
   Ow (put4 wr (B1+1) ⟨A1,c1,A2,c2,A3,c3,Zs⟩ d) w.heap.size (put4 wr (B1+1) ⟨A1,c1,A2,c2,A3,c3,Zs⟩ d).heap.size ⟨A1,c1,A2,c2,A3,c3,Zs⟩ d∧Below w.heap.size w (put4 wr (B1+1) ⟨A1,c1,A2,c2,A3,c3,Zs⟩ d):=by
 obtain ⟨h1,h2,h3,h4,h5,h6,h7,h8,h9,⟨ha,hb2,hc⟩,hd⟩:=h
 rw [List.take_of_length_le (Nat.le_refl _)] at hb2
 have k4:=put4_ownN h7 (show B1+1<B1+2 by omega) ⟨A1,c1,A2,c2,A3,c3,Zs⟩ d
 have k5:=put4_ownN h8 (show B1+1<B1+2 by omega) ⟨A1,c1,A2,c2,A3,c3,Zs⟩ d
 have k6:=put4_ownN h9 (show B1+1<B1+2 by omega) ⟨A1,c1,A2,c2,A3,c3,Zs⟩ d
 have k7:∀z∈Zs,Wz (put4 wr (B1+1) ⟨A1,c1,A2,c2,A3,c3,Zs⟩ d) (B1+2) z:=fun z hz=>(ha z hz).put4 (by omega) _ d
 exact ⟨put4_db h3.2 _ d,⟨(Rv.of_own k4 hq.1.1).1,(Rv.of_own k5 hq.2.1.1).1,(Rm.of_own k6 (fun z hz=>(k7 z hz).ok)).1,hb2,hq.2.2.2.2⟩,⟨Rs.of_own k4 (by omega) (Nat.le_refl _),Rs.of_own k5 (by omega) (Nat.le_refl _),Rs.of_own k6 (by omega) (Nat.le_refl _),fun z hz=>(k7 z hz).ow (by omega) (Nat.le_refl _)⟩,put4_below h1 (by omega) _ d⟩
end
theorem rc8_start {w wE:World} {B1 T:Nat} {y:Ma} {d:Md} {A1 A2:Option Addr} {c1 c2:Nat} (hS:Sx w wE [fF B1,fD B1 y d,fMz (B1+1),fQm y d]) (hB:w.heap.size=B1) (hT:T8 wE T) (hTB:B1+2≤T)
  (o1:wE.ownsRow (B1+2) 139 3 (.slice A1 d.g.length c1) d.g.length (cev d.g)) (o2:wE.ownsRow (B1+2) 139 3 (.slice A2 d.p.length c2) d.p.length (cev d.p)) :
  Hid (Rc8 w B1 T y d A1 A2 c1 c2 [] none 0 0 ((((wE.setCell ⟨T,0,none⟩ (.slice A1 d.g.length c1)).setCell ⟨T,1,none⟩ (.slice A2 d.p.length c2)).setCell ⟨T,2,none⟩ (.slice none 0 0)).setCell ⟨T,3,none⟩ (.int .i64 d.i))):=by
 obtain ⟨s1,s2,s3,s4,-⟩:=hS
 obtain ⟨t1,t2,t3⟩:=hT
 have hne:∀i,(⟨T,i,none⟩:Addr).block≠B1:=fun i=>by show T≠B1;omega
 have hne2:∀i,(⟨T,i,none⟩:Addr).block≠B1+1:=fun i=>by show T≠B1+1;omega
 have hle:∀i,w.heap.size≤(⟨T,i,none⟩:Addr).block:=fun i=>by show w.heap.size≤T;omega
 have b0:=t3.set T 0 (.slice A1 d.g.length c1)
 have b1:=b0.set T 1 (.slice A2 d.p.length c2)
 have b2:=b1.set T 2 (.slice none 0 0)
 refine ⟨(((s1.setCell (hle 0) _).setCell (hle 1) _).setCell (hle 2) _).setCell (hle 3) _,(((s3.other (hne 0) _).other (hne 1) _).other (hne 2) _).other (hne 3) _,⟨(((s4.1.set _ _).set _ _).set _ _).set _ _,(((s4.2.other (hne2 0) _).other (hne2 1) _).other (hne2 2) _).other (hne2 3) _⟩,
  (((t1.set _ _).set _ _).set _ _).set _ _,?_,b2.set _ _ _,own_tag (own_tag (own_tag (own_tag o1 t3 (by decide) _ _) b0 (by decide) _ _) b1 (by decide) _ _) b2 (by decide) _ _,own_tag (own_tag (own_tag (own_tag o2 t3 (by decide) _ _) b0 (by decide) _ _) b1 (by decide) _ _) b2 (by decide) _ _,World.ownsRow_nil _ _ _ _,⟨fun z hz=>(by cases hz),by simp,hB⟩,hTB⟩
 obtain ⟨i0,i1,i2,i3,i4⟩:=t2
 refine ⟨by simpa using i0,?_,?_,?_,?_⟩<;>simp [go_sem,i1,i2,i3,i4]
theorem rcopy_end (tm:Array Value) (w':World) (T:Nat) (y:Ma) (d:Md) (hT:tm[2]?.getD undef=.pointer (some ⟨T,0,none⟩)) (hM:Db w' T y d) (R:Ending→World→Prop)
  (hR:R (.returned (dv y d)) w'):bodyPost Tryz.prog Tryz.f10 R .ret { tmps:=tm,defers:=[]} w':=by
 obtain ⟨h0,c1,c2,c3,c4⟩:=hM
 exact bodyPost_ret (v:=dv y d) (by simp [results,Tryz.results10,go_sem,hT,c1,c2,c3,c4]) rfl hR
theorem r8copy_v (y:Ma) (d:Md) (w:World) (hq:Hq w y d) (bb1:d.g.length≤1000) (bb2:d.p.length≤1000) (bb3:d.s.length≤1000) (bb4:∀z∈y.Z,z.m.a.length≤1000∧z.m.l.length≤1000∧z.x.k≤1000) :
  Calls Tryz.prog 10 #[dv y d] w fun r w'=>∃t,r=.returned (dv t d)∧Hq w' t d∧Ow w' w.heap.size w'.heap.size t d∧Below w.heap.size w w':=by
 obtain ⟨i0,hi,hz0,hz1,hz2⟩:=info_parts Tryz.info5
 obtain ⟨G,gc,P,pc,A,c,Z⟩:=y
 have HZL:=zhy hq.zlen
 have HZA:=zhy (fun (i:Nat) (h1:i<Z.length) (h2:i<d.s.length)=>hq.zat h1 h2)
 dsimp only at HZL HZA bb4
 have HQ0:=zhy hq
 have HB4:=zhy bb4
 have S0:Hid (Sx w ((w.alloc (dcel ⟨G,gc,P,pc,A,c,Z⟩ d)).alloc (dcel Ma.zero Md.zero)) [fF w.heap.size,fD w.heap.size ⟨G,gc,P,pc,A,c,Z⟩ d,fMz (w.heap.size+1),fQm ⟨G,gc,P,pc,A,c,Z⟩ d]):=by
  have h1:=(((Sx.start w).add (fQm ⟨G,gc,P,pc,A,c,Z⟩ d) hq).mkD ⟨G,gc,P,pc,A,c,Z⟩ d).mkD Ma.zero Md.zero;have h2:=Db.new (w.alloc (dcel ⟨G,gc,P,pc,A,c,Z⟩ d)) Ma.zero Md.zero;have h3:=Mf.new (w.alloc (dcel ⟨G,gc,P,pc,A,c,Z⟩ d)) #[.slice none 0 0,.slice none 0 0,.slice none 0 0,.int .i64 0] 25;rw [size1] at h1 h2 h3;exact ⟨h1.1,(Mf.new w _ _).keep new1,h1.2.2.1,⟨h3,h2⟩,h1.2.2.2⟩
 clear hq bb4
 go_enter Tryz.func10,Tryz.ntmps10
 go_upto_region 1 with (fail)
 have S0':Hid (Sx w ((w.alloc (.cells #[.slice G d.g.length gc,.slice P d.p.length pc,.slice A d.s.length c,.int .i64 d.i] 25)).alloc (.cells #[.slice none 0 0,.slice none 0 0,.slice none 0 0,.int .i64 0] 25)) [fF w.heap.size,fD w.heap.size ⟨G,gc,P,pc,A,c,Z⟩ d,fMz (w.heap.size+1),fQm ⟨G,gc,P,pc,A,c,Z⟩ d]):=S0
 clear S0
 generalize (w.alloc (.cells #[.slice G d.g.length gc,.slice P d.p.length pc,.slice A d.s.length c,.int .i64 d.i] 25)).alloc (.cells #[.slice none 0 0,.slice none 0 0,.slice none 0 0,.int .i64 0] 25)=w0 at *
 have S0:=S0'
 clear S0'
 obtain ⟨B1,hB1⟩:∃B,w.heap.size=B:=⟨_,rfl⟩
 have HBQ:=zhy hB1
 rw [hB1] at S0 ⊢
 clear hB1
 rename_i Qx Kx hKx
 have TAIL:∀(T:Nat) (A1:Option Addr) (c1:Nat) (A2:Option Addr) (c2:Nat) (wE:World) (HC:Hid (Rc8 w B1 T ⟨G,gc,P,pc,A,c,Z⟩ d A1 A2 c1 c2 [] none 0 0 wE)) (u4 u5 u6 u7 u8 u9 u10 u11 u12 u13 u14:Value),
   Exit.then Kx Qx .normal { tmps:=#[dv ⟨G,gc,P,pc,A,c,Z⟩ d,.pointer (some ⟨B1,0,none⟩),.pointer (some ⟨B1+1,0,none⟩),.pointer (some ⟨T,0,none⟩),u4,u5,u6,u7,u8,u9,u10,u11,u12,u13,u14,undef,undef,undef,undef,undef,undef,undef,undef,undef,undef,undef,undef,undef,undef,undef,undef,undef,undef,undef,undef,undef,undef,undef,undef,undef,undef,undef,undef,undef,undef,undef,undef,undef],defers:=[]} wE:=by
  intro T A1 c1 A2 c2 wE HC u4 u5 u6 u7 u8 u9 u10 u11 u12 u13 u14
  clear S0
  go_wp2_with fail
  go_loopw [4] (fun i wr=>∃(j:Nat) (Zs:List Me) (A3:Option Addr) (c3:Nat),j≤d.s.length∧i=.int .i64 j∧Hid (Rc8 w B1 T ⟨G,gc,P,pc,A,c,Z⟩ d A1 A2 c1 c2 Zs A3 c3 j wr)) (fun i _=>d.s.length-(intOf i).toNat)
  case atStart=>exact ⟨0,[],none,0,by omega,rfl,HC⟩
  case round =>
   obtain ⟨j,Zs,A3,c3,hj,rfl,HR⟩:=hrel
   clear HC
   obtain ⟨y0,y1,y2,y3,y4⟩:=HR.out.2.1
   dsimp only at y1 y2 y3
   by_cases h1:j<d.s.length
   ·have h1z:j<Z.length:=by rw [HZL.out];exact h1
    have hq:=HQ0.out.keep HR.out.1
    obtain ⟨ad,hA,h8,hok⟩:=hq.2.2.1.at_ h1z
    dsimp only at hA h8 hok
    subst hA
    have HZE:Hid (ze Z[j]=d.s[j]):=zhy (HZA.out j h1z h1).symm
    have HZB:=zhy (HB4.out Z[j] (List.getElem_mem h1z))
    clear hq
    generalize Z[j]=z at *
    obtain ⟨x,m,k⟩:=z
    obtain ⟨q1,q2,q3⟩:=HZB.out
    dsimp only at q1 q2 q3
    have HOK:=zhy hok
    clear hok HZB
    obtain ⟨x0,x1,x2,x3,x4,x5,x6,x7⟩:=h8
    dsimp only at x0 x1 x2 x3 x4 x5 x6 x7
    have Q1:=zhy (Tz.new wr x m)
    go_upto_region 6 with (fail)
    obtain ⟨wb,hwb⟩:∃wb,wr.alloc (hcel x m)=wb:=⟨_,rfl⟩
    rw [hwb] at Q1
    rw [hcel] at hwb
    rw [hwb]
    clear hwb x0 x1 x2 x3 x4 x5 x6 x7 y0 y1 y2 y3 y4
    obtain ⟨Tb,hTb⟩:∃Tb,wr.heap.size=Tb:=⟨_,rfl⟩
    have HTb:=zhy hTb
    rw [hTb] at Q1 ⊢
    clear hTb
    obtain ⟨z0,z1,z2,z3,z4,z5,z6,z7,z8⟩:=Q1.out.2.2
    go_wp2_with (at_builtin;refine wpList_append_rd _ rfl (.tmp 27) (.tmp 29) 40 rfl wb.heap.size 5 i0 Tryz.underlying40 hi hz0 hz1 hz2 _ 0 [] rfl (World.ownsRow_lit wb #[] 0 (Nat.le_refl _) (Nat.zero_le _) rfl) x.A m.a.length x.c m.a rfl (Rd.alloc (HOK.out.1.1.keep (HTb.out▸Q1.out.1)) _) rfl (by omega) (by simp) ?_)
    intro A4 c4 w1 ho1 hg1 hb1 _
    have Q2:=zhy (Q1.out.call (new1.trans hb1))
    have HO4:Hid (w1.ownsRow (Tb+1) 5 1 (.slice A4 m.a.length c4) m.a.length (cel m.a)):=own_base (by simpa using ho1) (Nat.succ_le_of_lt Q1.out.2.1.1)
    have Q3:=zhy (Q2.out.set 0 (.slice A4 m.a.length c4) (Q2.out.2.2.setA A4 c4 m.a _ rfl))
    have HO4b:Hid ((w1.setCell ⟨Tb,0,none⟩ (.slice A4 m.a.length c4)).ownsRow (Tb+1) 5 1 (.slice A4 m.a.length c4) m.a.length (cel m.a)):=ownsRow_setCell_below HO4.out (by show Tb<_;omega) _
    clear ho1 hg1 hb1 Q1 HO4 z0 z1 z2 z3 z4 z5 z6 z7 z8
    obtain ⟨f0,f1,f2,f3,f4,f5,f6,f7⟩:=Q2.out.2.1.keepM
    obtain ⟨z0,z1,z2,z3,z4,z5,z6,z7,z8⟩:=Q2.out.2.2
    go_upto_region 7 with (fail)
    clear f0 f1 f2 f3 f4 f5 f6 f7 z0 z1 z2 z3 z4 z5 z6 z7 z8 Q2
    generalize w1.setCell ⟨Tb,0,none⟩ (.slice A4 m.a.length c4)=w2 at Q3 HO4b ⊢
    obtain ⟨z0,z1,z2,z3,z4,z5,z6,z7,z8⟩:=Q3.out.2.2
    dsimp only at z1 z2 z8
    go_wp2_with (at_builtin;refine wpList_append_rd _ rfl (.tmp 32) (.tmp 34) 40 rfl w2.heap.size 5 i0 Tryz.underlying40 hi hz0 hz1 hz2 _ 0 [] rfl (World.ownsRow_lit w2 #[] 0 (Nat.le_refl _) (Nat.zero_le _) rfl) x.B m.l.length x.d m.l rfl (Rd.alloc (HOK.out.1.2.1.keep (HTb.out▸Q3.out.1)) _) rfl (by omega) (by simp) ?_)
    intro A5 c5 w3 ho1 hg1 hb1 _
    have Q4:=zhy (Q3.out.call (new1.trans hb1))
    have HO5:Hid (w3.ownsRow (Tb+1) 5 1 (.slice A5 m.l.length c5) m.l.length (cel m.l)):=own_base (by simpa using ho1) (Nat.succ_le_of_lt Q3.out.2.1.1)
    have HO4c:=zhy (own_below HO4b.out (new1.trans hb1) (Nat.le_refl _))
    have Q5:=zhy (Q4.out.set 1 (.slice A5 m.l.length c5) (Q4.out.2.2.setB A5 c5 m.l _ rfl))
    have HO4d:Hid ((w3.setCell ⟨Tb,1,none⟩ (.slice A5 m.l.length c5)).ownsRow (Tb+1) 5 1 (.slice A4 m.a.length c4) m.a.length (cel m.a)):=ownsRow_setCell_below HO4c.out (by show Tb<_;omega) _
    have HO5b:Hid ((w3.setCell ⟨Tb,1,none⟩ (.slice A5 m.l.length c5)).ownsRow (Tb+1) 5 1 (.slice A5 m.l.length c5) m.l.length (cel m.l)):=ownsRow_setCell_below HO5.out (by show Tb<_;omega) _
    clear ho1 hg1 hb1 Q3 HO4b HO4c HO5 z0 z1 z2 z3 z4 z5 z6 z7 z8
    obtain ⟨f0,f1,f2,f3,f4,f5,f6,f7⟩:=Q4.out.2.1.keepM
    obtain ⟨z0,z1,z2,z3,z4,z5,z6,z7,z8⟩:=Q4.out.2.2
    dsimp only at z1 z2 z8
    go_upto_region 8 with (fail)
    clear f0 f1 f2 f3 f4 f5 f6 f7 z0 z1 z2 z3 z4 z5 z6 z7 z8 Q4
    generalize w3.setCell ⟨Tb,1,none⟩ (.slice A5 m.l.length c5)=w4 at Q5 HO4d HO5b ⊢
    obtain ⟨z0,z1,z2,z3,z4,z5,z6,z7,z8⟩:=Q5.out.2.2
    dsimp only at z1 z2 z8
    go_wp2_with fail
    refine (rcopy_any x.D x.e x.k k _ (HOK.out.2.1.keep (HTb.out▸Q5.out.1)) HOK.out.2.2 (by omega)).mono ?_
    rintro r w5 ⟨A6,c6,rfl,ho1,hb1⟩
    have Q6:=zhy (Q5.out.call hb1)
    have HO6:=zhy (own_base ho1 (Nat.succ_le_of_lt Q5.out.2.1.1))
    have HO4e:=zhy (own_below HO4d.out hb1 (Nat.le_refl _))
    have HO5c:=zhy (own_below HO5b.out hb1 (Nat.le_refl _))
    have Q7:=zhy (Q6.out.set (x2:=⟨A4,c4,A5,c5,A6,x.k,c6⟩) 7 (.slice A6 x.k c6) (Q6.out.2.2.setD A6 x.k c6))
    have HW:Hid (Wz (w5.setCell ⟨Tb,7,none⟩ (.slice A6 x.k c6)) (Tb+1) ⟨⟨A4,c4,A5,c5,A6,x.k,c6⟩,m,k⟩):=
     zhy ⟨⟨HOK.out.1.1.byt,HOK.out.1.2.1.byt,HOK.out.1.2.2,HOK.out.2.1.1,HOK.out.2.2⟩,ownsRow_setCell_below HO4e.out (by show Tb<_;omega) _,ownsRow_setCell_below HO5c.out (by show Tb<_;omega) _,ownsRow_setCell_below HO6.out (by show Tb<_;omega) _⟩
    clear ho1 hb1 Q5 HO4d HO5b HO4e HO5c HO6 z0 z1 z2 z3 z4 z5 z6 z7 z8
    obtain ⟨f0,f1,f2,f3,f4,f5,f6,f7⟩:=Q6.out.2.1.keepM
    obtain ⟨z0,z1,z2,z3,z4,z5,z6,z7,z8⟩:=Q6.out.2.2
    dsimp only at z1 z2 z8
    go_upto_region 9 with (fail)
    clear f0 f1 f2 f3 f4 f5 f6 f7 z0 z1 z2 z3 z4 z5 z6 z7 z8 Q6
    generalize w5.setCell ⟨Tb,7,none⟩ (.slice A6 x.k c6)=w6 at Q7 HW ⊢
    have hTB:=HR.out.2.2.2.2.2.2.2.2.2.2
    have hTw:B1+2≤Tb:=by have:=HR.out.2.2.2.1.1;rw [HTb.out] at this;omega
    have HR2:=zhy (HR.out.call (w':=w6) (HTb.out▸Q7.out.1))
    have HW2:=zhy (HW.out.based (Nat.le_succ_of_le hTw))
    clear HW HR HOK
    have HR3:=zhy (HR2.out.call (new1 (a:=.cells (ce8 ⟨⟨A4,c4,A5,c5,A6,x.k,c6⟩,m,k⟩).toArray 50)))
    have HW3:=zhy (HW2.out.keep (new1 (a:=.cells (ce8 ⟨⟨A4,c4,A5,c5,A6,x.k,c6⟩,m,k⟩).toArray 50)))
    obtain ⟨z0,z1,z2,z3,z4,z5,z6,z7,z8⟩:=Q7.out.2.2
    dsimp only at z1 z2 z8
    obtain ⟨t0,t1,t2,t3,t4⟩:=HR2.out.2.2.2.2.1
    go_wp2_with (at_builtin;refine wpList_append_rm _ rfl (.tmp 42) (.tmp 44) rfl (B1+2) (.slice A3 j c3) j Zs rfl HR3.out.2.2.2.2.2.2.2.2.1 ⟨w6.heap.size,0,none⟩ ⟨⟨A4,c4,A5,c5,A6,x.k,c6⟩,m,k⟩ rfl (ce8_new w6 _ _) (by omega) (Nat.le_trans hTB (Nat.le_of_lt HR3.out.2.2.2.1.1)) ?_)
    intro A7 c7 w7 ho1 hg1 hb1 _
    have HR4:=zhy (HR3.out.grow hg1 hb1 HW3.out ho1 (by rw [zg7 h1];exact congrArg some HZE.out.symm))
    have HR5:=zhy (HR4.out.put)
    clear ho1 hg1 hb1 HR2 HR3 HW2 HW3 Q7 z0 z1 z2 z3 z4 z5 z6 z7 z8 t0 t1 t2 t3 t4
    obtain ⟨t0,t1,t2,t3,t4⟩:=HR4.out.2.2.2.2.1
    have f2:=HR4.out.2.2.2.1.2 2
    go_wp2_with fail
    go_roundw
    case rel=>exact ⟨j+1,Zs++[⟨⟨A4,c4,A5,c5,A6,x.k,c6⟩,m,k⟩],A7,c7,by omega,by go_num,HR5⟩
    case measure=>simp [intOf];omega
   ·obtain rfl:j=d.s.length:=by omega
    have HF:=zhy (HR.out.fin HQ0.out)
    obtain ⟨t0,t1,t2,t3,t4⟩:=HR.out.2.2.2.2.1
    obtain ⟨⟨e0,ef⟩,⟨e1,e2,e3,e4,e5⟩⟩:=HR.out.2.2.1
    have f0:=ef 0
    have f1:=ef 1
    have f2:=ef 2
    have f3:=ef 3
    clear HR ef
    go_wp2_with fail
    obtain ⟨h1,h2,h3,h4⟩:=HF.out
    exact rcopy_end _ _ (B1+1) ⟨A1,c1,A2,c2,A3,c3,Zs⟩ d rfl h1 _ ⟨_,rfl,h2,h3,h4⟩
 refine wp_region_L [10] (S:=fun w'=>Hid (Sx w w' [fF B1,fD B1 ⟨G,gc,P,pc,A,c,Z⟩ d,fMz (B1+1),fQm ⟨G,gc,P,pc,A,c,Z⟩ d])) (by kernel_rfl) (Hsx.drew S0) (fun hHeld=>?_)
 refine wpL_reckon (i:=0) (v:=?_) rfl (by kernel_rfl) (fun _ _ _ h=>h) (Or.inl ⟨by rfl,?_⟩) (Or.inr (by assumption)) ?_
 rotate_left 1
 ·intro w _;go_simp;try with_reducible rfl
 (try simp only [Act.put,zg1,zg2,zg3,zg4,zg5,zg6])
 refine wpL_take (i:=1) (v:=?_) rfl (by kernel_rfl) (fun _ _ _ h=>h) (Or.inl ⟨by rfl,?_⟩) (by assumption) ?_
 rotate_left 1
 ·intro w hSw;(try dsimp only at hSw);obtain ⟨-,-,⟨y0,y1,y2,y3,y4⟩,-⟩:=hSw.out;go_simp;try with_reducible rfl
 (try simp only [Act.put,zg1,zg2,zg3,zg4,zg5,zg6])
 refine wpL_reckon (i:=3) (v:=?_) rfl (by kernel_rfl) (fun _ _ _ h=>h) (Or.inl ⟨by rfl,?_⟩) (Or.inr (by assumption)) ?_
 rotate_left 1
 ·intro w _;go_simp;try with_reducible rfl
 (try simp only [Act.put,zg1,zg2,zg3,zg4,zg5,zg6])
 refine wpL_take (i:=4) (v:=?_) rfl (by kernel_rfl) (fun _ _ _ h=>h) (Or.inl ⟨by rfl,?_⟩) (by assumption) ?_
 rotate_left 1
 ·intro w hSw;(try dsimp only at hSw);obtain ⟨-,-,⟨y0,y1,y2,y3,y4⟩,-⟩:=hSw.out;go_simp;try with_reducible rfl
 (try simp only [Act.put,zg1,zg2,zg3,zg4,zg5,zg6])
 refine wpL_reckon (i:=6) (v:=?_) rfl (by kernel_rfl) (fun _ _ _ h=>h) (Or.inl ⟨by rfl,?_⟩) (Or.inr (by assumption)) ?_
 rotate_left 1
 ·intro w _;go_simp;try with_reducible rfl
 (try simp only [Act.put,zg1,zg2,zg3,zg4,zg5,zg6])
 refine wpL_take (i:=7) (v:=?_) rfl (by kernel_rfl) (fun _ _ _ h=>h) (Or.inl ⟨by rfl,?_⟩) (by assumption) ?_
 rotate_left 1
 ·intro w hSw;(try dsimp only at hSw);obtain ⟨-,-,⟨y0,y1,y2,y3,y4⟩,-⟩:=hSw.out;go_simp;try with_reducible rfl
 (try simp only [Act.put,zg1,zg2,zg3,zg4,zg5,zg6])
 refine wpL_ready (rs:=[2,9]) (by kernel_rfl) (by simp) ?_
 refine AllL.cons rfl (fun K hK=>?_) ?_
 ·skip
  go_simp
  refine (r3copy_any G gc d.g.length d.g _ hHeld.out.2.2.2.2.1.1 rfl (by omega)).mono ?_
  rintro r wb1 ⟨A1,c1,rfl,ho,hb⟩
  have HO1:=zhy (own_base ho (Nat.succ_le_of_lt hHeld.out.2.2.2.1.1.1))
  have HB1:=zhy hb
  clear ho hb
  go_wp2_with fail
  refine hK.out _ _ (Hsx.call HB1.out hHeld) (fun hHeld=>?_)
  clear hK K
  (try simp only [Act.put,zg1,zg2,zg3,zg4,zg5,zg6])
  refine wpL_ready (rs:=[5,9]) (by kernel_rfl) (by simp) ?_
  refine AllL.cons rfl (fun K hK=>?_) ?_
  ·skip
   go_simp
   refine (r3copy_any P pc d.p.length d.p _ hHeld.out.2.2.2.2.1.2.1 rfl (by omega)).mono ?_
   rintro r wb2 ⟨A2,c2,rfl,ho,hb⟩
   have HO2:=zhy (own_base ho (Nat.succ_le_of_lt hHeld.out.2.2.2.1.1.1))
   have HB2:=zhy hb
   clear ho hb
   replace HO1:=zhy (own_below HO1.out HB2.out (Nat.le_refl _))
   go_wp2_with fail
   refine hK.out _ _ (Hsx.call HB2.out hHeld) (fun hHeld=>?_)
   clear hK K
   (try simp only [Act.put,zg1,zg2,zg3,zg4,zg5,zg6])
   refine wpL_reckon (i:=8) (v:=?_) rfl (by kernel_rfl) (fun _ _ _ h=>h) (Or.inl ⟨by rfl,?_⟩) (Or.inr (by assumption)) ?_
   rotate_left 1
   ·intro w _;go_simp;try with_reducible rfl
   (try simp only [Act.put,zg1,zg2,zg3,zg4,zg5,zg6])
   refine wpL_ready (rs:=[9]) (by kernel_rfl) (by simp) ?_
   refine AllL.cons rfl (fun K hK=>?_) AllL.nil
   go_simp
   have HT:=zhy (T8.new wb2)
   have SA:=zhy (hHeld.out.call (new1 (w:=wb2) (a:=.cells #[.slice none 0 0,.slice none 0 0,.slice none 0 0,.int .i64 0] 25)))
   show K _ (wb2.alloc (.cells #[.slice none 0 0,.slice none 0 0,.slice none 0 0,.int .i64 0] 25))
   obtain ⟨T,hT⟩:∃T,wb2.heap.size=T:=⟨_,rfl⟩
   have hTB:B1+2≤T:=by rw [←hT];exact Nat.succ_le_of_lt hHeld.out.2.2.2.1.1.1
   have HT:Hid (T8 (wb2.alloc (.cells #[.slice none 0 0,.slice none 0 0,.slice none 0 0,.int .i64 0] 25)) T):=hT▸HT
   rw [hT]
   clear hT
   replace HO1:=zhy (own_below HO1.out (new1 (w:=wb2) (a:=.cells #[.slice none 0 0,.slice none 0 0,.slice none 0 0,.int .i64 0] 25)) (Nat.le_refl _))
   replace HO2:=zhy (own_below HO2.out (new1 (w:=wb2) (a:=.cells #[.slice none 0 0,.slice none 0 0,.slice none 0 0,.int .i64 0] 25)) (Nat.le_refl _))
   generalize wb2.alloc (.cells #[.slice none 0 0,.slice none 0 0,.slice none 0 0,.int .i64 0] 25)=wa2 at *
   refine hK.out _ _ (SA) (fun hHeld=>?_)
   clear hK K
   (try simp only [Act.put,zg1,zg2,zg3,zg4,zg5,zg6])
   refine wpL_ready (rs:=[10]) (by kernel_rfl) (by simp) ?_
   refine AllL.late rfl (by kernel_rfl) (fun K hK=>?_) AllL.nil
   have SZ:=hHeld
   obtain ⟨⟨h20,h21⟩,⟨h10,h11,h12,h13,h14⟩,-⟩:=HT.out
   have h30:=h21 0
   have h31:=h21 1
   have h32:=h21 2
   have h33:=h21 3
   clear h21
   go_simp
   refine hK.out _ _ ?_
   clear hK K
   (try simp only [Act.put,zg1,zg2,zg3,zg4,zg5,zg6])
   refine wpL_done (by kernel_rfl) ?_ _
   exact TAIL _ _ _ _ _ _ (rc8_start SZ.out HBQ.out HT.out hTB HO1.out HO2.out) _ _ _ _ _ _ _ _ _ _ _
  refine AllL.cons rfl (fun K hK=>?_) AllL.nil
  go_simp
  have HT:=zhy (T8.new wb1)
  have SA:=zhy (hHeld.out.call (new1 (w:=wb1) (a:=.cells #[.slice none 0 0,.slice none 0 0,.slice none 0 0,.int .i64 0] 25)))
  show K _ (wb1.alloc (.cells #[.slice none 0 0,.slice none 0 0,.slice none 0 0,.int .i64 0] 25))
  obtain ⟨T,hT⟩:∃T,wb1.heap.size=T:=⟨_,rfl⟩
  have hTB:B1+2≤T:=by rw [←hT];exact Nat.succ_le_of_lt hHeld.out.2.2.2.1.1.1
  have HT:Hid (T8 (wb1.alloc (.cells #[.slice none 0 0,.slice none 0 0,.slice none 0 0,.int .i64 0] 25)) T):=hT▸HT
  rw [hT]
  clear hT
  replace HO1:=zhy (own_below HO1.out (new1 (w:=wb1) (a:=.cells #[.slice none 0 0,.slice none 0 0,.slice none 0 0,.int .i64 0] 25)) (Nat.le_refl _))
  generalize wb1.alloc (.cells #[.slice none 0 0,.slice none 0 0,.slice none 0 0,.int .i64 0] 25)=wa1 at *
  refine hK.out _ _ (SA) (fun hHeld=>?_)
  clear hK K
  (try simp only [Act.put,zg1,zg2,zg3,zg4,zg5,zg6])
  refine wpL_ready (rs:=[5]) (by kernel_rfl) (by simp) ?_
  refine AllL.cons rfl (fun K hK=>?_) AllL.nil
  go_simp
  refine (r3copy_any P pc d.p.length d.p _ hHeld.out.2.2.2.2.1.2.1 rfl (by omega)).mono ?_
  rintro r wb2 ⟨A2,c2,rfl,ho,hb⟩
  have HO2:=zhy (own_base ho (Nat.succ_le_of_lt hHeld.out.2.2.2.1.1.1))
  have HB2:=zhy hb
  clear ho hb
  replace HT:=zhy (HT.out.keep HB2.out)
  replace HO1:=zhy (own_below HO1.out HB2.out (Nat.le_refl _))
  go_wp2_with fail
  refine hK.out _ _ (Hsx.call HB2.out hHeld) (fun hHeld=>?_)
  clear hK K
  (try simp only [Act.put,zg1,zg2,zg3,zg4,zg5,zg6])
  refine wpL_reckon (i:=8) (v:=?_) rfl (by kernel_rfl) (fun _ _ _ h=>h) (Or.inl ⟨by rfl,?_⟩) (Or.inr (by assumption)) ?_
  rotate_left 1
  ·intro w _;go_simp;try with_reducible rfl
  (try simp only [Act.put,zg1,zg2,zg3,zg4,zg5,zg6])
  refine wpL_ready (rs:=[10]) (by kernel_rfl) (by simp) ?_
  refine AllL.late rfl (by kernel_rfl) (fun K hK=>?_) AllL.nil
  have SZ:=hHeld
  obtain ⟨⟨h20,h21⟩,⟨h10,h11,h12,h13,h14⟩,-⟩:=HT.out
  have h30:=h21 0
  have h31:=h21 1
  have h32:=h21 2
  have h33:=h21 3
  clear h21
  go_simp
  refine hK.out _ _ ?_
  clear hK K
  (try simp only [Act.put,zg1,zg2,zg3,zg4,zg5,zg6])
  refine wpL_done (by kernel_rfl) ?_ _
  exact TAIL _ _ _ _ _ _ (rc8_start SZ.out HBQ.out HT.out hTB HO1.out HO2.out) _ _ _ _ _ _ _ _ _ _ _
 refine AllL.cons rfl (fun K hK=>?_) AllL.nil
 go_simp
 have HT:=zhy (T8.new w0.drew)
 have SA:=zhy (hHeld.out.call (new1 (w:=w0.drew) (a:=.cells #[.slice none 0 0,.slice none 0 0,.slice none 0 0,.int .i64 0] 25)))
 show K _ (w0.drew.alloc (.cells #[.slice none 0 0,.slice none 0 0,.slice none 0 0,.int .i64 0] 25))
 obtain ⟨T,hT⟩:∃T,w0.heap.size=T:=⟨_,rfl⟩
 have hTB:B1+2≤T:=by rw [←hT];exact Nat.succ_le_of_lt hHeld.out.2.2.2.1.1.1
 have HT:Hid (T8 (w0.drew.alloc (.cells #[.slice none 0 0,.slice none 0 0,.slice none 0 0,.int .i64 0] 25)) T):=hT▸HT
 rw [hT]
 clear hT
 generalize w0.drew.alloc (.cells #[.slice none 0 0,.slice none 0 0,.slice none 0 0,.int .i64 0] 25)=wa0 at *
 refine hK.out _ _ (SA) (fun hHeld=>?_)
 clear hK K
 (try simp only [Act.put,zg1,zg2,zg3,zg4,zg5,zg6])
 refine wpL_ready (rs:=[2]) (by kernel_rfl) (by simp) ?_
 refine AllL.cons rfl (fun K hK=>?_) AllL.nil
 go_simp
 refine (r3copy_any G gc d.g.length d.g _ hHeld.out.2.2.2.2.1.1 rfl (by omega)).mono ?_
 rintro r wb1 ⟨A1,c1,rfl,ho,hb⟩
 have HO1:=zhy (own_base ho (Nat.succ_le_of_lt hHeld.out.2.2.2.1.1.1))
 have HB1:=zhy hb
 clear ho hb
 replace HT:=zhy (HT.out.keep HB1.out)
 go_wp2_with fail
 refine hK.out _ _ (Hsx.call HB1.out hHeld) (fun hHeld=>?_)
 clear hK K
 (try simp only [Act.put,zg1,zg2,zg3,zg4,zg5,zg6])
 refine wpL_ready (rs:=[5]) (by kernel_rfl) (by simp) ?_
 refine AllL.cons rfl (fun K hK=>?_) AllL.nil
 go_simp
 refine (r3copy_any P pc d.p.length d.p _ hHeld.out.2.2.2.2.1.2.1 rfl (by omega)).mono ?_
 rintro r wb2 ⟨A2,c2,rfl,ho,hb⟩
 have HO2:=zhy (own_base ho (Nat.succ_le_of_lt hHeld.out.2.2.2.1.1.1))
 have HB2:=zhy hb
 clear ho hb
 replace HT:=zhy (HT.out.keep HB2.out)
 replace HO1:=zhy (own_below HO1.out HB2.out (Nat.le_refl _))
 go_wp2_with fail
 refine hK.out _ _ (Hsx.call HB2.out hHeld) (fun hHeld=>?_)
 clear hK K
 (try simp only [Act.put,zg1,zg2,zg3,zg4,zg5,zg6])
 refine wpL_reckon (i:=8) (v:=?_) rfl (by kernel_rfl) (fun _ _ _ h=>h) (Or.inl ⟨by rfl,?_⟩) (Or.inr (by assumption)) ?_
 rotate_left 1
 ·intro w _;go_simp;try with_reducible rfl
 (try simp only [Act.put,zg1,zg2,zg3,zg4,zg5,zg6])
 refine wpL_ready (rs:=[10]) (by kernel_rfl) (by simp) ?_
 refine AllL.late rfl (by kernel_rfl) (fun K hK=>?_) AllL.nil
 have SZ:=hHeld
 obtain ⟨⟨h20,h21⟩,⟨h10,h11,h12,h13,h14⟩,-⟩:=HT.out
 have h30:=h21 0
 have h31:=h21 1
 have h32:=h21 2
 have h33:=h21 3
 clear h21
 go_simp
 refine hK.out _ _ ?_
 clear hK K
 (try simp only [Act.put,zg1,zg2,zg3,zg4,zg5,zg6])
 refine wpL_done (by kernel_rfl) ?_ _
 exact TAIL _ _ _ _ _ _ (rc8_start SZ.out HBQ.out HT.out hTB HO1.out HO2.out) _ _ _ _ _ _ _ _ _ _ _
theorem r8copyw (y:Ma) (d:Md) (w:World) (hq:Hq w y d) (hg:qG d=false):Calls Tryz.prog 10 #[dv y d] w fun r w'=>∃t,r=.returned (dv t d)∧Hq w' t d∧Ow w' w.heap.size w'.heap.size t d∧Below w.heap.size w w':=by
 obtain ⟨h1,h2,h3,h4⟩:=qG_bd hq hg;exact r8copy_v y d w hq (by omega) (by omega) (by omega) (fun z hz=>by have:=h4 z hz;omega)
def mhs12 (m:Mh) (c:Ce):Mh:={ m with f:=c.1,s:=c.2.1,h:=c.2.2 }
structure Dn12 (d d':Md) (N:Nat→Ce) (i:Nat):Prop where
 len:d'.s.length=d.s.length
 at_:∀j z,d.s[j]?=some z→d'.s[j]?=some (if j<i then (mhs12 z.1 (N j),z.2) else z)
section
variable {d d' : Md} {N : Nat → Ce} {i : Nat}
theorem Dn12.zero (d:Md) (N:Nat→Ce):Dn12 d d N 0:=⟨rfl,fun j z h=>by rw [if_neg (by omega)];exact h⟩
theorem Dn12.step (h:Dn12 d d' N i) {z:Mh×List Ins} (hz:d'.s[i]?=some z) {s:List (Mh×List Ins)} (hs:s=d'.s.set i (mhs12 z.1 (N i),z.2)) {d'':Md} (hd:d''.s=s):Dn12 d d'' N (i+1):=by
 have hi:=(zg8.1 hz).1;refine ⟨by rw [hd,hs,List.length_set,h.len],fun j x hx=>?_⟩;rw [hd,hs];by_cases hj:j=i
 ·subst hj;have h1:=h.at_ j x hx;rw [if_neg (by omega),hz] at h1;injection h1 with h1;subst h1;rw [List.getElem?_set_self hi,if_pos (by omega)]
 ·rw [List.getElem?_set_ne (fun e=>hj e.symm),h.at_ j x hx];by_cases h2:j<i
  ·rw [if_pos h2,if_pos (by omega)]
  ·rw [if_neg h2,if_neg (by omega)]
theorem Dn12.me (h:Dn12 d d' N i) {k:Nat} (hk:k<d.s.length) (hi:k<i):me10 d' k=mhs12 (me10 d k) (N k)∧co11 d' k=co11 d k:=by
 have h1:=h.at_ k _ (zg7 hk);rw [if_pos hi] at h1;rw [me10,me10,co11,co11,h1,zg7 hk];exact ⟨rfl,rfl⟩
end
theorem at8_h12 {w:World} {g p:Nat} {z:Me} (h:At8 w ⟨g,p,none⟩ z) (v:Int):At8 (w.setCell ⟨g,p+6,none⟩ (.int .i64 v)) ⟨g,p,none⟩ { z with m:={ z.m with h:=v }}:=by
 obtain ⟨h1,h2,h3,h4,h5,h6,h7,h8⟩:=h;exact ⟨c8n (by omega) h1,c8n (by dsimp only;omega) h2,c8n (by dsimp only;omega) h3,c8n (by dsimp only;omega) h4,c8n (by dsimp only;omega) h5,c8n (by dsimp only;omega) h6,World.cell?_setCell_same _ _ _ h7,c8n (by dsimp only;omega) h8⟩
theorem Aw.at812 {lo hi M g j:Nat} {d d':Md} {k:Int} {wr:World} {y':Ma} {z:Me} (h:Aw lo hi M d k wr y' d') (hA:y'.A=some ⟨g,0,none⟩) (hz:y'.Z[j]?=some z):At8 wr ⟨g,j*8,none⟩ z∧z.ok wr∧Owz wr lo hi z∧qgE (ze z)=false:=by
 have hm:=List.mem_of_getElem? hz;refine ⟨?_,h.hq.2.2.1.1 z hm,h.ow.2.2.2 z hm,?_⟩
 ·rcases h.hq.2.2.1.2.2.2 with ⟨hn,-⟩ | ⟨ad,ha,hc⟩
  ·rw [hA] at hn;cases hn
  ·rw [hA] at ha;injection ha with ha;subst ha;have h8:=hc j z hz;rwa [add0] at h8
 ·have hq:=h.qg;simp only [qG,Bool.or_eq_false_iff] at hq;have h3:=(List.any_eq_false.1 hq.2.2.2) (ze z) (by rw [←h.hq.2.2.2.1];exact List.mem_map.2 ⟨z,hm,rfl⟩);simpa using h3
section
variable {lo hi M g j kk : Nat} {d d' : Md} {wr : World} {y' : Ma} {z : Me}
theorem Aw.fld12 (h:Aw lo hi M d (-1) wr y' d') (hA:y'.A=some ⟨g,0,none⟩) (hg:Bk wr g 50 kk) (h2:g<hi) (hz:y'.Z[j]?=some z) {f:Nat} {v:Int} (hv:-9223372036854775808≤v∧v≤9223372036854775807) {m':Mh}
  (hf:(f=4∧m'={ z.m with f:=v })∨(f=5∧m'={ z.m with s:=v })∨(f=6∧m'={ z.m with h:=v })) :
  Aw lo hi M d (-1) (wr.setCell ⟨g,j*8+f,none⟩ (.int .i64 v)) { y' with Z:=y'.Z.set j { z with m:=m' }} { d' with s:=(y'.Z.set j { z with m:=m' }).map ze }:=by
 obtain ⟨a1,-,o1,q1⟩:=h.at812 hA hz
 obtain ⟨⟨k1,k2,k3⟩,k4,k5⟩:=ok_nt (h.hq.2.2.1.1 z (List.mem_of_getElem? hz)) o1 hg (by decide) (by decide) (j*8+f) (.int .i64 v)
 obtain ⟨n1,n2,n3,n4⟩:=k3
 rcases hf with ⟨rfl,rfl⟩ | ⟨rfl,rfl⟩ | ⟨rfl,rfl⟩
 ·exact h.meth (v:=.int .i64 v) (f:=4) hA hg h2 (by decide) hz (at8_f a1 v) (z':={ z with m:={ z.m with f:=v }}) ⟨⟨k1,k2,n1,hv,n3,n4⟩,k4,k5⟩ o1 ⟨rfl,rfl⟩ (fun _=>⟨rfl,rfl⟩) q1
 ·exact h.meth (v:=.int .i64 v) (f:=5) hA hg h2 (by decide) hz (at8_s a1 v) (z':={ z with m:={ z.m with s:=v }}) ⟨⟨k1,k2,n1,n2,hv,n4⟩,k4,k5⟩ o1 ⟨rfl,rfl⟩ (fun _=>⟨rfl,rfl⟩) q1
 ·exact h.meth (v:=.int .i64 v) (f:=6) hA hg h2 (by decide) hz (at8_h12 a1 v) (z':={ z with m:={ z.m with h:=v }}) ⟨⟨k1,k2,n1,n2,n3,hv⟩,k4,k5⟩ o1 ⟨rfl,rfl⟩ (fun _=>⟨rfl,rfl⟩) q1
theorem Aw.num12 (h:Aw lo hi M d (-1) wr y' d') (hA:y'.A=some ⟨g,0,none⟩) (hg:Bk wr g 50 kk) (h2:g<hi) (hz:y'.Z[j]?=some z) (c:Ce) (c1:-9223372036854775808≤c.1∧c.1≤9223372036854775807) (c2:-9223372036854775808≤c.2.1∧c.2.1≤9223372036854775807) (c3:-9223372036854775808≤c.2.2∧c.2.2≤9223372036854775807) :
  ∃Z',Z'=y'.Z.set j { z with m:=mhs12 z.m c }∧Aw lo hi M d (-1) (((wr.setCell ⟨g,j*8+4,none⟩ (.int .i64 c.1)).setCell ⟨g,j*8+5,none⟩ (.int .i64 c.2.1)).setCell ⟨g,j*8+6,none⟩ (.int .i64 c.2.2)) { y' with Z:=Z' } { d' with s:=Z'.map ze }:=by
 have hj:=(zg8.1 hz).1
 have r1:=h.fld12 hA hg h2 hz c1 (.inl ⟨rfl,rfl⟩)
 have hz1:(y'.Z.set j { z with m:={ z.m with f:=c.1 }})[j]?=some { z with m:={ z.m with f:=c.1 }}:=by rw [List.getElem?_set,if_pos rfl,if_pos hj]
 have r2:=r1.fld12 (j:=j) hA (hg.set g (j*8+4) (.int .i64 c.1)) h2 hz1 c2 (.inr (.inl ⟨rfl,rfl⟩))
 dsimp only at r2
 rw [List.set_set] at r2
 have hz2:(y'.Z.set j { z with m:={ z.m with f:=c.1,s:=c.2.1 }})[j]?=some { z with m:={ z.m with f:=c.1,s:=c.2.1 }}:=by rw [List.getElem?_set,if_pos rfl,if_pos hj]
 have r3:=r2.fld12 (j:=j) hA ((hg.set g (j*8+4) (.int .i64 c.1)).set g (j*8+5) (.int .i64 c.2.1)) h2 hz2 c3 (.inr (.inr ⟨rfl,rfl⟩))
 dsimp only at r3
 rw [List.set_set] at r3
 exact ⟨_,rfl,r3⟩
theorem Aw.set12 (h:Aw lo hi M d (-1) wr y' d') (hz:y'.Z[j]?=some z) (c:Ce):d'.s[j]?=some (z.m,z.k)∧(y'.Z.set j { z with m:=mhs12 z.m c }).map ze=d'.s.set j (mhs12 z.m c,z.k):=by
 rw [←h.hq.2.2.2.1,List.getElem?_map,hz];refine ⟨rfl,?_⟩;rw [List.map_set]
end
section
variable {w : World} {lo hi g : Nat}
theorem c8n13 {p q:Nat} {v u:Value} (h:q≠p) (hu:w.cell? ⟨g,q,none⟩=some u):(w.setCell ⟨g,p,none⟩ v).cell? ⟨g,q,none⟩=some u:=by
 rw [World.cell?_setCell_other _ _ _ _ (fun e=>h (by injection e with _ e2;exact e2.symm))];exact hu
theorem at8_q13 {p:Nat} {z:Me} (h:At8 w ⟨g,p,none⟩ z) (v:Bool):At8 (w.setCell ⟨g,p+3,none⟩ (.bool v)) ⟨g,p,none⟩ { z with m:={ z.m with q:=v }}:=by
 obtain ⟨h1,h2,h3,h4,h5,h6,h7,h8⟩:=h;exact ⟨c8n13 (by omega) h1,c8n13 (by dsimp only;omega) h2,c8n13 (by dsimp only;omega) h3,World.cell?_setCell_same _ _ _ h4,c8n13 (by dsimp only;omega) h5,c8n13 (by dsimp only;omega) h6,c8n13 (by dsimp only;omega) h7,c8n13 (by dsimp only;omega) h8⟩
end
abbrev Nm14:Nat→Ce:=fun _=>(1048576,256,1024)
theorem lk14_dn {d d':Md} {i:Nat} (D:Dn12 d d' Nm14 i) (hi:d.s.length≤i) (hg:d'.g=d.g) (hp:d'.p=d.p) (h0:d'.i=d.i):Lk14 d d':=by
 refine ⟨hg,hp,h0,D.len,fun j z z' h1 h2=>?_⟩;have h3:=D.at_ j z h1;have:=(zg8.1 h1).1;rw [if_pos (by omega),h2] at h3;injection h3 with h3;subst h3;exact ⟨rfl,rfl,rfl,rfl⟩
theorem dn14_mm {d d':Md} {i:Nat} (D:Dn12 d d' Nm14 i) (hi:d.s.length≤i) (h:qE d=0):∀z∈d'.s,mM z.1=true:=by
 intro z' hz;obtain ⟨j,hj⟩:=List.getElem?_of_mem hz;have hjl:j<d.s.length:=by rw [←D.len];exact (zg8.1 hj).1
 have h1:d.s[j]?=some d.s[j]:=zg7 hjl;have h3:=D.at_ j _ h1;rw [if_pos (by omega),hj] at h3;injection h3 with h3;subst h3;have hm:=(qmE_all (qE_parts h).2.2.2.2.2.2.1 _ (List.getElem_mem hjl)).1;obtain ⟨a1,a2,a3,a4,a5,-,-,-⟩:=mM_iff.1 hm;refine mM_iff.2 ⟨a1,a2,a3,a4,a5,?_,?_,?_⟩<;>(dsimp only [mhs12];omega)
theorem dn14_re {d d':Md} {i:Nat} (D:Dn12 d d' Nm14 i) (hi:d.s.length≤i) {j:Nat} (hj:j<d.s.length):re13 d' j=re13 d j:=by
 have h1:d.s[j]?=some d.s[j]:=zg7 hj;have h3:=D.at_ j _ h1;rw [if_pos (by omega)] at h3;rw [re13,hd13,h3,re13,hd13,h1];rfl
theorem dn14_fit {d d':Md} {i:Nat} (D:Dn12 d d' Nm14 i) (hi:d.s.length≤i) (h:(ve14 d).1=0):∀k,k<d.s.length→fi12 (ce12 d k) (me10 d' k)=true:=by
 obtain ⟨h1,h2,h3,h4,h5,h6⟩:=ve14_zero.1 h;intro k hk;rw [(D.me hk (by omega)).1];have:=fi12_iff.1 (ok12_at h4 (co12_ok h5).2.2.1 hk);exact fi12_iff.2 (by simp only [mhs12];omega)
theorem dn14_ve {d d':Md} {i:Nat} (D:Dn12 d d' Nm14 i) (hi:d.s.length≤i) (hg:d'.g=d.g) (hp:d'.p=d.p) (h0:d'.i=d.i) (h:(ve14 d).1=0):ve14 d'=(0,-1,cs12 d):=by
 have L:=lk14_dn D hi hg hp h0
 have hs:sd13 d'=true:=by
  have hs:=sd13_iff.1 (ve14_sd h);rw [sd13_iff];intro k hk hr;rw [L.len] at hk ⊢;rw [dn14_re D hi hk] at hr;obtain ⟨a,b⟩:=hs k hk hr;refine ⟨by rw [L.so];exact a,fun j hj he=>?_⟩;rw [L.sd.e] at he;rw [dn14_re D hi hj];exact b j hj he
 rw [L.ve h (dn14_mm D hi (ve14_zero.1 h).1) (dn14_fit D hi h),if_pos hs]
def nr14 (d:Md) (k:Nat):Md:={ d with s:=d.s.set k ({ hd13 d k with q:=false },co11 d k)}
theorem nr14_at {d:Md} {k:Nat} (hk:k<d.s.length) (j:Nat):(nr14 d k).s[j]?=if j=k then some ({ hd13 d k with q:=false },co11 d k) else d.s[j]?:=by
 rw [nr14];dsimp only;rw [List.getElem?_set];by_cases h:k=j
 ·subst h;rw [if_pos rfl,if_pos hk,if_pos rfl]
 ·rw [if_neg h,if_neg (fun e=>h e.symm)]
def wf14 (d:Md) (k:Int) (i:Nat):Bool:=(List.range i).any fun j=>cl11 (co11 d j) k&&(re13 d j&&!((j:Int)==k))
def wi14:Bool→Int
 | true=>130
 | false=>0
theorem wf14_succ {d:Md} {k:Int} {i:Nat}:wf14 d k (i+1)=(wf14 d k i||(cl11 (co11 d i) k&&(re13 d i&&!((i:Int)==k)))):=by
 unfold wf14;rw [List.range_succ,List.any_append];simp
theorem nr14_ve {d d':Md} {i k:Nat} (D:Dn12 d d' Nm14 i) (hi:d.s.length≤i) (hg:d'.g=d.g) (hp:d'.p=d.p) (h0:d'.i=d.i) (h:(ve14 d).1=0) (hk:k<d.s.length):(ve14 (nr14 d' k)).1=wi14 (wf14 d k d.s.length):=by
 have L:=lk14_dn D hi hg hp h0;have hk':k<d'.s.length:=by rw [L.len];exact hk
 have L2:Lk14 d (nr14 d' k):=by
  refine ⟨hg,hp,h0,by rw [nr14];dsimp only;rw [List.length_set,L.len],fun j z z' h1 h2=>?_⟩;rw [nr14_at hk'] at h2;have hjl:=(zg8.1 h1).1;have h3:d'.s[j]?=some (d'.s[j]'(by rw [L.len];exact hjl)):=zg7 _;have h4:=L.at_ j _ _ h1 h3;by_cases hj:j=k
  ·subst hj;rw [if_pos rfl] at h2;injection h2 with h2;subst h2;dsimp only;have e1:hd13 d' j=(d'.s[j]'(by rw [L.len];exact hjl)).1:=by rw [hd13,h3];rfl
   have e2:co11 d' j=(d'.s[j]'(by rw [L.len];exact hjl)).2:=by rw [co11,h3];rfl
   rw [e1,e2];exact h4
  ·rw [if_neg hj,h3] at h2;injection h2 with h2;subst h2;exact h4
 have hm1:=dn14_mm D hi (ve14_zero.1 h).1
 have hmm:∀z∈(nr14 d' k).s,mM z.1=true:=by
  intro z hz;rw [nr14] at hz;rcases List.mem_or_eq_of_mem_set hz with hz | rfl
  ·exact hm1 z hz
  ·have:=hm1 _ (List.getElem_mem hk');have e1:hd13 d' k=(d'.s[k]).1:=by rw [hd13,zg7 hk'];rfl
   dsimp only;rw [e1];exact mM_iff.2 (mM_iff.1 this)
 have hff:∀j,j<d.s.length→fi12 (ce12 d j) (me10 (nr14 d' k) j)=true:=by
  intro j hj;have:=dn14_fit D hi h j hj
  have e:(me10 (nr14 d' k) j).f=(me10 d' j).f∧(me10 (nr14 d' k) j).s=(me10 d' j).s∧(me10 (nr14 d' k) j).h=(me10 d' j).h:=by
   rw [me10,nr14_at hk'];by_cases hjk:j=k
   ·subst hjk;rw [if_pos rfl];exact ⟨rfl,rfl,rfl⟩
   ·rw [if_neg hjk,←me10];exact ⟨rfl,rfl,rfl⟩
  unfold fi12 at this ⊢;rw [e.1,e.2.1,e.2.2];exact this
 have hre:∀j,j<d.s.length→re13 (nr14 d' k) j=(re13 d j&&!(j==k)):=by
  intro j hj;rw [re13,hd13,nr14_at hk'];by_cases hjk:j=k
  ·subst hjk;rw [if_pos rfl];simp
  ·rw [if_neg hjk,←hd13,←re13,dn14_re D hi hj];simp [hjk]
 have hsd:=L2.sd13 (ve14_sd h) hk hre
 have hwf:sd13 (nr14 d' k)=!wf14 d k d.s.length:=by
  rw [Bool.eq_iff_iff,hsd,Bool.not_eq_true',wf14,List.any_eq_false];constructor
  ·intro hh j hj;have hj:=List.mem_range.1 hj;by_cases hjk:j=k
   ·subst hjk;simp
   ·cases hr:re13 d j with
    | false=>simp
    | true =>
     have:=hh j hj hjk hr;unfold e11 at this;rw [this];simp
  ·intro hh j hj hjk hr;have:=hh j (List.mem_range.2 hj);rw [hr] at this;have e:((j:Int)==(k:Int))=false:=by simp;omega
   rw [e] at this;unfold e11;simpa using this
 rw [L2.ve h hmm hff,hwf];cases wf14 d k d.s.length<;>rfl
theorem aw14_q {lo hi M g j kk:Nat} {d d':Md} {wr:World} {y':Ma} {z:Me} (h:Aw lo hi M d (-1) wr y' d') (hA:y'.A=some ⟨g,0,none⟩) (hg:Bk wr g 50 kk) (h2:g<hi) (hz:y'.Z[j]?=some z) :
  ∃Z',Aw lo hi M d (-1) (wr.setCell ⟨g,j*8+3,none⟩ (.bool false)) { y' with Z:=Z' } (nr14 d' j):=by
 obtain ⟨a1,-,o1,q1⟩:=h.at812 hA hz
 obtain ⟨⟨k1,k2,k3⟩,k4,k5⟩:=ok_nt (h.hq.2.2.1.1 z (List.mem_of_getElem? hz)) o1 hg (by decide) (by decide) (j*8+3) (.bool false)
 have h3:=h.meth (v:=.bool false) (f:=3) hA hg h2 (by decide) hz (at8_q13 a1 false) (z':={ z with m:={ z.m with q:=false }}) ⟨⟨k1,k2,k3⟩,k4,k5⟩ o1 ⟨rfl,rfl⟩ (fun _=>⟨rfl,rfl⟩) q1
 have e0:d'.s[j]?=some (z.m,z.k):=by rw [←h.hq.2.2.2.1,List.getElem?_map,hz];rfl
 have e:({ d' with s:=(y'.Z.set j { z with m:={ z.m with q:=false }}).map ze }:Md)=nr14 d' j:=by
  rw [nr14,List.map_set,h.hq.2.2.2.1,hd13,co11,e0];rfl
 rw [e] at h3
 exact ⟨_,h3⟩
theorem has14_take {l:List Int} {i:Nat} {x k:Int} (h:l[i]?=some x):(l.take (i+1)).contains k=((l.take i).contains k||x==k):=by
 rw [List.take_add_one,h,List.contains_eq_any_beq,List.contains_eq_any_beq,List.any_append];simp [Bool.beq_comm,eq_comm]
theorem wh14_has {d:Md} (hb:ba11 d=false) {i:Nat} (hi:i<d.s.length) {k:Nat} (hk:k<d.s.length):(wh11 d i).1.contains (k:Int)=cl11 (co11 d i) k:=by
 rw [wh11_ok hb hi,Bool.eq_iff_iff,List.contains_iff_mem];dsimp only;rw [List.mem_map];constructor
 ·rintro ⟨j,hj,he⟩;obtain ⟨h1,h2⟩:=List.mem_filter.1 hj;have:j=k:=by omega
  subst this;exact h2
 ·intro h;exact ⟨k,List.mem_filter.2 ⟨List.mem_range.2 hk,h⟩,rfl⟩
theorem decl14_walk (y:Ma) (d:Md) (k0:Int) (w:World) (hw:fWM.p w) (hq:Hq w y d):Calls Tryz.prog 8 #[dv y d,.int .i64 k0] w fun e w'=>e=.returned (.bool true)∧Below w.heap.size w w':=by
 have hzl:=hq.zlen;have HZL:=zhy hzl;have HZA:=zhy (fun (i:Nat) (h1:i<y.Z.length) (h2:i<d.s.length)=>hq.zat h1 h2);obtain ⟨B,hB⟩:∃B,w.heap.size=B:=⟨_,rfl⟩;have S0:=zhy (((Sx.start w).add fWM hw).add (fQm y d) hq |>.mkD y d);rw [hB] at S0;clear hw hq hzl;go_enter Tryz.func8,Tryz.ntmps8;go_upto_region 1 with (fail);change Code.wp _ _ _ _ (w.alloc (dcel y d));clear hB;generalize w.alloc (dcel y d)=w1 at S0 ⊢;go_wp2_with fail;refine (awake14_v w1 S0.out.2.2.2.1).mono ?_;rintro e w2 ⟨rfl,hb⟩;have S2:=zhy (S0.out.call hb);clear hb S0;obtain ⟨-,⟨d0,d1,d2,d3,d4⟩,-⟩:=S2.out;go_wp2_with fail;refine (great8_v y d w2 S2.out.2.2.1).mono ?_;rintro e w3 ⟨rfl,hb⟩;have S3:=zhy (S2.out.call hb);clear hb S2 d0 d1 d2 d3 d4;obtain ⟨v,hv⟩:∃v,qG d=v:=⟨_,rfl⟩;have HG:=zhy hv;rw [hv];clear hv;cases v with
 | true =>
  go_wp2_with fail;go_ret;exact ⟨rfl,S3.out.1⟩
 | false =>
 have HBD:=zhy (qG_b12 HG.out);have HLO:=zhy (fun h=>ve14_ok (d:=d) h);obtain ⟨X,hX⟩:∃X,ve14 d=X:=⟨_,rfl⟩;obtain ⟨e,b,L⟩:=X;have HX:=zhy hX
 have HCA:Hid (∀wq,Sx w wq [fD B y d,fQm y d,fWM]→Calls Tryz.prog 12 #[dv y d] wq fun r w'=>Ac14 wq w' L e r):=zhy fun wq hs=>by
  have:=accept14_v y d wq hs.2.2.2.1 hs.2.2.1 HG.out;rw [HX.out] at this;exact this
 clear hX;obtain ⟨-,⟨d0,d1,d2,d3,d4⟩,-⟩:=S3.out;go_wp2_with fail;refine (HCA.out _ S3.out).mono ?_;rintro r w4 ⟨A1,c1,rfl,ho,hb⟩;have S4:=zhy ((S3.out.call hb).add (fRg ce3 3 A1 c1 L) (Rg.of_own ce3_len (by decide) ho).1);clear hb ho S3 d0 d1 d2 d3 d4 HCA;obtain ⟨-,-,⟨d0,d1,d2,d3,d4⟩,-⟩:=S4.out;by_cases he:e=0
 case neg =>
  have hne:(e != 0)=true:=by simpa using he
  clear he;go_wp2_with fail;go_ret;exact ⟨rfl,S4.out.1⟩
 subst he;by_cases hk1:k0<0
 ·go_wp2_with fail;go_ret;exact ⟨rfl,S4.out.1⟩
 by_cases hk2:(d.s.length:Int)≤k0
 ·go_wp2_with fail;go_ret;exact ⟨rfl,S4.out.1⟩
 obtain ⟨kk,hkk⟩:∃kk:Nat,k0=kk:=⟨k0.toNat,by omega⟩;subst hkk;have hkl:kk<d.s.length:=by omega
 have hnge:¬(d.s.length:Int)≤(kk:Int):=by omega
 clear hk1 hk2
 have HVE:Hid ((ve14 d).1=0∧L=cs12 d∧ba11 d=false):=by
  have h1:(ve14 d).1=0:=by rw [HX.out]
  have h2:=ve14_ok h1;rw [HX.out] at h2;injection h2 with h2 h4;injection h4 with h4 h5;exact ⟨h1,h5,(ro11_ok (ve14_zero.1 h1).2.2.2.1).1⟩
 have HCP:=zhy (r8copyw y d w4 S4.out.2.2.2.1 HG.out);go_wp2_with fail;refine HCP.out.mono ?_;rintro r w5 ⟨T,rfl,hqT,hoT,hb⟩;obtain ⟨TG,tgc,TP,tpc,TA,tc,TZ⟩:=T;obtain ⟨M,hM⟩:∃M,w5.heap.size=M:=⟨_,rfl⟩;have hlo:w4.heap.size≤M:=by rw [←hM];exact hb.size
 have HA0:Hid (Aw w4.heap.size M M d (-1) (w5.alloc (dcel ⟨TG,tgc,TP,tpc,TA,tc,TZ⟩ d)) ⟨TG,tgc,TP,tpc,TA,tc,TZ⟩ d):=zhy (by
  have h1:=hqT.keep (new1 (a:=dcel ⟨TG,tgc,TP,tpc,TA,tc,TZ⟩ d));have h2:=hoT.keep (new1 (a:=dcel ⟨TG,tgc,TP,tpc,TA,tc,TZ⟩ d));have h3:=Db.new w5 ⟨TG,tgc,TP,tpc,TA,tc,TZ⟩ d;rw [hM] at h2 h3;exact ⟨h1,h2,h3,⟨rfl,rfl,rfl⟩,fun z z' h _ _=>(by omega),HG.out,Nat.le_refl _⟩)
 have HB0:Hid (Below w4.heap.size w4 (w5.alloc (dcel ⟨TG,tgc,TP,tpc,TA,tc,TZ⟩ d))):=zhy (hb.trans (new1.mono hb.size));have HLW:=zhy hlo;have hs40:=HBD.out.1;clear hqT hoT hb HCP d0 d1 d2 d3 d4;go_upto_region 9 with (fail);change Code.wp _ _ _ _ (w5.alloc (dcel ⟨TG,tgc,TP,tpc,TA,tc,TZ⟩ d));try rw [hM]
 generalize w5.alloc (dcel ⟨TG,tgc,TP,tpc,TA,tc,TZ⟩ d)=w6 at HA0 HB0 ⊢;clear hM hlo;go_wp2_with fail;go_loopw [8] (fun iv wq=>∃(j:Nat) (ZZ:List Me) (dd:Md),j≤d.s.length∧iv=.int .i64 j∧Hid (Aw w4.heap.size M M d (-1) wq ⟨TG,tgc,TP,tpc,TA,tc,ZZ⟩ dd)∧Hid (Dn12 d dd Nm14 j)∧Hid (dd.g=d.g∧dd.p=d.p∧dd.i=d.i)∧Hid (Below w4.heap.size w4 wq)) (fun iv _=>d.s.length-(intOf iv).toNat)
 case atStart=>exact ⟨0,TZ,d,by omega,rfl,HA0,zhy (Dn12.zero d _),zhy ⟨rfl,rfl,rfl⟩,HB0⟩
 case round =>
  clear HA0 HB0;obtain ⟨j,ZZ,dd,hj,rfl,HA,HD,HGP,HB⟩:=hrel;rename World=>wq;have hl:=HD.out.len;obtain ⟨y0,y1,y2,y3,y4⟩:=HA.out.db;dsimp only at y1 y2 y3;rw [hl] at y3;by_cases h1:j<d.s.length
  ·obtain ⟨g,u6,ka,hAG,hg1,hg2,-,hf6,hka⟩:=HA.out.ow.2.2.1.cellB (i:=j*8+6) (by rw [hl];omega);obtain ⟨ga,u4,kb,hA4,-,-,-,hf4,-⟩:=HA.out.ow.2.2.1.cellB (i:=j*8+4) (by rw [hl];omega);obtain ⟨gb,u5,kc,hA5,-,-,-,hf5,-⟩:=HA.out.ow.2.2.1.cellB (i:=j*8+5) (by rw [hl];omega);dsimp only at hAG hA4 hA5;subst hAG;injection hA4 with hA4;injection hA4 with hA4;subst hA4;injection hA5 with hA5;injection hA5 with hA5;subst hA5;obtain ⟨z,hz⟩:∃z,ZZ[j]?=some z:=⟨_,zg7 (by have h:=HA.out.hq.zlen;dsimp only at h;rw [h,hl];exact h1)⟩;obtain ⟨hat,-⟩:=HA.out.at812 (j:=j) rfl hz;obtain ⟨-,-,-,-,c4,c5,c6,-⟩:=hat;dsimp only at c4 c5 c6;obtain ⟨Z3,hZ3,h3⟩:=HA.out.num12 rfl hka hg2 hz (1048576,256,1024) (by dsimp only;omega) (by dsimp only;omega) (by dsimp only;omega);obtain ⟨q1,q2⟩:=HA.out.set12 hz (1048576,256,1024);dsimp only at h3 q2;rw [←hZ3] at q2;have HD3:Hid (Dn12 d { dd with s:=Z3.map ze } Nm14 (j+1)):=zhy (HD.out.step q1 q2 rfl);have HGP3:Hid (({ dd with s:=Z3.map ze }:Md).g=d.g∧({ dd with s:=Z3.map ze }:Md).p=d.p∧({ dd with s:=Z3.map ze }:Md).i=d.i):=zhy HGP.out;clear hl hZ3 q1 q2;go_upto_region 12 with (fail);go_region;have HA3:Hid (Aw w4.heap.size M M d (-1) (((wq.setCell ⟨g,j*8+4,none⟩ (.int .i64 1048576)).setCell ⟨g,j*8+5,none⟩ (.int .i64 256)).setCell ⟨g,j*8+6,none⟩ (.int .i64 1024)).drew ⟨TG,tgc,TP,tpc,(some ⟨g,0,none⟩),tc,Z3⟩ { dd with s:=Z3.map ze }):=zhy (h3.keep (below_draws (Below.refl _ _) 1));have HB3:Hid (Below w4.heap.size w4 (((wq.setCell ⟨g,j*8+4,none⟩ (.int .i64 1048576)).setCell ⟨g,j*8+5,none⟩ (.int .i64 256)).setCell ⟨g,j*8+6,none⟩ (.int .i64 1024)).drew):=zhy (below_draws (((HB.out.setCell (p:=⟨g,j*8+4,none⟩) hg1 _).setCell (p:=⟨g,j*8+5,none⟩) hg1 _).setCell (p:=⟨g,j*8+6,none⟩) hg1 _) 1);clear h3 c4 c5 c6 y0 y1 y2 y3 y4 hf4 hf5 hf6 hka HA HB hz HD HGP;generalize (((wq.setCell ⟨g,j*8+4,none⟩ (.int .i64 1048576)).setCell ⟨g,j*8+5,none⟩ (.int .i64 256)).setCell ⟨g,j*8+6,none⟩ (.int .i64 1024)).drew=wA at HA3 HB3 ⊢;go_wp2_with fail;go_roundw
   case rel=>exact ⟨j+1,Z3,{ dd with s:=Z3.map ze },by omega,by go_num,HA3,HD3,HGP3,HB3⟩
   case measure=>simp [intOf];omega
  ·have hjl:d.s.length≤j:=by omega
   have HJL:=zhy hjl;have h1i:¬(j:Int)<(d.s.length:Int):=by omega
   have HS4:=zhy (fun wx (h:Below w4.heap.size w4 wx)=>S4.out.call h)
   have HV1:Hid (ve14 dd=(0,-1,L)):=by
    rw [Hid,dn14_ve HD.out hjl HGP.out.1 HGP.out.2.1 HGP.out.2.2 HVE.out.1,HVE.out.2.1]
   have HV2:Hid ((ve14 (nr14 dd kk)).1=wi14 (wf14 d kk d.s.length)):=nr14_ve HD.out hjl HGP.out.1 HGP.out.2.1 HGP.out.2.2 HVE.out.1 hkl;have HDL:=zhy hl;clear hjl hl;go_upto_region 13 with (fail);clear y0 y1 y2 y3 y4;obtain ⟨y0,y1,y2,y3,y4⟩:=HA.out.db;dsimp only at y1 y2 y3
   have HC2:Hid (Calls Tryz.prog 12 #[dv ⟨TG,tgc,TP,tpc,TA,tc,ZZ⟩ dd] wq fun r w'=>Ac14 wq w' L 0 r):=by
    have h:=accept14_v ⟨TG,tgc,TP,tpc,TA,tc,ZZ⟩ dd wq (HS4.out _ HB.out).2.2.2.2.1 HA.out.hq HA.out.qg;rw [HV1.out] at h;exact h
   go_wp2_with fail;refine HC2.out.mono ?_;rintro r w7 ⟨A2,c2,rfl,ho,hb⟩;have HA7:=zhy (HA.out.keep hb);have HB7:=zhy (below_on HB.out hb);have HRG:=zhy (Rg.of_own ce3_len (by decide) ho).1;clear HC2 ho hb HA HB y0 y1 y2 y3 y4
   have HLL:Hid (L.length≤40):=by
    rw [HVE.out.2.1,cs12_len];exact HBD.out.1
   have S7:=zhy ((HS4.out _ HB7.out).add (fRg ce3 3 A2 c2 L) HRG.out);have HCS:=zhy (r12same_v A2 A1 c2 c1 L.length L w7 S7.out.2.1 S7.out.2.2.1 rfl (by have:=HLL.out;omega));go_wp2_with fail;refine HCS.out.mono ?_;rintro r w8 ⟨rfl,hb⟩;have HA8:=zhy (HA7.out.keep hb);have HB8:=zhy (below_on HB7.out hb);clear HCS hb HA7 HB7 S7 HRG;obtain ⟨g,u3,ka,hAG,hg1,hg2,hc3,hf3,hka⟩:=HA8.out.ow.2.2.1.cellB (i:=kk*8+3) (by rw [HDL.out];omega);dsimp only at hAG;subst hAG;obtain ⟨z,hz⟩:∃z,ZZ[kk]?=some z:=⟨_,zg7 (by have h:=HA8.out.hq.zlen;dsimp only at h;rw [h,HDL.out];exact hkl)⟩;obtain ⟨hat,-⟩:=HA8.out.at812 (j:=kk) rfl hz;obtain ⟨-,-,-,c3,-⟩:=hat;dsimp only at c3;obtain ⟨Z4,h4⟩:=aw14_q HA8.out rfl hka hg2 hz;have HA9:=zhy h4;have HB9:=zhy (HB8.out.setCell (p:=⟨g,kk*8+3,none⟩) hg1 (.bool false));have hkd:(kk:Int)<(dd.s.length:Int):=by rw [HDL.out];omega
   obtain ⟨y0,y1,y2,y3,y4⟩:=HA8.out.db;dsimp only at y1 y2 y3;clear h4 hz hka;go_upto_region 17 with (fail);generalize w8.setCell ⟨g,kk*8+3,none⟩ (.bool false)=w9 at HA9 HB9 ⊢;clear HA8 HB8 hc3 hf3 c3 y0 y1 y2 y3 y4 hkd;go_wp2_with fail;go_loopw [11,12] (fun u iv wq=>∃i:Nat,i≤d.s.length∧iv=.int .i64 i∧u=.int .i64 (wi14 (wf14 d kk i))∧Hid (Aw w4.heap.size M M d (-1) wq ⟨TG,tgc,TP,tpc,some ⟨g,0,none⟩,tc,Z4⟩ (nr14 dd kk))∧Hid (Below w4.heap.size w4 wq)) (fun _ iv _=>d.s.length-(intOf iv).toNat)
   case atStart=>exact ⟨0,by omega,rfl,rfl,HA9,HB9⟩
   case round =>
    clear HA9 HB9;obtain ⟨i,hi,rfl,rfl,HA,HB⟩:=hrel;rename World=>wr;have SR:=zhy (HS4.out _ HB.out);by_cases hin:i<d.s.length
    ·obtain ⟨T,hT⟩:∃T,wh11 d i=T:=⟨_,rfl⟩;obtain ⟨Lw,e9⟩:=T
     have HHS:Hid (Lw.contains (kk:Int)=cl11 (co11 d i) kk∧e9=0∧Lw.length≤40):=by
      have h1:=wh14_has HVE.out.2.2 hin hkl;have h2:=wh11_ok HVE.out.2.2 hin;rw [hT] at h1 h2;injection h2 with h2 h3;refine ⟨h1,h3,?_⟩;rw [h2,List.length_map];have:=List.length_filter_le (e11 d i) (List.range d.s.length);rw [List.length_range] at this;omega
     have HWH:Hid (∀wq,Hq wq y d→Calls Tryz.prog 30 #[dv y d,.int .i64 i] wq fun r w'=>∃A' c',r=.returned (.tuple #[.slice A' Lw.length c',.int .i64 e9])∧Rn w' A' c' Lw∧Below wq.heap.size wq w'):=zhy fun wq h=>by
      refine (whom11_v y d i wq h (by omega) (fun z hz=>by have:=HBD.out.2 z hz;omega)).mono ?_;rintro r w' ⟨A',c',rfl,ho,hb⟩;rw [hT] at ho ⊢;exact ⟨A',c',rfl,(Rn.of_own ho).1,hb⟩
     clear hT;obtain ⟨-,-,⟨d0,d1,d2,d3,d4⟩,-⟩:=SR.out;go_wp2_with fail;refine (HWH.out _ SR.out.2.2.2.1).mono ?_;rintro r wa ⟨A5,c5,rfl,hrn,hb⟩;have HAA:=zhy (HA.out.keep hb);have HBA:=zhy (below_on HB.out hb);have HRN:=zhy hrn;clear hrn hb HA HB SR d0 d1 d2 d3 d4 HWH;have hl9:Lw.length≤40:=HHS.out.2.2;obtain ⟨v0,hv0⟩:∃v0,wf14 d kk i=v0:=⟨_,rfl⟩;have HV0:=zhy hv0;rw [hv0];clear hv0;obtain ⟨rq,hrq⟩:∃rq,re13 d i=rq:=⟨_,rfl⟩;have HRQ:=zhy hrq;clear hrq;go_wp2_with fail;go_loopw [11,15] (fun u nv wq=>∃(n:Nat) (v:Bool),n≤Lw.length∧nv=.int .i64 n∧u=.int .i64 (wi14 v)∧Hid (v=(v0||((Lw.take n).contains (kk:Int)&&(rq&&!((i:Int)==(kk:Int))))))∧Hid (Aw w4.heap.size M M d (-1) wq ⟨TG,tgc,TP,tpc,some ⟨g,0,none⟩,tc,Z4⟩ (nr14 dd kk))∧Hid (Below w4.heap.size w4 wq)∧Hid (Rn wq A5 c5 Lw)) (fun _ nv _=>Lw.length-(intOf nv).toNat)
     case atStart=>exact ⟨0,v0,by omega,rfl,rfl,zhy (by simp),HAA,HBA,HRN⟩
     case round =>
      clear HAA HBA HRN;obtain ⟨n,v,hn,rfl,rfl,HV,HAA,HBA,HRN⟩:=hrel;rename World=>wb;by_cases hnl:n<Lw.length
      ·obtain ⟨x,hx⟩:∃x,Lw[n]?=some x:=⟨_,zg7 hnl⟩;obtain ⟨a5,hA5,hcx⟩:=HRN.out.at_ hx;have HTK:=zhy (has14_take (k:=(kk:Int)) hx);have SB:=zhy (HS4.out _ HBA.out);obtain ⟨-,-,⟨d0,d1,d2,d3,d4⟩,-⟩:=SB.out;obtain ⟨ad,hA,hat,-⟩:=SB.out.2.2.2.1.2.2.1.at_ (i:=i) (by rw [HZL.out];exact hin);have hza:=HZA.out i (by rw [HZL.out];exact hin) hin;obtain ⟨-,-,-,a3,-⟩:=hat
       have hq3:(y.Z[i]'(by rw [HZL.out];exact hin)).m.q=rq:=by
        rw [←HRQ.out,re13,hd13,zg7 hin,Option.getD_some,hza]
       rw [hq3] at a3;rw [hA] at d3;clear hza hq3 hA hx;subst hA5;obtain ⟨v2,hv2⟩:∃v2,(v0||((Lw.take (n+1)).contains (kk:Int)&&(rq&&!((i:Int)==(kk:Int)))))=v2:=⟨_,rfl⟩;have HV2:=zhy hv2;clear hv2;by_cases hxk:x=(kk:Int)
       ·subst hxk;by_cases hik:i=kk
        ·subst hik
         have e2:v2=v:=by
          rw [←HV2.out,HV.out];simp
         cases rq with
         | false =>
          go_wp2_with fail;go_roundw
          case rel=>exact ⟨n+1,v,by omega,by go_num,rfl,zhy (by rw [←e2,←HV2.out]),HAA,HBA,HRN⟩
          case measure=>simp [intOf];omega
         | true =>
          go_wp2_with fail;go_roundw
          case rel=>exact ⟨n+1,v,by omega,by go_num,rfl,zhy (by rw [←e2,←HV2.out]),HAA,HBA,HRN⟩
          case measure=>simp [intOf];omega
        ·have hne:((i:Int) != (kk:Int))=true:=by simp;omega
         have hnq:((i:Int)==(kk:Int))=false:=by simp;omega
         cases rq with
         | false =>
          have e2:v2=v:=by
           rw [←HV2.out,HV.out];simp
          clear hik hnq;go_wp2_with fail;go_roundw
          case rel=>exact ⟨n+1,v,by omega,by go_num,rfl,zhy (by rw [←e2,←HV2.out]),HAA,HBA,HRN⟩
          case measure=>simp [intOf];omega
         | true =>
          have e2:v2=true:=by
           rw [←HV2.out,HTK.out,hnq];simp
          clear hik hnq;go_wp2_with fail;go_roundw
          case rel=>exact ⟨n+1,true,by omega,by go_num,rfl,zhy (by have h:=HV2.out;rw [e2] at h;exact h.symm),HAA,HBA,HRN⟩
          case measure=>simp [intOf];omega
       ·have hxb:(x==(kk:Int))=false:=by simpa using hxk
        have e2:v2=v:=by
         rw [←HV2.out,HV.out,HTK.out,hxb,Bool.or_false]
        clear hxk;go_wp2_with fail;go_roundw
        case rel=>exact ⟨n+1,v,by omega,by go_num,rfl,zhy (by rw [←e2,←HV2.out]),HAA,HBA,HRN⟩
        case measure=>simp [intOf];omega
      ·have hnn:Lw.length=n:=by omega
       have hni:¬(n:Int)<(Lw.length:Int):=by omega
       have HW2:Hid (wf14 d kk (i+1)=v):=by
        have h1:=HV.out;rw [←hnn,List.take_length,HHS.out.1] at h1;rw [Hid,wf14_succ,HV0.out,HRQ.out];exact h1.symm
       clear hnn;go_wp2_with fail;go_roundw
       case rel=>exact ⟨i+1,by omega,by go_num,by rw [HW2.out],HAA,HBA⟩
       case measure=>simp [intOf];omega
    ·have hie:d.s.length=i:=by omega
     have hni:¬(i:Int)<(d.s.length:Int):=by omega
     have HM:Hid (Calls Tryz.prog 13 #[dv ⟨TG,tgc,TP,tpc,some ⟨g,0,none⟩,tc,Z4⟩ (nr14 dd kk)] wr fun r w'=>r=.returned (.int .i64 (wi14 (wf14 d kk i)))∧Below wr.heap.size wr w'):=by
      have h:=vmay14_v ⟨TG,tgc,TP,tpc,some ⟨g,0,none⟩,tc,Z4⟩ (nr14 dd kk) wr SR.out.2.2.2.2.1 HA.out.hq HA.out.qg;rw [HV2.out,hie] at h;exact h
     clear hie;generalize wi14 (wf14 d kk i)=want at HM ⊢;obtain ⟨-,-,⟨d0,d1,d2,d3,d4⟩,-⟩:=SR.out;obtain ⟨y0,y1,y2,y3,y4⟩:=HA.out.db;dsimp only at y1 y2 y3;go_wp2_with fail;refine HM.out.mono ?_;rintro r wz ⟨rfl,hb⟩;have SZ:=zhy (SR.out.call hb);clear hb;have hww:(want==want)=true:=by simp
     go_wp2_with fail;go_ret;exact ⟨rfl,SZ.out.1⟩
end Go.Proofs.YtnjgkkoiamiaaaaGreatDoor
