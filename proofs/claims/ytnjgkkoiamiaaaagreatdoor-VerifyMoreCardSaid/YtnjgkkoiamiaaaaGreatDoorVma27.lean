import Derived.Test.YtnjgkkoiamiaaaaGreatDoorVma1
import Derived.Test.YtnjgkkoiamiaaaaGreatDoorVma13
import Derived.Test.YtnjgkkoiamiaaaaGreatDoorVma26
import Derived.Test.YtnjgkkoiamiaaaaGreatDoorVma10
import Derived.Test.YtnjgkkoiamiaaaaGreatDoorVma25
import Derived.Test.YtnjgkkoiamiaaaaGreatDoorVma24
import Derived.OwnWalk
import Derived.Laws.OwnMore
set_option maxRecDepth 100000
set_option maxHeartbeats 16000000
set_option linter.unusedSimpArgs false
set_option linter.unusedVariables false
namespace Go.Proofs.YtnjgkkoiamiaaaaGreatDoor
open Go.RowKit
def zme:Me:=⟨Mc.zero,Mh.zero,[]⟩
theorem made_cem (K:Nat):(madeCells #[.slice none 0 0,.slice none 0 0,.int .u8 0,.bool false,.int .i64 0,.int .i64 0,.int .i64 0,.slice none 0 0] (K*8)).toList=cem (List.replicate K zme):=by
 apply List.ext_getElem?;intro i;by_cases hi:i<K*8
 ·have h1:(List.replicate K zme)[i / 8]?=some zme:=by rw [List.getElem?_replicate,if_pos (by omega)]
  have h2:=cem_at h1 (i % 8) (by omega);rw [show i / 8*8+i % 8=i by omega] at h2;rw [h2];have h3:i % 8<8:=by omega
  simp [madeCells,hi];generalize i % 8=r at h3;have h4:r=0∨r=1∨r=2∨r=3∨r=4∨r=5∨r=6∨r=7:=by omega
  rcases h4 with rfl | rfl | rfl | rfl | rfl | rfl | rfl | rfl<;>rfl
 ·rw [List.getElem?_eq_none (by rw [Array.length_toList,size_madeCells];omega),List.getElem?_eq_none (by rw [length_cem,List.length_replicate];omega)]
theorem qms_no {l:List Int} {q n e:Int} {m:Mh} (h:rdQ l q=(m,n,e)) (h0:e≠0) (k:Nat):qms l (k+1) q=([],0,e):=by
 simp only [qms,h];simp [h0]
theorem qms_no2 {l:List Int} {q n f:Int} {t:Nat} {m:Mh} {L:List Ins} (h:rdQ l q=(m,n,0)) (h1:rdC l n=(f,L,t)) (h0:f≠0) (k:Nat):qms l (k+1) q=([],0,f):=by
 simp only [qms,h,h1];simp [h0]
theorem qms_yes {l:List Int} {q n:Int} {t:Nat} {m:Mh} {L:List Ins} (h:rdQ l q=(m,n,0)) (h1:rdC l n=(0,L,t)) (k:Nat):qms l (k+1) q=apM [(m,L)] (qms l k t):=by
 simp only [qms,h,h1];simp
theorem apM_no {K:List Mz} {e:Int} (h:e≠0):apM K ([],0,e)=([],0,e):=by rw [apM,if_neg h]
theorem cem_code (T R:List Me) (x:Mc) (m:Mh) (A6:Option Addr) (c6:Nat) (L:List Ins) (k0:List Ins) :
  (cem ((T++[⟨x,m,k0⟩])++R)).set (T.length*8+7) (.slice A6 L.length c6)=cem ((T++[⟨⟨x.A,x.c,x.B,x.d,A6,L.length,c6⟩,m,L⟩])++R):=by
 have e:∀z,cem ((T++[z])++R)=cem T++(ce8 z++cem R):=fun z=>by simp [cem]
 have hl:=length_cem T
 rw [e,e,List.set_append_right _ _ (by rw [hl];omega),hl,show T.length*8+7-T.length*8=7 by omega]
 rfl
theorem rms_v (A:Option Addr) (c n:Nat) (l:List Int) (p:Int) (K:Nat) (w:World) (hw:fWM.p w) (hr:Rd w A c l) (hn:l.length=n) (hk:K≤16) :
  Calls Tryz.prog 140 #[.slice A n c,.int .i64 p,.int .i64 K] w fun e w'=>∃A' c' Z,e=.returned (.tuple #[.slice A' (qms l K p).1.length c',.int .i64 (qms l K p).2.1,.int .i64 (qms l K p).2.2]) ∧
   w'.ownsRow w.heap.size 50 8 (.slice A' (qms l K p).1.length c') (qms l K p).1.length (cem Z)∧(∀z∈Z,Wz w' w.heap.size z)∧Z.map ze=(qms l K p).1∧Below w.heap.size w w':=by
 subst hn
 have hlen:=hr.len
 have S00:Hid (∀w',Below w.heap.size w w'→Rd w' A c l∧fWM.p w'):=zhy fun w' hb=>⟨hr.keep hb,fWM.keep w w' hw hb⟩
 obtain ⟨R,hR⟩:∃R,qms l K p=R:=⟨_,rfl⟩
 have HI:Hid (R=apM [] (qms l (K-0) p)):=by rw [Hid,←hR];exact (apM_nil _ (qms_err l _ _)).symm
 rw [hR]
 clear hr hw hR
 have hinfo:=Tryz.infoM
 rw [Option.map_eq_some_iff] at hinfo
 obtain ⟨i0,hi,hz⟩:=hinfo
 simp only [Prod.mk.injEq] at hz
 obtain ⟨hz0,hz1,hz2⟩:=hz
 go_enter Tryz.func140,Tryz.ntmps140
 go_wp2_with (at_make;refine wpList_make_full _ rfl _ _ 23 rfl w.heap.size 50 i0 _ 8 Tryz.underlying23 hi hz0 hz1 .i64 .i64 K K K rfl rfl rfl rfl (by rw [hz2];omega) (by unfold maxLen;omega) (Nat.le_refl _) ?_)
 intro w2 ho2 hg2
 have HO2:Hid (w2.ownsRow w.heap.size 50 8 (.slice (some ⟨w.heap.size,0,none⟩) K K) K (cem ([]++List.replicate K zme))):=by
  rw [Hid,List.nil_append,←made_cem];exact ho2
 have HB2:Hid (Below w.heap.size w w2):=zhy ⟨hg2.os,hg2.tape,hg2.output,hg2.size,fun i hi=>hg2.block i hi (by simp)⟩
 clear ho2 hg2 hi hz0 hz1 hz2 i0
 generalize hg:w.heap.size=g at *
 have hgw:=zhy hg
 clear hg
 go_wp2_with fail
 go_loopw [6,7,15] (fun r o i wr=>∃(j:Nat) (q:Int) (T Y:List Me),j≤K∧i=.int .i64 j∧o=.int .i64 q∧r=.slice (some ⟨g,0,none⟩) K K∧Hid (R=apM (T.map ze) (qms l (K-j) q)∧T.length=j∧Y.length=K-j)∧Hid (wr.ownsRow g 50 8 (.slice (some ⟨g,0,none⟩) K K) K (cem (T++Y))∧∀z∈T,Wz wr g z)∧Hid (Below g w wr)) (fun _ _ i _=>K-(intOf i).toNat)
 case atStart=>exact ⟨0,p,[],List.replicate K zme,by omega,rfl,rfl,rfl,zhy ⟨HI.out,rfl,by rw [List.length_replicate];rfl⟩,zhy ⟨HO2.out,fun z hz=>(by cases hz)⟩,HB2⟩
 case round =>
  obtain ⟨j,q,T,Y,hj,rfl,rfl,rfl,HX,HO,HB⟩:=hrel
  clear HI HO2 HB2
  by_cases h1:j<K
  ·obtain ⟨m,n2,e2,hrd⟩:∃m n2 e2,rdQ l q=(m,n2,e2):=⟨_,_,_,rfl⟩
   have HRD:=zhy hrd
   have HK:=fun w hr hw=>zhy (mreadw_v A c l.length l q (m,n2,e2) w hr rfl hw hrd)
   clear hrd
   match Y,HX,HO with
   | [],HX,HO=>exact absurd HX.out.2.2 (by simp;omega)
   | y::Y,HX,HO =>
   go_wp2_with fail
   refine (HK _ (S00.out _ HB.out).1 (S00.out _ HB.out).2.2).out.mono ?_
   rintro e w3 ⟨⟨XA,xc,XB,xd,XD,xk,xe⟩,rfl,⟨hxk,hxD,hxe⟩,⟨hoA,hoB⟩,hhd,hb3⟩
   dsimp only at hxk hxD hxe hoA hoB
   subst hxk hxD hxe
   have HHD:=zhy hhd
   have HOA:=zhy (own_base hoA (show g≤wr.heap.size from hgw.out▸HB.out.size))
   have HOB:=zhy (own_base hoB (show g≤wr.heap.size from hgw.out▸HB.out.size))
   have HB3:=zhy (HB.out.trans (hb3.mono (show g≤wr.heap.size from hgw.out▸HB.out.size)))
   have HO3:=zhy (own_below HO.out.1 hb3 (Nat.le_refl _))
   have HT3:Hid (∀z∈T,Wz w3 g z):=zhy (fun z hz=>(HO.out.2 z hz).keep hb3)
   clear hhd hoA hoB hb3 HK HB HO
   have hrow:=row_at HO3.out HX.out.2.1 (by have h2:=HX.out.2.1;have h3:=HX.out.2.2;simp at h3 ⊢;omega)
   obtain ⟨hr1,hr2⟩:=hrow
   have x0:=hr1 0 _ (by omega) rfl
   rw [Nat.add_zero] at x0
   have x1:=hr1 1 _ (by omega) rfl
   have x2:=hr1 2 _ (by omega) rfl
   have x3:=hr1 3 _ (by omega) rfl
   have x4:=hr1 4 _ (by omega) rfl
   have x5:=hr1 5 _ (by omega) rfl
   have x6:=hr1 6 _ (by omega) rfl
   have x7:=hr1 7 _ (by omega) rfl
   have f0:=hr2 0 (by omega)
   rw [Nat.add_zero] at f0
   have f1:=hr2 1 (by omega)
   have f2:=hr2 2 (by omega)
   have f3:=hr2 3 (by omega)
   have f4:=hr2 4 (by omega)
   have f5:=hr2 5 (by omega)
   have f6:=hr2 6 (by omega)
   have f7:=hr2 7 (by omega)
   clear hr1 hr2
   have HTL:=zhy HX.out.2.1
   obtain ⟨⟨kB,hBk⟩,-⟩:=own_bk HO3.out
   have HO4:=zhy (st8_own HO3.out ⟨⟨XA,xc,XB,xd,none,0,0⟩,m,[]⟩)
   have key:∀v:World,Bk v g 50 kB→∀j u,Bk (v.setCell ⟨g,j,none⟩ u) g 50 kB:=fun v hv j u=>hv.set g j u
   have HT4:Hid (∀z∈T,Wz (st8 w3 g (T.length*8) ⟨⟨XA,xc,XB,xd,none,0,0⟩,m,[]⟩) g z):=zhy (fun z hz=>(st8_keep (p:=fun v=>Wz v g z∧Bk v g 50 kB) ⟨HT3.out z hz,hBk⟩ (fun v j u hv=>⟨hv.1.tag hv.2 j u,key v hv.2 j u⟩) _ _).1)
   have HA4:=zhy (st8_keep (p:=fun v=>v.ownsRow g 5 1 (.slice XA m.a.length xc) m.a.length (cel m.a)∧Bk v g 50 kB) ⟨HOA.out,hBk⟩ (fun v j u hv=>⟨own_tag hv.1 hv.2 (by decide) j u,key v hv.2 j u⟩) (T.length*8) ⟨⟨XA,xc,XB,xd,none,0,0⟩,m,[]⟩).1
   have HB4:=zhy (st8_keep (p:=fun v=>v.ownsRow g 5 1 (.slice XB m.l.length xd) m.l.length (cel m.l)∧Bk v g 50 kB) ⟨HOB.out,hBk⟩ (fun v j u hv=>⟨own_tag hv.1 hv.2 (by decide) j u,key v hv.2 j u⟩) (T.length*8) ⟨⟨XA,xc,XB,xd,none,0,0⟩,m,[]⟩).1
   have HE4:=zhy (st8_keep (p:=fun v=>Below g w v) HB3.out (fun v j u hv=>hv.setCell (Nat.le_refl _) u) (T.length*8) ⟨⟨XA,xc,XB,xd,none,0,0⟩,m,[]⟩)
   rw [HTL.out] at HO4 HT4 HA4 HB4 HE4
   clear HO3 HT3 HOA HOB HB3 hBk key
   go_upto_region 7 with (fail)
   obtain ⟨w4,hw4⟩:∃w4,st8 w3 g (j*8) ⟨⟨XA,xc,XB,xd,none,0,0⟩,m,[]⟩=w4:=⟨_,rfl⟩
   rw [hw4] at HO4 HT4 HA4 HB4 HE4
   simp only [st8] at hw4
   rw [hw4]
   clear hw4 x0 x1 x2 x3 x4 x5 x6 x7 f0 f1 f2 f3 f4 f5 f6 f7
   by_cases he2:e2=0
   ·subst he2
    obtain ⟨f,L,t,hrc⟩:∃f L t,rdC l n2=(f,L,t):=⟨_,_,_,rfl⟩
    have HRC:=zhy hrc
    have HK2:=fun w hr=>zhy (creadw_any A c l.length l n2 w hr rfl)
    rw [hrc] at HK2
    dsimp only at HK2
    clear hrc
    go_wp2_with fail
    refine (HK2 _ (S00.out _ HE4.out).1).out.mono ?_
    rintro e w5 ⟨A6,c6,rfl,hri,hoD,hb5⟩
    have HRI:=zhy hri.1
    have HD5:=zhy (own_base hoD (show g≤w4.heap.size from hgw.out▸HE4.out.size))
    have HE5:=zhy (HE4.out.trans (hb5.mono (show g≤w4.heap.size from hgw.out▸HE4.out.size)))
    have HO5:=zhy (own_below HO4.out hb5 (Nat.le_refl _))
    have HA5:=zhy (own_below HA4.out hb5 (Nat.le_refl _))
    have HB5:=zhy (own_below HB4.out hb5 (Nat.le_refl _))
    have HT5:Hid (∀z∈T,Wz w5 g z):=zhy (fun z hz=>(HT4.out z hz).keep hb5)
    clear hri hoD hb5 HK2 HE4 HO4 HA4 HB4 HT4
    have hO5b:=HO5.out
    rw [List.append_assoc,List.singleton_append] at hO5b
    have hrow:=row_at hO5b HX.out.2.1 (by have h2:=HX.out.2.1;have h3:=HX.out.2.2;simp at h3 ⊢;omega)
    obtain ⟨hr1,hr2⟩:=hrow
    have x7:=hr1 7 _ (by omega) rfl
    have f7:=hr2 7 (by omega)
    clear hr1 hr2
    obtain ⟨⟨kB,hBk⟩,-⟩:=own_bk hO5b
    clear hO5b
    have HO6:=zhy (HO5.out.stored (j*8+7) (.slice A6 L.length c6)).1
    have hcc:=cem_code T Y ⟨XA,xc,XB,xd,none,0,0⟩ m A6 c6 L []
    rw [HTL.out] at hcc
    rw [hcc] at HO6
    clear hcc
    have HT6:Hid (∀z∈T,Wz (w5.setCell ⟨g,j*8+7,none⟩ (.slice A6 L.length c6)) g z):=zhy (fun z hz=>(HT5.out z hz).tag hBk _ _)
    have HZ6:Hid (Wz (w5.setCell ⟨g,j*8+7,none⟩ (.slice A6 L.length c6)) g ⟨⟨XA,xc,XB,xd,A6,L.length,c6⟩,m,L⟩):=
     zhy ⟨⟨HHD.out.1.byt,HHD.out.2.1.byt,HHD.out.2.2,HRI.out,rfl⟩,own_tag HA5.out hBk (by decide) _ _,own_tag HB5.out hBk (by decide) _ _,own_tag HD5.out hBk (by decide) _ _⟩
    have HE6:=zhy (HE5.out.setCell (p:=⟨g,j*8+7,none⟩) (Nat.le_refl _) (.slice A6 L.length c6))
    clear HO5 HA5 HB5 HD5 HT5 HE5 HHD HRI hBk
    go_upto_region 10 with (fail)
    generalize w5.setCell ⟨g,j*8+7,none⟩ (.slice A6 L.length c6)=w6 at HO6 HT6 HZ6 HE6 ⊢
    clear x7 f7
    by_cases hf:f=0
    ·subst hf
     have HX6:Hid (R=apM ((T++[(⟨⟨XA,xc,XB,xd,A6,L.length,c6⟩,m,L⟩:Me)]).map ze) (qms l (K-(j+1)) t)∧(T++[(⟨⟨XA,xc,XB,xd,A6,L.length,c6⟩,m,L⟩:Me)]).length=j+1∧Y.length=K-(j+1)):=by
      obtain ⟨i1,i2,i3⟩:=HX.out;refine ⟨?_,by rw [List.length_append,i2];rfl,by simp at i3;omega⟩;rw [i1,show K-j=(K-(j+1))+1 by omega,qms_yes HRD.out HRC.out,apM_apM,List.map_append];rfl
     have HW6:Hid (w6.ownsRow g 50 8 (.slice (some ⟨g,0,none⟩) K K) K (cem ((T++[⟨⟨XA,xc,XB,xd,A6,L.length,c6⟩,m,L⟩])++Y))∧∀z∈(T++[(⟨⟨XA,xc,XB,xd,A6,L.length,c6⟩,m,L⟩:Me)]),Wz w6 g z):=zhy ⟨HO6.out,fun z hz=>by
      rcases List.mem_append.1 hz with hz | hz
      ·exact HT6.out z hz
      ·rw [List.mem_singleton.1 hz];exact HZ6.out⟩
     clear HX HO6 HT6 HZ6 HRD HRC
     go_wp2_with fail
     go_roundw
     case rel=>exact ⟨j+1,t,T++[⟨⟨XA,xc,XB,xd,A6,L.length,c6⟩,m,L⟩],Y,by omega,by go_num,rfl,rfl,HX6,HW6,HE6⟩
     case measure=>simp [intOf];omega
    ·have HN:Hid (R=([],0,f)):=by
      rw [Hid,HX.out.1,show K-j=(K-(j+1))+1 by omega,qms_no2 HRD.out HRC.out hf,apM_no hf]
     clear HX HO6 HT6 HZ6 HRD HRC
     go_wp2_with fail
     go_ret3
     obtain rfl:=HN.out
     rw [hgw.out]
     exact ⟨none,0,[],rfl,World.ownsRow_nil _ _ _ _,fun z hz=>(by cases hz),rfl,HE6.out⟩
   ·have HN:Hid (R=([],0,e2)):=by
     rw [Hid,HX.out.1,show K-j=(K-(j+1))+1 by omega,qms_no HRD.out he2,apM_no he2]
    clear HX HO4 HT4 HA4 HB4 HRD
    go_wp2_with fail
    go_ret3
    obtain rfl:=HN.out
    rw [hgw.out]
    exact ⟨none,0,[],rfl,World.ownsRow_nil _ _ _ _,fun z hz=>(by cases hz),rfl,HE4.out⟩
  ·obtain rfl:j=K:=by omega
   have hY:Y=[]:=List.eq_nil_of_length_eq_zero (by have:=HX.out.2.2;omega)
   subst hY
   have HN:Hid (R=(T.map ze,q,0)):=by
    rw [Hid,HX.out.1,Nat.sub_self,qms,apM,if_pos rfl,List.append_nil]
   have HL:=zhy HX.out.2.1
   have HO8:=zhy HO.out
   rw [List.append_nil] at HO8
   clear HX HO
   go_wp2_with fail
   go_ret3
   obtain rfl:=HN.out
   rw [hgw.out]
   exact ⟨some ⟨g,0,none⟩,j,T,by simp [HL.out],by rw [List.length_map,HL.out];exact HO8.out.1,HO8.out.2,rfl,HB.out⟩
def Oq (w:World) (lo:Nat) (y:Ma) (d:Md):Prop:=
 w.ownsRow lo 139 3 (.slice y.G d.g.length y.gc) d.g.length (cev d.g)∧w.ownsRow lo 139 3 (.slice y.P d.p.length y.pc) d.p.length (cev d.p) ∧
 w.ownsRow lo 50 8 (.slice y.A d.s.length y.c) d.s.length (cem y.Z)∧(∀z∈y.Z,Wz w lo z)∧y.Z.map ze=d.s∧(∀x∈d.g,VlOk x)∧(∀x∈d.p,VlOk x)∧-9223372036854775808≤d.i∧d.i≤9223372036854775807
theorem Wz.low {w:World} {lo:Nat} {z:Me} (h:Wz w lo z) {q:Addr} (hp:q.block<lo) (u:Value):Wz (w.setCell q u) lo z:=⟨h.1,ownsRow_setCell_below h.2.1 hp u,ownsRow_setCell_below h.2.2.1 hp u,ownsRow_setCell_below h.2.2.2 hp u⟩
theorem Wz.base {w:World} {lo lo2:Nat} {z:Me} (h:Wz w lo z) (hl:lo2≤lo):Wz w lo2 z:=⟨h.1,own_base h.2.1 hl,own_base h.2.2.1 hl,own_base h.2.2.2 hl⟩
section
variable {w w' : World} {lo lo2 hi : Nat} {y : Ma} {d : Md}
theorem Oq.keep (h:Oq w lo y d) (hb:Below w.heap.size w w'):Oq w' lo y d:=⟨own_below h.1 hb (Nat.le_refl _),own_below h.2.1 hb (Nat.le_refl _),own_below h.2.2.1 hb (Nat.le_refl _),fun z hz=>(h.2.2.2.1 z hz).keep hb,h.2.2.2.2⟩
theorem Oq.low (h:Oq w lo y d) {q:Addr} (hp:q.block<lo) (u:Value):Oq (w.setCell q u) lo y d:=⟨ownsRow_setCell_below h.1 hp u,ownsRow_setCell_below h.2.1 hp u,ownsRow_setCell_below h.2.2.1 hp u,fun z hz=>(h.2.2.2.1 z hz).low hp u,h.2.2.2.2⟩
theorem Oq.hq (h:Oq w lo y d):Hq w y d:=⟨(Rv.of_own h.1 h.2.2.2.2.2.1).1,(Rv.of_own h.2.1 h.2.2.2.2.2.2.1).1,(Rm.of_own h.2.2.1 (fun z hz=>(h.2.2.2.1 z hz).ok)).1,h.2.2.2.2.1,h.2.2.2.2.2.2.2⟩
theorem Oq.ow (h:Oq w lo y d) (h1:lo2≤lo) (h2:w.heap.size≤hi):Ow w lo2 hi y d:=⟨Rs.of_own h.1 h1 h2,Rs.of_own h.2.1 h1 h2,Rs.of_own h.2.2.1 h1 h2,fun z hz=>(h.2.2.2.1 z hz).ow h1 h2⟩
theorem Oq.zero (w:World) (lo:Nat):Oq w lo Ma.zero Md.zero:=⟨World.ownsRow_nil _ _ _ _,World.ownsRow_nil _ _ _ _,World.ownsRow_nil _ _ _ _,fun z hz=>(by cases hz),rfl,fun x hx=>(by cases hx),fun x hx=>(by cases hx),by decide,by decide⟩
end
def Pc (w0:World) (N M B:Nat) (A:Option Addr) (c n:Nat) (l:List Int):Prop:=fWM.p w0∧Rd w0 A c l∧l.length=n∧w0.heap.size≤N∧N<M∧M<B
def Fs (w:World) (B:Nat):Prop:=B+5<w.heap.size ∧
 w.cell? ⟨B+5,0,none⟩=some (.func (.func 134) #[] #[.pointer (some ⟨B,0,none⟩),.pointer (some ⟨B+2,0,none⟩),.pointer (some ⟨B+1,0,none⟩)]) ∧
 w.cell? ⟨B+5,1,none⟩=some (.func (.func 136) #[] #[.pointer (some ⟨B,0,none⟩),.pointer (some ⟨B+2,0,none⟩),.pointer (some ⟨B+1,0,none⟩)]) ∧
 w.cell? ⟨B+5,2,none⟩=some (.func (.func 137) #[] #[.pointer (some ⟨B,0,none⟩),.pointer (some ⟨B+2,0,none⟩),.pointer (some ⟨B+3,0,none⟩)]) ∧
 w.cell? ⟨B+5,3,none⟩=some (.func (.func 139) #[] #[.pointer (some ⟨B,0,none⟩),.pointer (some ⟨B+2,0,none⟩),.pointer (some ⟨B+3,0,none⟩),.pointer (some ⟨B+1,0,none⟩)]) ∧
 w.cell? ⟨B+5,4,none⟩=some (.func (.func 141) #[] #[.pointer (some ⟨B,0,none⟩),.pointer (some ⟨B+2,0,none⟩),.pointer (some ⟨B+4,0,none⟩),.pointer (some ⟨B+1,0,none⟩)]) ∧
 w.cell? ⟨B+5,5,none⟩=some (.func (.func 143) #[] #[.pointer (some ⟨B+2,0,none⟩),.pointer (some ⟨B,0,none⟩)])
theorem Fs.keep {w w':World} {B:Nat} (h:Fs w B) (hb:Below w.heap.size w w'):Fs w' B:=by
 obtain ⟨h0,h1,h2,h3,h4,h5,h6⟩:=h;obtain ⟨hc,hf⟩:=bcell hb;exact ⟨Nat.lt_of_lt_of_le h0 hb.size,(hc _ _ h0).trans h1,(hc _ _ h0).trans h2,(hc _ _ h0).trans h3,(hc _ _ h0).trans h4,(hc _ _ h0).trans h5,(hc _ _ h0).trans h6⟩
theorem Fs.other {w:World} {B:Nat} (h:Fs w B) {p:Addr} (hp:p.block≠B+5) (v:Value):Fs (w.setCell p v) B:=by
 obtain ⟨h0,h1,h2,h3,h4,h5,h6⟩:=h;have ne:∀i,p≠(⟨B+5,i,none⟩:Addr):=fun i e=>hp (by rw [e]);refine ⟨by simpa using h0,?_,?_,?_,?_,?_,?_⟩<;>(rw [World.cell?_setCell_other _ _ _ _ (ne _)];assumption)
def Pq (w0 w:World) (N M B:Nat) (A:Option Addr) (c n:Nat) (l:List Int) (p k t:Int) (y:Ma) (d:Md):Prop:=
 Below w0.heap.size w0 w∧((Mf w N∧Db w N Ma.zero Md.zero)∧Fs w B)∧(Mf w M∧Db w M y d)∧C1 w B (.slice A n c)∧C1 w (B+1) (.pointer (some ⟨M,0,none⟩))∧C1 w (B+2) (.int .i64 p)∧C1 w (B+3) (.int .i64 k)∧C1 w (B+4) (.int .i64 t)∧Oq w (B+6) y d∧B+6≤w.heap.size∧w0.heap.size≤N∧N<M∧M<B
section
variable {w0 w w' : World} {N M B : Nat} {A : Option Addr} {c n : Nat} {l : List Int} {p k t : Int} {y : Ma} {d : Md}
theorem Pq.call (h:Pq w0 w N M B A c n l p k t y d) (hb:Below w.heap.size w w'):Pq w0 w' N M B A c n l p k t y d:=by
 obtain ⟨h1,h2,h3,h4,h5,h6,h7,h8,h9,h10,h11⟩:=h;exact ⟨h1.trans (hb.mono h1.size),⟨⟨h2.1.1.keep hb,h2.1.2.keep hb⟩,h2.2.keep hb⟩,⟨h3.1.keep hb,h3.2.keep hb⟩,h4.keep hb,h5.keep hb,h6.keep hb,h7.keep hb,h8.keep hb,h9.keep hb,Nat.le_trans h10 hb.size,h11⟩
theorem Pq.drew (h:Pq w0 w N M B A c n l p k t y d):Pq w0 w.drew N M B A c n l p k t y d:=h.call (below_draws (Below.refl _ _) 1)
theorem Pq.gw (h:Pq w0 w N M B A c n l p k t y d) (hc:Pc w0 N M B A c n l):fWM.p w:=fWM.keep _ _ hc.1 h.1
theorem Pq.rd (h:Pq w0 w N M B A c n l p k t y d) (hc:Pc w0 N M B A c n l):Rd w A c l:=hc.2.1.keep h.1
theorem Pq.setp (h:Pq w0 w N M B A c n l p k t y d) (hc:Pc w0 N M B A c n l) (q:Int):Pq w0 (w.setCell ⟨B+2,0,none⟩ (.int .i64 q)) N M B A c n l q k t y d:=by
 obtain ⟨h1,h2,h3,h4,h5,h6,h7,h8,h9,h10,h11⟩:=h;refine ⟨h1.setCell (show w0.heap.size≤B+2 by omega) _,⟨⟨h2.1.1.set _ _,h2.1.2.other (show B+2≠N by omega) _⟩,h2.2.other (show B+2≠B+5 by omega) _⟩,⟨h3.1.set _ _,h3.2.other (show B+2≠M by omega) _⟩,h4.other (show B+2≠B by omega) _,h5.other (show B+2≠B+1 by omega) _,h6.set _,h7.other (show B+2≠B+3 by omega) _,h8.other (show B+2≠B+4 by omega) _,h9.low (show B+2<B+6 by omega) _,by simpa using h10,h11⟩
theorem Pq.setk (h:Pq w0 w N M B A c n l p k t y d) (q:Int):Pq w0 (w.setCell ⟨B+3,0,none⟩ (.int .i64 q)) N M B A c n l p q t y d:=by
 obtain ⟨h1,h2,h3,h4,h5,h6,h7,h8,h9,h10,h11⟩:=h;refine ⟨h1.setCell (show w0.heap.size≤B+3 by omega) _,⟨⟨h2.1.1.set _ _,h2.1.2.other (show B+3≠N by omega) _⟩,h2.2.other (show B+3≠B+5 by omega) _⟩,⟨h3.1.set _ _,h3.2.other (show B+3≠M by omega) _⟩,h4.other (show B+3≠B by omega) _,h5.other (show B+3≠B+1 by omega) _,h6.other (show B+3≠B+2 by omega) _,h7.set _,h8.other (show B+3≠B+4 by omega) _,h9.low (show B+3<B+6 by omega) _,by simpa using h10,h11⟩
theorem Pq.sett (h:Pq w0 w N M B A c n l p k t y d) (q:Int):Pq w0 (w.setCell ⟨B+4,0,none⟩ (.int .i64 q)) N M B A c n l p k q y d:=by
 obtain ⟨h1,h2,h3,h4,h5,h6,h7,h8,h9,h10,h11⟩:=h;refine ⟨h1.setCell (show w0.heap.size≤B+4 by omega) _,⟨⟨h2.1.1.set _ _,h2.1.2.other (show B+4≠N by omega) _⟩,h2.2.other (show B+4≠B+5 by omega) _⟩,⟨h3.1.set _ _,h3.2.other (show B+4≠M by omega) _⟩,h4.other (show B+4≠B by omega) _,h5.other (show B+4≠B+1 by omega) _,h6.other (show B+4≠B+2 by omega) _,h7.other (show B+4≠B+3 by omega) _,h8.set _,h9.low (show B+4<B+6 by omega) _,by simpa using h10,h11⟩
theorem Pq.setm {y':Ma} {d':Md} (h:Pq w0 w N M B A c n l p k t y d) (i:Nat) (u:Value) (hd:Db (w.setCell ⟨M,i,none⟩ u) M y' d') (ho:Oq (w.setCell ⟨M,i,none⟩ u) (B+6) y' d'):Pq w0 (w.setCell ⟨M,i,none⟩ u) N M B A c n l p k t y' d':=by
 obtain ⟨h1,h2,h3,h4,h5,h6,h7,h8,h9,h10,h11⟩:=h;refine ⟨h1.setCell (show w0.heap.size≤M by omega) _,⟨⟨h2.1.1.set _ _,h2.1.2.other (show M≠N by omega) _⟩,h2.2.other (show M≠B+5 by omega) _⟩,⟨h3.1.set _ _,hd⟩,h4.other (show M≠B by omega) _,h5.other (show M≠B+1 by omega) _,h6.other (show M≠B+2 by omega) _,h7.other (show M≠B+3 by omega) _,h8.other (show M≠B+4 by omega) _,ho,by simpa using h10,h11⟩
theorem Db.setG {T:Nat} (h:Db w T y d) (A':Option Addr) (c':Nat) (g:List Vlu):Db (w.setCell ⟨T,0,none⟩ (.slice A' g.length c')) T { y with G:=A',gc:=c' } { d with g:=g }:=by
 obtain ⟨h0,h1,h2,h3,h4⟩:=h;refine ⟨by simpa using h0,?_,?_,?_,?_⟩<;>simp [go_sem,h1,h2,h3,h4]
theorem Db.setO {T:Nat} (h:Db w T y d) (A':Option Addr) (c':Nat) (g:List Vlu):Db (w.setCell ⟨T,1,none⟩ (.slice A' g.length c')) T { y with P:=A',pc:=c' } { d with p:=g }:=by
 obtain ⟨h0,h1,h2,h3,h4⟩:=h;refine ⟨by simpa using h0,?_,?_,?_,?_⟩<;>simp [go_sem,h1,h2,h3,h4]
theorem Db.setS {T:Nat} (h:Db w T y d) (A':Option Addr) (c':Nat) (s:List Mz) (Z:List Me):Db (w.setCell ⟨T,2,none⟩ (.slice A' s.length c')) T { y with A:=A',c:=c',Z:=Z } { d with s:=s }:=by
 obtain ⟨h0,h1,h2,h3,h4⟩:=h;refine ⟨by simpa using h0,?_,?_,?_,?_⟩<;>simp [go_sem,h1,h2,h3,h4]
theorem Db.setI {T:Nat} (h:Db w T y d) (i:Int):Db (w.setCell ⟨T,3,none⟩ (.int .i64 i)) T y { d with i:=i }:=by
 obtain ⟨h0,h1,h2,h3,h4⟩:=h;refine ⟨by simpa using h0,?_,?_,?_,?_⟩<;>simp [go_sem,h1,h2,h3,h4]
theorem Pq.setG (h:Pq w0 w' N M B A c n l p k t y d) (A':Option Addr) (c':Nat) (g:List Vlu) (ho:w'.ownsRow w.heap.size 139 3 (.slice A' g.length c') g.length (cev g)) (h0:Pq w0 w N M B A c n l p k t y d) (hg:∀x∈g,VlOk x) :
  Pq w0 (w'.setCell ⟨M,0,none⟩ (.slice A' g.length c')) N M B A c n l p k t { y with G:=A',gc:=c' } { d with g:=g }:=by
 have lo:=h0.2.2.2.2.2.2.2.2.2.1
 have hM:(⟨M,0,none⟩:Addr).block<B+6:=by have:=h.2.2.2.2.2.2.2.2.2.2.2.2;show M<B+6;omega
 have hq:=h.2.2.2.2.2.2.2.2.1.low hM (.slice A' g.length c')
 exact h.setm 0 _ (h.2.2.1.2.setG A' c' g) ⟨ownsRow_setCell_below (own_base ho lo) hM _,hq.2.1,hq.2.2.1,hq.2.2.2.1,hq.2.2.2.2.1,hg,hq.2.2.2.2.2.2⟩
theorem Pq.setO (h:Pq w0 w' N M B A c n l p k t y d) (A':Option Addr) (c':Nat) (g:List Vlu) (ho:w'.ownsRow w.heap.size 139 3 (.slice A' g.length c') g.length (cev g)) (h0:Pq w0 w N M B A c n l p k t y d) (hg:∀x∈g,VlOk x) :
  Pq w0 (w'.setCell ⟨M,1,none⟩ (.slice A' g.length c')) N M B A c n l p k t { y with P:=A',pc:=c' } { d with p:=g }:=by
 have lo:=h0.2.2.2.2.2.2.2.2.2.1
 have hM:(⟨M,1,none⟩:Addr).block<B+6:=by have:=h.2.2.2.2.2.2.2.2.2.2.2.2;show M<B+6;omega
 have hq:=h.2.2.2.2.2.2.2.2.1.low hM (.slice A' g.length c')
 exact h.setm 1 _ (h.2.2.1.2.setO A' c' g) ⟨hq.1,ownsRow_setCell_below (own_base ho lo) hM _,hq.2.2.1,hq.2.2.2.1,hq.2.2.2.2.1,hq.2.2.2.2.2.1,hg,hq.2.2.2.2.2.2.2⟩
theorem Pq.setS (h:Pq w0 w' N M B A c n l p k t y d) (A':Option Addr) (c':Nat) (s:List Mz) (Z:List Me) (ho:w'.ownsRow w.heap.size 50 8 (.slice A' s.length c') s.length (cem Z)) (h0:Pq w0 w N M B A c n l p k t y d) (hz:∀z∈Z,Wz w' w.heap.size z) (he:Z.map ze=s) :
  Pq w0 (w'.setCell ⟨M,2,none⟩ (.slice A' s.length c')) N M B A c n l p k t { y with A:=A',c:=c',Z:=Z } { d with s:=s }:=by
 have lo:=h0.2.2.2.2.2.2.2.2.2.1
 have hM:(⟨M,2,none⟩:Addr).block<B+6:=by have:=h.2.2.2.2.2.2.2.2.2.2.2.2;show M<B+6;omega
 have hq:=h.2.2.2.2.2.2.2.2.1.low hM (.slice A' s.length c')
 exact h.setm 2 _ (h.2.2.1.2.setS A' c' s Z) ⟨hq.1,hq.2.1,ownsRow_setCell_below (own_base ho lo) hM _,fun z hz'=>((hz z hz').base lo).low hM _,he,hq.2.2.2.2.2⟩
theorem Pq.setI (h:Pq w0 w N M B A c n l p k t y d) (i:Int) (hi:-9223372036854775808≤i∧i≤9223372036854775807):Pq w0 (w.setCell ⟨M,3,none⟩ (.int .i64 i)) N M B A c n l p k t y { d with i:=i }:=by
 have hM:(⟨M,3,none⟩:Addr).block<B+6:=by have:=h.2.2.2.2.2.2.2.2.2.2.2.2;show M<B+6;omega
 have hq:=h.2.2.2.2.2.2.2.2.1.low hM (.int .i64 i);exact h.setm 3 _ (h.2.2.1.2.setI i) ⟨hq.1,hq.2.1,hq.2.2.1,hq.2.2.2.1,hq.2.2.2.2.1,hq.2.2.2.2.2.1,hq.2.2.2.2.2.2.1,hi⟩
end
theorem part1_v {w0 w:World} {N M B:Nat} {A:Option Addr} {c n:Nat} {l:List Int} {p k t:Int} {y:Ma} {d:Md} (h:Pq w0 w N M B A c n l p k t y d) (hc:Pc w0 N M B A c n l) (g:List Vlu) (q e:Int) (hR:rdP l p=(g,q,e)) (v:Bool) (hv:decide ((g.length:Int)≤4)=v) :
  Calls Tryz.prog 134 #[.pointer (some ⟨B,0,none⟩),.pointer (some ⟨B+2,0,none⟩),.pointer (some ⟨B+1,0,none⟩)] w fun r w'=>r=.returned (.tuple #[.bool v,.int .i64 e])∧∃A' c',Pq w0 w' N M B A c n l q k t { y with G:=A',gc:=c' } { d with g:=g }:=by
 have HP:=zhy h
 have HC:=zhy hc
 have HR:=zhy hR
 have HVV:=zhy hv
 clear h hc hR hv
 go_enter Tryz.func134,Tryz.ntmps134
 go_upto_region 1 with (fail)
 refine wp_region_L [10,11] (S:=fun w'=>Hid (Pq w0 w' N M B A c n l p k t y d)) (by kernel_rfl) (HP.out.drew) (fun hHeld=>?_)
 refine wpL_take (i:=0) (v:=?_) rfl (by kernel_rfl) (fun _ _ _ h=>h) (Or.inl ⟨by rfl,?_⟩) (by assumption) ?_
 rotate_left 1
 ·intro w hSw;(try dsimp only at hSw);obtain ⟨-,-,⟨⟨m0,mf⟩,⟨m1,z0,z1,z2,z3⟩⟩,⟨a0,a1,a2⟩,⟨b0,b1,b2⟩,⟨c0,c1,c2⟩,⟨d0,d1,d2⟩,⟨e0,e1,e2⟩,-⟩:=hSw.out;go_simp;try with_reducible rfl
 (try simp only [Act.put,zg1,zg2,zg3,zg4,zg5,zg6])
 refine wpL_take (i:=1) (v:=?_) rfl (by kernel_rfl) (fun _ _ _ h=>h) (Or.inl ⟨by rfl,?_⟩) (by assumption) ?_
 rotate_left 1
 ·intro w hSw;(try dsimp only at hSw);obtain ⟨-,-,⟨⟨m0,mf⟩,⟨m1,z0,z1,z2,z3⟩⟩,⟨a0,a1,a2⟩,⟨b0,b1,b2⟩,⟨c0,c1,c2⟩,⟨d0,d1,d2⟩,⟨e0,e1,e2⟩,-⟩:=hSw.out;go_simp;try with_reducible rfl
 (try simp only [Act.put,zg1,zg2,zg3,zg4,zg5,zg6])
 refine wpL_take (i:=2) (v:=?_) rfl (by kernel_rfl) (fun _ _ _ h=>h) (Or.inl ⟨by rfl,?_⟩) (by assumption) ?_
 rotate_left 1
 ·intro w hSw;(try dsimp only at hSw);obtain ⟨-,-,⟨⟨m0,mf⟩,⟨m1,z0,z1,z2,z3⟩⟩,⟨a0,a1,a2⟩,⟨b0,b1,b2⟩,⟨c0,c1,c2⟩,⟨d0,d1,d2⟩,⟨e0,e1,e2⟩,-⟩:=hSw.out;go_simp;try with_reducible rfl
 (try simp only [Act.put,zg1,zg2,zg3,zg4,zg5,zg6])
 refine wpL_ready (rs:=[3]) (by kernel_rfl) (by simp) ?_
 refine AllL.cons rfl (fun K hK=>?_) AllL.nil
 go_simp
 refine (preadw_any A c n l p _ (hHeld.out.gw HC.out).1 (hHeld.out.rd HC.out) HC.out.2.2.1).mono ?_
 rintro r wb ⟨A',c',rfl,hrv,how,hb⟩
 rw [HR.out]
 have HV:=zhy hrv
 have HW:=zhy how
 rw [HR.out] at HV HW
 dsimp only at HV HW
 clear hrv how
 have HH0:=hHeld
 have HB:=zhy hb
 clear hb
 have SZ:=zhy (hHeld.out.call HB.out)
 obtain ⟨-,-,⟨⟨m0,mf⟩,⟨m1,z0,z1,z2,z3⟩⟩,⟨a0,a1,a2⟩,⟨b0,b1,b2⟩,⟨c0,c1,c2⟩,⟨d0,d1,d2⟩,⟨e0,e1,e2⟩,-⟩:=SZ.out
 have mf0:=mf 0
 have mf1:=mf 1
 have mf2:=mf 2
 have mf3:=mf 3
 clear mf
 have hMB:=HC.out.2.2.2.2.2
 go_wp2_with fail
 refine hK.out _ _ (SZ) (fun hHeld=>?_)
 clear hK K
 (try simp only [Act.put,zg1,zg2,zg3,zg4,zg5,zg6])
 refine wpL_reckon (i:=4) (v:=?_) rfl (by kernel_rfl) (fun _ _ _ h=>h) (Or.inl ⟨by rfl,?_⟩) (Or.inr (by assumption)) ?_
 rotate_left 1
 ·intro w _;go_simp;try with_reducible rfl
 (try simp only [Act.put,zg1,zg2,zg3,zg4,zg5,zg6])
 refine wpL_reckon (i:=5) (v:=?_) rfl (by kernel_rfl) (fun _ _ _ h=>h) (Or.inl ⟨by rfl,?_⟩) (Or.inr (by assumption)) ?_
 rotate_left 1
 ·intro w _;go_simp;try with_reducible rfl
 (try simp only [Act.put,zg1,zg2,zg3,zg4,zg5,zg6])
 refine wpL_reckon (i:=6) (v:=?_) rfl (by kernel_rfl) (fun _ _ _ h=>h) (Or.inl ⟨by rfl,?_⟩) (Or.inr (by assumption)) ?_
 rotate_left 1
 ·intro w _;go_simp;try with_reducible rfl
 (try simp only [Act.put,zg1,zg2,zg3,zg4,zg5,zg6])
 refine wpL_reckon (i:=7) (v:=?_) rfl (by kernel_rfl) (fun _ _ _ h=>h) (Or.inl ⟨by rfl,?_⟩) (Or.inr (by assumption)) ?_
 rotate_left 1
 ·intro w _;go_simp;try with_reducible rfl
 (try simp only [Act.put,zg1,zg2,zg3,zg4,zg5,zg6])
 refine wpL_reckon (i:=8) (v:=?_) rfl (by kernel_rfl) (fun _ _ _ h=>h) (Or.inl ⟨by rfl,?_⟩) (Or.inr (by assumption)) ?_
 rotate_left 1
 ·intro w _;go_simp;try with_reducible rfl
 (try simp only [Act.put,zg1,zg2,zg3,zg4,zg5,zg6])
 refine wpL_reckon (i:=9) (v:=?_) rfl (by kernel_rfl) (fun _ _ _ h=>h) (Or.inl ⟨by rfl,?_⟩) (Or.inr (by assumption)) ?_
 rotate_left 1
 ·intro w _;go_simp;try with_reducible rfl
 (try simp only [Act.put,zg1,zg2,zg3,zg4,zg5,zg6])
 refine wpL_ready (rs:=[10]) (by kernel_rfl) (by simp) ?_
 refine AllL.late rfl (by kernel_rfl) (fun K hK=>?_) AllL.nil
 go_simp
 refine hK.out _ _ ?_
 clear hK K
 (try simp only [Act.put,zg1,zg2,zg3,zg4,zg5,zg6])
 refine wpL_ready (rs:=[11]) (by kernel_rfl) (by simp) ?_
 refine AllL.late rfl (by kernel_rfl) (fun K hK=>?_) AllL.nil
 go_simp
 refine hK.out _ _ ?_
 clear hK K
 (try simp only [Act.put,zg1,zg2,zg3,zg4,zg5,zg6])
 refine wpL_reckon (i:=12) (v:=?_) rfl (by kernel_rfl) (fun _ _ _ h=>h) (Or.inl ⟨by rfl,?_⟩) (Or.inl (by kernel_rfl)) ?_
 rotate_left 1
 ·intro w _;go_simp;try with_reducible rfl
 (try simp only [Act.put,zg1,zg2,zg3,zg4,zg5,zg6])
 refine wpL_done (by kernel_rfl) ?_ _
 have HQ:=zhy (((SZ.out.setG A' c' g HW.out HH0.out HV.out.1)).setp HC.out q)
 clear SZ HB HP HH0 hHeld m0 m1 z0 z1 z2 z3 a0 a1 a2 b0 b1 b2 c0 c1 c2 d0 d1 d2 e0 e1 e2 mf0 mf1 mf2 mf3 HV HW
 generalize ((wb.setCell ⟨M,0,none⟩ (.slice A' g.length c')).setCell ⟨B+2,0,none⟩ (.int .i64 q))=w5 at HQ ⊢
 obtain ⟨-,-,⟨⟨m0,mf⟩,⟨m1,z0,z1,z2,z3⟩⟩,-,⟨b0,b1,b2⟩,-⟩:=HQ.out
 dsimp only at z0
 have P1:=fun w=>zhy (mayG_v g.length v w HVV.out)
 go_wp2_with fail
 refine (P1 _).out.mono ?_
 rintro r w6 ⟨rfl,rfl⟩
 clear P1 m0 mf m1 z0 z1 z2 z3 b0 b1 b2
 go_wp2_with fail
 go_ret2
 exact ⟨rfl,A',c',HQ.out⟩
theorem part2_v {w0 w:World} {N M B:Nat} {A:Option Addr} {c n:Nat} {l:List Int} {p k t:Int} {y:Ma} {d:Md} (h:Pq w0 w N M B A c n l p k t y d) (hc:Pc w0 N M B A c n l) (g:List Vlu) (q e:Int) (hR:rdP l p=(g,q,e)) :
  Calls Tryz.prog 136 #[.pointer (some ⟨B,0,none⟩),.pointer (some ⟨B+2,0,none⟩),.pointer (some ⟨B+1,0,none⟩)] w fun r w'=>r=.returned (.tuple #[.bool true,.int .i64 e])∧∃A' c',Pq w0 w' N M B A c n l q k t { y with P:=A',pc:=c' } { d with p:=g }:=by
 have HP:=zhy h
 have HC:=zhy hc
 have HR:=zhy hR
 clear h hc hR
 go_enter Tryz.func136,Tryz.ntmps136
 go_upto_region 1 with (fail)
 refine wp_region_L [10,11] (S:=fun w'=>Hid (Pq w0 w' N M B A c n l p k t y d)) (by kernel_rfl) (HP.out.drew) (fun hHeld=>?_)
 refine wpL_take (i:=0) (v:=?_) rfl (by kernel_rfl) (fun _ _ _ h=>h) (Or.inl ⟨by rfl,?_⟩) (by assumption) ?_
 rotate_left 1
 ·intro w hSw;(try dsimp only at hSw);obtain ⟨-,-,⟨⟨m0,mf⟩,⟨m1,z0,z1,z2,z3⟩⟩,⟨a0,a1,a2⟩,⟨b0,b1,b2⟩,⟨c0,c1,c2⟩,⟨d0,d1,d2⟩,⟨e0,e1,e2⟩,-⟩:=hSw.out;go_simp;try with_reducible rfl
 (try simp only [Act.put,zg1,zg2,zg3,zg4,zg5,zg6])
 refine wpL_take (i:=1) (v:=?_) rfl (by kernel_rfl) (fun _ _ _ h=>h) (Or.inl ⟨by rfl,?_⟩) (by assumption) ?_
 rotate_left 1
 ·intro w hSw;(try dsimp only at hSw);obtain ⟨-,-,⟨⟨m0,mf⟩,⟨m1,z0,z1,z2,z3⟩⟩,⟨a0,a1,a2⟩,⟨b0,b1,b2⟩,⟨c0,c1,c2⟩,⟨d0,d1,d2⟩,⟨e0,e1,e2⟩,-⟩:=hSw.out;go_simp;try with_reducible rfl
 (try simp only [Act.put,zg1,zg2,zg3,zg4,zg5,zg6])
 refine wpL_take (i:=2) (v:=?_) rfl (by kernel_rfl) (fun _ _ _ h=>h) (Or.inl ⟨by rfl,?_⟩) (by assumption) ?_
 rotate_left 1
 ·intro w hSw;(try dsimp only at hSw);obtain ⟨-,-,⟨⟨m0,mf⟩,⟨m1,z0,z1,z2,z3⟩⟩,⟨a0,a1,a2⟩,⟨b0,b1,b2⟩,⟨c0,c1,c2⟩,⟨d0,d1,d2⟩,⟨e0,e1,e2⟩,-⟩:=hSw.out;go_simp;try with_reducible rfl
 (try simp only [Act.put,zg1,zg2,zg3,zg4,zg5,zg6])
 refine wpL_ready (rs:=[3]) (by kernel_rfl) (by simp) ?_
 refine AllL.cons rfl (fun K hK=>?_) AllL.nil
 go_simp
 refine (preadw_any A c n l p _ (hHeld.out.gw HC.out).1 (hHeld.out.rd HC.out) HC.out.2.2.1).mono ?_
 rintro r wb ⟨A',c',rfl,hrv,how,hb⟩
 rw [HR.out]
 have HV:=zhy hrv
 have HW:=zhy how
 rw [HR.out] at HV HW
 dsimp only at HV HW
 clear hrv how
 have HH0:=hHeld
 have HB:=zhy hb
 clear hb
 have SZ:=zhy (hHeld.out.call HB.out)
 obtain ⟨-,-,⟨⟨m0,mf⟩,⟨m1,z0,z1,z2,z3⟩⟩,⟨a0,a1,a2⟩,⟨b0,b1,b2⟩,⟨c0,c1,c2⟩,⟨d0,d1,d2⟩,⟨e0,e1,e2⟩,-⟩:=SZ.out
 have mf0:=mf 0
 have mf1:=mf 1
 have mf2:=mf 2
 have mf3:=mf 3
 clear mf
 have hMB:=HC.out.2.2.2.2.2
 go_wp2_with fail
 refine hK.out _ _ (SZ) (fun hHeld=>?_)
 clear hK K
 (try simp only [Act.put,zg1,zg2,zg3,zg4,zg5,zg6])
 refine wpL_reckon (i:=4) (v:=?_) rfl (by kernel_rfl) (fun _ _ _ h=>h) (Or.inl ⟨by rfl,?_⟩) (Or.inr (by assumption)) ?_
 rotate_left 1
 ·intro w _;go_simp;try with_reducible rfl
 (try simp only [Act.put,zg1,zg2,zg3,zg4,zg5,zg6])
 refine wpL_reckon (i:=5) (v:=?_) rfl (by kernel_rfl) (fun _ _ _ h=>h) (Or.inl ⟨by rfl,?_⟩) (Or.inr (by assumption)) ?_
 rotate_left 1
 ·intro w _;go_simp;try with_reducible rfl
 (try simp only [Act.put,zg1,zg2,zg3,zg4,zg5,zg6])
 refine wpL_reckon (i:=6) (v:=?_) rfl (by kernel_rfl) (fun _ _ _ h=>h) (Or.inl ⟨by rfl,?_⟩) (Or.inr (by assumption)) ?_
 rotate_left 1
 ·intro w _;go_simp;try with_reducible rfl
 (try simp only [Act.put,zg1,zg2,zg3,zg4,zg5,zg6])
 refine wpL_reckon (i:=7) (v:=?_) rfl (by kernel_rfl) (fun _ _ _ h=>h) (Or.inl ⟨by rfl,?_⟩) (Or.inr (by assumption)) ?_
 rotate_left 1
 ·intro w _;go_simp;try with_reducible rfl
 (try simp only [Act.put,zg1,zg2,zg3,zg4,zg5,zg6])
 refine wpL_reckon (i:=8) (v:=?_) rfl (by kernel_rfl) (fun _ _ _ h=>h) (Or.inl ⟨by rfl,?_⟩) (Or.inr (by assumption)) ?_
 rotate_left 1
 ·intro w _;go_simp;try with_reducible rfl
 (try simp only [Act.put,zg1,zg2,zg3,zg4,zg5,zg6])
 refine wpL_reckon (i:=9) (v:=?_) rfl (by kernel_rfl) (fun _ _ _ h=>h) (Or.inl ⟨by rfl,?_⟩) (Or.inr (by assumption)) ?_
 rotate_left 1
 ·intro w _;go_simp;try with_reducible rfl
 (try simp only [Act.put,zg1,zg2,zg3,zg4,zg5,zg6])
 refine wpL_ready (rs:=[10]) (by kernel_rfl) (by simp) ?_
 refine AllL.late rfl (by kernel_rfl) (fun K hK=>?_) AllL.nil
 go_simp
 refine hK.out _ _ ?_
 clear hK K
 (try simp only [Act.put,zg1,zg2,zg3,zg4,zg5,zg6])
 refine wpL_ready (rs:=[11]) (by kernel_rfl) (by simp) ?_
 refine AllL.late rfl (by kernel_rfl) (fun K hK=>?_) AllL.nil
 go_simp
 refine hK.out _ _ ?_
 clear hK K
 (try simp only [Act.put,zg1,zg2,zg3,zg4,zg5,zg6])
 refine wpL_reckon (i:=12) (v:=?_) rfl (by kernel_rfl) (fun _ _ _ h=>h) (Or.inl ⟨by rfl,?_⟩) (Or.inl (by kernel_rfl)) ?_
 rotate_left 1
 ·intro w _;go_simp;try with_reducible rfl
 (try simp only [Act.put,zg1,zg2,zg3,zg4,zg5,zg6])
 refine wpL_done (by kernel_rfl) ?_ _
 have HQ:=zhy (((SZ.out.setO A' c' g HW.out HH0.out HV.out.1)).setp HC.out q)
 clear SZ HB HP HH0 hHeld m0 m1 z0 z1 z2 z3 a0 a1 a2 b0 b1 b2 c0 c1 c2 d0 d1 d2 e0 e1 e2 mf0 mf1 mf2 mf3 HV HW
 generalize ((wb.setCell ⟨M,1,none⟩ (.slice A' g.length c')).setCell ⟨B+2,0,none⟩ (.int .i64 q))=w5 at HQ ⊢
 go_wp2_with fail
 go_ret2
 exact ⟨rfl,A',c',HQ.out⟩
theorem part3_v {w0 w:World} {N M B:Nat} {A:Option Addr} {c n:Nat} {l:List Int} {p k t:Int} {y:Ma} {d:Md} (h:Pq w0 w N M B A c n l p k t y d) (hc:Pc w0 N M B A c n l) (u q e:Int) (hu:getV l p 1=u) (hq:getN l p 1=q) (he:getE l p 1=e) (v:Bool) (hv:decide (u≤16)=v) :
  Calls Tryz.prog 137 #[.pointer (some ⟨B,0,none⟩),.pointer (some ⟨B+2,0,none⟩),.pointer (some ⟨B+3,0,none⟩)] w fun r w'=>r=.returned (.tuple #[.bool v,.int .i64 e])∧Pq w0 w' N M B A c n l q u t y d:=by
 have HC:=zhy hc
 have HP:=zhy h
 have HG:=fun w hr=>zhy (get_m A n c l p 1 w hr hc.2.2.1)
 rw [hu,hq,he] at HG
 have P1:=fun w=>zhy (mayS_v u v w hv)
 clear hc hu hq he hv
 obtain ⟨-,-,-,⟨a0,a1,a2⟩,-,⟨c0,c1,c2⟩,⟨d0,d1,d2⟩,-⟩:=h
 go_enter Tryz.func137,Tryz.ntmps137
 go_wp2_with fail
 refine (HG _ (HP.out.rd HC.out)).out.mono ?_
 rintro r w1 ⟨rfl,hb⟩
 have hMB:=HC.out.2.2.2.2.2
 have H1:=zhy (HP.out.call hb)
 have H2:=zhy ((H1.out.setk u).setp HC.out q)
 clear HP HG hb a0 a1 a2 c0 c1 c2 d0 d1 d2
 obtain ⟨-,-,-,⟨a0,a1,a2⟩,-,⟨c0,c1,c2⟩,⟨d0,d1,d2⟩,-⟩:=H1.out
 go_upto_region 2 with (fail)
 clear a0 a1 a2 c0 c1 c2 d0 d1 d2 H1
 generalize (w1.setCell ⟨B+3,0,none⟩ (.int .i64 u)).setCell ⟨B+2,0,none⟩ (.int .i64 q)=w2 at H2 ⊢
 obtain ⟨-,-,-,⟨a0,a1,a2⟩,-,⟨c0,c1,c2⟩,⟨d0,d1,d2⟩,-⟩:=H2.out
 go_wp2_with fail
 refine (P1 _).out.mono ?_
 rintro r w6 ⟨rfl,rfl⟩
 clear P1 a0 a1 a2 c0 c1 c2 d0 d1 d2
 go_wp2_with fail
 go_ret2
 exact ⟨rfl,H2.out⟩
theorem part4_v {w0 w:World} {N M B:Nat} {A:Option Addr} {c n:Nat} {l:List Int} {p t:Int} {kn:Nat} {y:Ma} {d:Md} (h:Pq w0 w N M B A c n l p kn t y d) (hc:Pc w0 N M B A c n l) (hkn:kn≤16) (s:List Mz) (q e:Int) (hR:qms l kn p=(s,q,e)) :
  Calls Tryz.prog 139 #[.pointer (some ⟨B,0,none⟩),.pointer (some ⟨B+2,0,none⟩),.pointer (some ⟨B+3,0,none⟩),.pointer (some ⟨B+1,0,none⟩)] w fun r w'=>r=.returned (.tuple #[.bool true,.int .i64 e])∧∃A' c' Z,Pq w0 w' N M B A c n l q kn t { y with A:=A',c:=c',Z:=Z } { d with s:=s }:=by
 have HP:=zhy h
 have HC:=zhy hc
 have HR:=zhy hR
 clear h hc hR
 go_enter Tryz.func139,Tryz.ntmps139
 go_upto_region 1 with (fail)
 refine wp_region_L [11,12] (S:=fun w'=>Hid (Pq w0 w' N M B A c n l p kn t y d)) (by kernel_rfl) (HP.out.drew) (fun hHeld=>?_)
 refine wpL_take (i:=0) (v:=?_) rfl (by kernel_rfl) (fun _ _ _ h=>h) (Or.inl ⟨by rfl,?_⟩) (by assumption) ?_
 rotate_left 1
 ·intro w hSw;(try dsimp only at hSw);obtain ⟨-,-,⟨⟨m0,mf⟩,⟨m1,z0,z1,z2,z3⟩⟩,⟨a0,a1,a2⟩,⟨b0,b1,b2⟩,⟨c0,c1,c2⟩,⟨d0,d1,d2⟩,⟨e0,e1,e2⟩,-⟩:=hSw.out;go_simp;try with_reducible rfl
 (try simp only [Act.put,zg1,zg2,zg3,zg4,zg5,zg6])
 refine wpL_take (i:=1) (v:=?_) rfl (by kernel_rfl) (fun _ _ _ h=>h) (Or.inl ⟨by rfl,?_⟩) (by assumption) ?_
 rotate_left 1
 ·intro w hSw;(try dsimp only at hSw);obtain ⟨-,-,⟨⟨m0,mf⟩,⟨m1,z0,z1,z2,z3⟩⟩,⟨a0,a1,a2⟩,⟨b0,b1,b2⟩,⟨c0,c1,c2⟩,⟨d0,d1,d2⟩,⟨e0,e1,e2⟩,-⟩:=hSw.out;go_simp;try with_reducible rfl
 (try simp only [Act.put,zg1,zg2,zg3,zg4,zg5,zg6])
 refine wpL_take (i:=2) (v:=?_) rfl (by kernel_rfl) (fun _ _ _ h=>h) (Or.inl ⟨by rfl,?_⟩) (by assumption) ?_
 rotate_left 1
 ·intro w hSw;(try dsimp only at hSw);obtain ⟨-,-,⟨⟨m0,mf⟩,⟨m1,z0,z1,z2,z3⟩⟩,⟨a0,a1,a2⟩,⟨b0,b1,b2⟩,⟨c0,c1,c2⟩,⟨d0,d1,d2⟩,⟨e0,e1,e2⟩,-⟩:=hSw.out;go_simp;try with_reducible rfl
 (try simp only [Act.put,zg1,zg2,zg3,zg4,zg5,zg6])
 refine wpL_take (i:=3) (v:=?_) rfl (by kernel_rfl) (fun _ _ _ h=>h) (Or.inl ⟨by rfl,?_⟩) (by assumption) ?_
 rotate_left 1
 ·intro w hSw;(try dsimp only at hSw);obtain ⟨-,-,⟨⟨m0,mf⟩,⟨m1,z0,z1,z2,z3⟩⟩,⟨a0,a1,a2⟩,⟨b0,b1,b2⟩,⟨c0,c1,c2⟩,⟨d0,d1,d2⟩,⟨e0,e1,e2⟩,-⟩:=hSw.out;go_simp;try with_reducible rfl
 (try simp only [Act.put,zg1,zg2,zg3,zg4,zg5,zg6])
 refine wpL_ready (rs:=[4]) (by kernel_rfl) (by simp) ?_
 refine AllL.cons rfl (fun K hK=>?_) AllL.nil
 go_simp
 refine (rms_v A c n l p kn _ (hHeld.out.gw HC.out) (hHeld.out.rd HC.out) HC.out.2.2.1 hkn).mono ?_
 rintro r wb ⟨A',c',Z,rfl,how,hwz,hze,hb⟩
 rw [HR.out]
 have HW:=zhy how
 have HZ:=zhy hwz
 have HE:=zhy hze
 rw [HR.out] at HW HE
 dsimp only at HW HE
 clear how hwz hze
 have HH0:=hHeld
 have HB:=zhy hb
 clear hb
 have SZ:=zhy (hHeld.out.call HB.out)
 obtain ⟨-,-,⟨⟨m0,mf⟩,⟨m1,z0,z1,z2,z3⟩⟩,⟨a0,a1,a2⟩,⟨b0,b1,b2⟩,⟨c0,c1,c2⟩,⟨d0,d1,d2⟩,⟨e0,e1,e2⟩,-⟩:=SZ.out
 have mf0:=mf 0
 have mf1:=mf 1
 have mf2:=mf 2
 have mf3:=mf 3
 clear mf
 have hMB:=HC.out.2.2.2.2.2
 go_wp2_with fail
 refine hK.out _ _ (SZ) (fun hHeld=>?_)
 clear hK K
 (try simp only [Act.put,zg1,zg2,zg3,zg4,zg5,zg6])
 refine wpL_reckon (i:=5) (v:=?_) rfl (by kernel_rfl) (fun _ _ _ h=>h) (Or.inl ⟨by rfl,?_⟩) (Or.inr (by assumption)) ?_
 rotate_left 1
 ·intro w _;go_simp;try with_reducible rfl
 (try simp only [Act.put,zg1,zg2,zg3,zg4,zg5,zg6])
 refine wpL_reckon (i:=6) (v:=?_) rfl (by kernel_rfl) (fun _ _ _ h=>h) (Or.inl ⟨by rfl,?_⟩) (Or.inr (by assumption)) ?_
 rotate_left 1
 ·intro w _;go_simp;try with_reducible rfl
 (try simp only [Act.put,zg1,zg2,zg3,zg4,zg5,zg6])
 refine wpL_reckon (i:=7) (v:=?_) rfl (by kernel_rfl) (fun _ _ _ h=>h) (Or.inl ⟨by rfl,?_⟩) (Or.inr (by assumption)) ?_
 rotate_left 1
 ·intro w _;go_simp;try with_reducible rfl
 (try simp only [Act.put,zg1,zg2,zg3,zg4,zg5,zg6])
 refine wpL_reckon (i:=8) (v:=?_) rfl (by kernel_rfl) (fun _ _ _ h=>h) (Or.inl ⟨by rfl,?_⟩) (Or.inr (by assumption)) ?_
 rotate_left 1
 ·intro w _;go_simp;try with_reducible rfl
 (try simp only [Act.put,zg1,zg2,zg3,zg4,zg5,zg6])
 refine wpL_reckon (i:=9) (v:=?_) rfl (by kernel_rfl) (fun _ _ _ h=>h) (Or.inl ⟨by rfl,?_⟩) (Or.inr (by assumption)) ?_
 rotate_left 1
 ·intro w _;go_simp;try with_reducible rfl
 (try simp only [Act.put,zg1,zg2,zg3,zg4,zg5,zg6])
 refine wpL_reckon (i:=10) (v:=?_) rfl (by kernel_rfl) (fun _ _ _ h=>h) (Or.inl ⟨by rfl,?_⟩) (Or.inr (by assumption)) ?_
 rotate_left 1
 ·intro w _;go_simp;try with_reducible rfl
 (try simp only [Act.put,zg1,zg2,zg3,zg4,zg5,zg6])
 refine wpL_ready (rs:=[11]) (by kernel_rfl) (by simp) ?_
 refine AllL.late rfl (by kernel_rfl) (fun K hK=>?_) AllL.nil
 go_simp
 refine hK.out _ _ ?_
 clear hK K
 (try simp only [Act.put,zg1,zg2,zg3,zg4,zg5,zg6])
 refine wpL_ready (rs:=[12]) (by kernel_rfl) (by simp) ?_
 refine AllL.late rfl (by kernel_rfl) (fun K hK=>?_) AllL.nil
 go_simp
 refine hK.out _ _ ?_
 clear hK K
 (try simp only [Act.put,zg1,zg2,zg3,zg4,zg5,zg6])
 refine wpL_reckon (i:=13) (v:=?_) rfl (by kernel_rfl) (fun _ _ _ h=>h) (Or.inl ⟨by rfl,?_⟩) (Or.inl (by kernel_rfl)) ?_
 rotate_left 1
 ·intro w _;go_simp;try with_reducible rfl
 (try simp only [Act.put,zg1,zg2,zg3,zg4,zg5,zg6])
 refine wpL_done (by kernel_rfl) ?_ _
 have HQ:=zhy (((SZ.out.setS A' c' s Z HW.out HH0.out HZ.out HE.out)).setp HC.out q)
 clear SZ HB HP HH0 hHeld m0 m1 z0 z1 z2 z3 a0 a1 a2 b0 b1 b2 c0 c1 c2 d0 d1 d2 e0 e1 e2 mf0 mf1 mf2 mf3 HW HZ HE
 generalize ((wb.setCell ⟨M,2,none⟩ (.slice A' s.length c')).setCell ⟨B+2,0,none⟩ (.int .i64 q))=w5 at HQ ⊢
 go_wp2_with fail
 go_ret2
 exact ⟨rfl,A',c',Z,HQ.out⟩
theorem part5_v {w0 w:World} {N M B:Nat} {A:Option Addr} {c n:Nat} {l:List Int} {p k t:Int} {y:Ma} {d:Md} (h:Pq w0 w N M B A c n l p k t y d) (hc:Pc w0 N M B A c n l) (u q e:Int) (hu:getV l p 1=u) (hq:getN l p 1=q) (he:getE l p 1=e) (hub:0≤u∧u≤255) (v:Bool) (hv:decide ((if u=255 then -1 else u)=-1∨0≤(if u=255 then -1 else u)∧(if u=255 then -1 else u)<(d.s.length:Int))=v) :
  Calls Tryz.prog 141 #[.pointer (some ⟨B,0,none⟩),.pointer (some ⟨B+2,0,none⟩),.pointer (some ⟨B+4,0,none⟩),.pointer (some ⟨B+1,0,none⟩)] w fun r w'=>r=.returned (.tuple #[.bool v,.int .i64 e])∧Pq w0 w' N M B A c n l q k u y { d with i:=if u=255 then -1 else u }:=by
 have PM:=fun w=>migOf_v u w
 have hib:-9223372036854775808≤(if u=255 then -1 else u)∧(if u=255 then -1 else u)≤9223372036854775807:=by split<;>omega
 obtain ⟨iz,hiz⟩:∃iz,(if u=255 then -1 else u)=iz:=⟨_,rfl⟩
 simp only [hiz] at PM hv hib ⊢
 have PM:=fun w=>zhy (PM w)
 have HIB:=zhy hib
 clear hiz hib
 have HC:=zhy hc
 have HP:=zhy h
 have HVV:=zhy hv
 have HG:=fun w hr=>zhy (get_m A n c l p 1 w hr hc.2.2.1)
 rw [hu,hq,he] at HG
 clear hc hu hq he hv
 obtain ⟨-,-,-,⟨a0,a1,a2⟩,-,⟨c0,c1,c2⟩,-,⟨d0,d1,d2⟩,-⟩:=h
 go_enter Tryz.func141,Tryz.ntmps141
 go_wp2_with fail
 refine (HG _ (HP.out.rd HC.out)).out.mono ?_
 rintro r w1 ⟨rfl,hb⟩
 have hMB:=HC.out.2.2.2.2.2
 have H1:=zhy (HP.out.call hb)
 have HP5:=zhy ((H1.out.sett u).setp HC.out q)
 clear HP HG hb a0 a1 a2 c0 c1 c2 d0 d1 d2
 obtain ⟨-,-,-,⟨a0,a1,a2⟩,-,⟨c0,c1,c2⟩,-,⟨d0,d1,d2⟩,-⟩:=H1.out
 go_upto_region 2 with (fail)
 clear a0 a1 a2 c0 c1 c2 d0 d1 d2 H1
 generalize (w1.setCell ⟨B+4,0,none⟩ (.int .i64 u)).setCell ⟨B+2,0,none⟩ (.int .i64 q)=w2 at HP5 ⊢
 refine wp_region_L [5] (S:=fun w'=>Hid (Pq w0 w' N M B A c n l q k u y d)) (by kernel_rfl) (HP5.out.drew) (fun hHeld=>?_)
 refine wpL_take (i:=0) (v:=?_) rfl (by kernel_rfl) (fun _ _ _ h=>h) (Or.inl ⟨by rfl,?_⟩) (by assumption) ?_
 rotate_left 1
 ·intro w hSw;(try dsimp only at hSw);obtain ⟨-,-,⟨⟨m0,mf⟩,⟨m1,z0,z1,z2,z3⟩⟩,⟨a0,a1,a2⟩,⟨b0,b1,b2⟩,⟨c0,c1,c2⟩,⟨d0,d1,d2⟩,⟨e0,e1,e2⟩,-⟩:=hSw.out;go_simp;try with_reducible rfl
 (try simp only [Act.put,zg1,zg2,zg3,zg4,zg5,zg6])
 refine wpL_take (i:=1) (v:=?_) rfl (by kernel_rfl) (fun _ _ _ h=>h) (Or.inl ⟨by rfl,?_⟩) (by assumption) ?_
 rotate_left 1
 ·intro w hSw;(try dsimp only at hSw);obtain ⟨-,-,⟨⟨m0,mf⟩,⟨m1,z0,z1,z2,z3⟩⟩,⟨a0,a1,a2⟩,⟨b0,b1,b2⟩,⟨c0,c1,c2⟩,⟨d0,d1,d2⟩,⟨e0,e1,e2⟩,-⟩:=hSw.out;go_simp;try with_reducible rfl
 (try simp only [Act.put,zg1,zg2,zg3,zg4,zg5,zg6])
 refine wpL_ready (rs:=[2]) (by kernel_rfl) (by simp) ?_
 refine AllL.cons rfl (fun K hK=>?_) AllL.nil
 go_simp
 refine (PM _).out.mono ?_
 rintro r wb ⟨rfl,rfl⟩
 obtain ⟨-,-,⟨⟨m0,mf⟩,⟨m1,z0,z1,z2,z3⟩⟩,-⟩:=hHeld.out
 have mf3:=mf 3
 clear mf
 go_wp2_with fail
 refine hK.out _ _ (hHeld) (fun hHeld=>?_)
 clear hK K
 (try simp only [Act.put,zg1,zg2,zg3,zg4,zg5,zg6])
 refine wpL_reckon (i:=3) (v:=?_) rfl (by kernel_rfl) (fun _ _ _ h=>h) (Or.inl ⟨by rfl,?_⟩) (Or.inr (by assumption)) ?_
 rotate_left 1
 ·intro w _;go_simp;try with_reducible rfl
 (try simp only [Act.put,zg1,zg2,zg3,zg4,zg5,zg6])
 refine wpL_reckon (i:=4) (v:=?_) rfl (by kernel_rfl) (fun _ _ _ h=>h) (Or.inl ⟨by rfl,?_⟩) (Or.inr (by assumption)) ?_
 rotate_left 1
 ·intro w _;go_simp;try with_reducible rfl
 (try simp only [Act.put,zg1,zg2,zg3,zg4,zg5,zg6])
 refine wpL_ready (rs:=[5]) (by kernel_rfl) (by simp) ?_
 refine AllL.late rfl (by kernel_rfl) (fun K hK=>?_) AllL.nil
 go_simp
 refine hK.out _ _ ?_
 clear hK K
 (try simp only [Act.put,zg1,zg2,zg3,zg4,zg5,zg6])
 refine wpL_done (by kernel_rfl) ?_ _
 have HQ:Hid (Pq w0 (w2.setCell ⟨M,3,none⟩ (.int .i64 iz)).drew N M B A c n l q k u y { d with i:=iz }):=zhy (hHeld.out.setI iz HIB.out)
 clear hHeld HP5 m0 m1 z0 z1 z2 z3 mf3 PM
 generalize (w2.setCell ⟨M,3,none⟩ (.int .i64 iz)).drew=wz at HQ ⊢
 have P1:=fun w=>zhy (mayI_v iz d.s.length v w HVV.out)
 go_upto_region 3 with (fail)
 refine wp_region_held_drew (S:=fun w'=>Hid (Pq w0 w' N M B A c n l q k u y { d with i:=iz })) (by kernel_rfl) (HQ.out.drew) (fun hHeld=>?_)
 refine zq 0 (hy:=fun w hSw=>by (try dsimp only at hSw);obtain ⟨-,-,⟨⟨m0,mf⟩,⟨m1,z0,z1,z2,z3⟩⟩,⟨a0,a1,a2⟩,⟨b0,b1,b2⟩,⟨c0,c1,c2⟩,⟨d0,d1,d2⟩,⟨e0,e1,e2⟩,-⟩:=hSw.out;go_simp;try with_reducible rfl) (h:=?_)
 refine zq 1 (h:=?_)
 refine zq 2 (h:=?_)
 refine zq 3 (hy:=fun w hSw=>by (try dsimp only at hSw);obtain ⟨-,-,⟨⟨m0,mf⟩,⟨m1,z0,z1,z2,z3⟩⟩,⟨a0,a1,a2⟩,⟨b0,b1,b2⟩,⟨c0,c1,c2⟩,⟨d0,d1,d2⟩,⟨e0,e1,e2⟩,-⟩:=hSw.out;go_simp;try with_reducible rfl) (h:=?_)
 refine zq 4 (hy:=fun w hSw=>by (try dsimp only at hSw);obtain ⟨-,-,⟨⟨m0,mf⟩,⟨m1,z0,z1,z2,z3⟩⟩,⟨a0,a1,a2⟩,⟨b0,b1,b2⟩,⟨c0,c1,c2⟩,⟨d0,d1,d2⟩,⟨e0,e1,e2⟩,-⟩:=hSw.out;go_simp;try with_reducible rfl) (h:=?_)
 refine zq 5 (h:=?_)
 refine zq 6 (h:=?_)
 refine zq 7 (hy:=fun w hSw=>by (try dsimp only at hSw);obtain ⟨-,-,⟨⟨m0,mf⟩,⟨m1,z0,z1,z2,z3⟩⟩,⟨a0,a1,a2⟩,⟨b0,b1,b2⟩,⟨c0,c1,c2⟩,⟨d0,d1,d2⟩,⟨e0,e1,e2⟩,-⟩:=hSw.out;go_simp;try with_reducible rfl) (h:=?_)
 refine zq 8 (h:=?_)
 refine zq 10 (h:=?_)
 refine wpAnyH_ready (rs:=[9]) (by kernel_rfl) (by simp) ?_
 refine AllReadyH.cons rfl (fun K hK=>?_) AllReadyH.nil
 go_simp
 refine (P1 _).out.mono ?_
 rintro r wb ⟨rfl,rfl⟩
 go_wp2_with fail
 refine hK.out _ _ (hHeld) (fun hHeld=>?_)
 clear hK K
 (try simp only [Act.put,zg1,zg2,zg3,zg4,zg5,zg6])
 refine zq 11 (h:=?_)
 refine zq 12 (h:=?_)
 refine wpAnyH_done (by kernel_rfl) ?_ _
 clear hHeld
 go_wp2_with fail
 go_ret2
 exact ⟨rfl,HQ.out.drew⟩
theorem part6_v {w0 w:World} {N M B:Nat} {A:Option Addr} {c n:Nat} {l:List Int} {p k t:Int} {y:Ma} {d:Md} (h:Pq w0 w N M B A c n l p k t y d) (v:Bool) (hv:decide (p=(n:Int))=v) :
  Calls Tryz.prog 143 #[.pointer (some ⟨B+2,0,none⟩),.pointer (some ⟨B,0,none⟩)] w fun r w'=>r=.returned (.tuple #[.bool v,.int .i64 0])∧Pq w0 w' N M B A c n l p k t y d:=by
 have HP:=zhy h
 have HVV:=zhy hv
 clear hv
 obtain ⟨-,-,-,⟨a0,a1,a2⟩,-,⟨c0,c1,c2⟩,-⟩:=h
 go_enter Tryz.func143,Tryz.ntmps143
 go_wp2_with fail
 go_ret2
 refine ⟨?_,HP.out⟩
 rw [←HVV.out]
 by_cases hpn:p=(n:Int)<;>simp [hpn]
abbrev fcel (B:Nat):Array Value:=#[.func (.func 134) #[] #[.pointer (some ⟨B,0,none⟩),.pointer (some ⟨B+2,0,none⟩),.pointer (some ⟨B+1,0,none⟩)],
 .func (.func 136) #[] #[.pointer (some ⟨B,0,none⟩),.pointer (some ⟨B+2,0,none⟩),.pointer (some ⟨B+1,0,none⟩)],
 .func (.func 137) #[] #[.pointer (some ⟨B,0,none⟩),.pointer (some ⟨B+2,0,none⟩),.pointer (some ⟨B+3,0,none⟩)],
 .func (.func 139) #[] #[.pointer (some ⟨B,0,none⟩),.pointer (some ⟨B+2,0,none⟩),.pointer (some ⟨B+3,0,none⟩),.pointer (some ⟨B+1,0,none⟩)],
 .func (.func 141) #[] #[.pointer (some ⟨B,0,none⟩),.pointer (some ⟨B+2,0,none⟩),.pointer (some ⟨B+4,0,none⟩),.pointer (some ⟨B+1,0,none⟩)],
 .func (.func 143) #[] #[.pointer (some ⟨B+2,0,none⟩),.pointer (some ⟨B,0,none⟩)]]
theorem Fs.new (w:World) (B t:Nat) (hs:w.heap.size=B+5):Fs (w.alloc (.cells (fcel B) t)) B:=by
 unfold Fs;rw [←hs];refine ⟨by simp,?_,?_,?_,?_,?_,?_⟩<;>simp [go_sem,fcel]
theorem pq_new {w0 w:World} {N M:Nat} {A:Option Addr} {c n:Nat} {l:List Int} (hb:Below w0.heap.size w0 w) (hN:Mf w N∧Db w N Ma.zero Md.zero) (hM:Mf w M∧Db w M Ma.zero Md.zero) (h0:w0.heap.size≤N∧N<M∧M<w.heap.size) (B:Nat) (hB:w.heap.size=B) (t1 t2 t3 t6:Nat) :
  Pq w0 ((((((w.alloc (.cells #[.slice A n c] t1)).alloc (.cells #[.pointer (some ⟨M,0,none⟩)] t2)).alloc (.cells #[.int .i64 0] t3)).alloc (.cells #[.int .i64 0] t3)).alloc (.cells #[.int .i64 0] t3)).alloc (.cells (fcel B) t6)) N M B A c n l 0 0 0 Ma.zero Md.zero:=by
 subst hB
 have k1:=C1.new w (.slice A n c) t1
 have k2:=C1.new (w.alloc (.cells #[.slice A n c] t1)) (.pointer (some ⟨M,0,none⟩)) t2
 have k3:=C1.new ((w.alloc (.cells #[.slice A n c] t1)).alloc (.cells #[.pointer (some ⟨M,0,none⟩)] t2)) (.int .i64 0) t3
 have k4:=C1.new (((w.alloc (.cells #[.slice A n c] t1)).alloc (.cells #[.pointer (some ⟨M,0,none⟩)] t2)).alloc (.cells #[.int .i64 0] t3)) (.int .i64 0) t3
 have k5:=C1.new ((((w.alloc (.cells #[.slice A n c] t1)).alloc (.cells #[.pointer (some ⟨M,0,none⟩)] t2)).alloc (.cells #[.int .i64 0] t3)).alloc (.cells #[.int .i64 0] t3)) (.int .i64 0) t3
 have k6:=Fs.new (((((w.alloc (.cells #[.slice A n c] t1)).alloc (.cells #[.pointer (some ⟨M,0,none⟩)] t2)).alloc (.cells #[.int .i64 0] t3)).alloc (.cells #[.int .i64 0] t3)).alloc (.cells #[.int .i64 0] t3)) w.heap.size t6 (by simp)
 rw [size1] at k2
 rw [size1,size1] at k3
 rw [size1,size1,size1] at k4
 rw [size1,size1,size1,size1] at k5
 have b:Below w.heap.size w ((((((w.alloc (.cells #[.slice A n c] t1)).alloc (.cells #[.pointer (some ⟨M,0,none⟩)] t2)).alloc (.cells #[.int .i64 0] t3)).alloc (.cells #[.int .i64 0] t3)).alloc (.cells #[.int .i64 0] t3)).alloc (.cells (fcel w.heap.size) t6)):=
  ((((new1.alloc (by simp) _).alloc (by simp;omega) _).alloc (by simp;omega) _).alloc (by simp;omega) _).alloc (by simp;omega) _
 refine ⟨hb.trans (b.mono hb.size),⟨⟨hN.1.keep b,hN.2.keep b⟩,k6⟩,⟨hM.1.keep b,hM.2.keep b⟩,((((k1.keep new1).keep new1).keep new1).keep new1).keep new1,(((k2.keep new1).keep new1).keep new1).keep new1,((k3.keep new1).keep new1).keep new1,(k4.keep new1).keep new1,k5.keep new1,Oq.zero _ _,by simp,h0⟩
theorem parts8_v {w0 w:World} {N M:Nat} {A:Option Addr} {c n:Nat} {l:List Int} (hb:Below w0.heap.size w0 w) (hN:Mf w N∧Db w N Ma.zero Md.zero) (hM:Mf w M∧Db w M Ma.zero Md.zero) (h0:w0.heap.size≤N∧N<M∧M<w.heap.size) (B:Nat) (hB:w.heap.size=B) :
  Calls Tryz.prog 83 #[.slice A n c,.pointer (some ⟨M,0,none⟩)] w fun r w'=>r=.returned (.slice (some ⟨B+5,0,none⟩) 6 6)∧Pq w0 w' N M B A c n l 0 0 0 Ma.zero Md.zero:=by
 have HX:=fun t1 t2 t3 t6=>zhy (pq_new (A:=A) (c:=c) (n:=n) (l:=l) hb hN hM h0 B hB t1 t2 t3 t6)
 clear hb hN hM h0
 go_enter Tryz.func83,Tryz.ntmps83
 go_wp2_with fail
 go_ret
 exact ⟨rfl,(HX _ _ _ _).out⟩
theorem one8 {l:List Int} (hb:Byt l) (p:Int):(0≤getV l p 1∧getV l p 1≤255)∧getN l p 1≤l.length:=by
 by_cases h:getE l p 1=0
 ·obtain ⟨h0,h1⟩:=getE_1 h;obtain ⟨a,rfl⟩:∃a:Nat,p=a:=⟨p.toNat,by omega⟩;rw [Int.toNat_natCast] at h1;obtain ⟨-,e2,e3⟩:=get_1 hb h1;rw [e2,e3,zg7 h1,Option.getD_some];have:=hb _ (List.getElem_mem h1);omega
 ·obtain ⟨e1,e2,-⟩:=getE_bad rfl h;rw [e1,e2];omega
theorem qms_len (l:List Int):∀(k:Nat) (q:Int),(qms l k q).2.2=0→(qms l k q).1.length=k
 | 0,q=>fun _=>rfl
 | k+1,q=>fun h=>by
  obtain ⟨m,n,e,hQ⟩:∃m n e,rdQ l q=(m,n,e):=⟨_,_,_,rfl⟩;by_cases he:e=0
  ·subst he;obtain ⟨f,K,t,hC⟩:∃f K t,rdC l n=(f,K,t):=⟨_,_,_,rfl⟩;by_cases hf:f=0
   ·subst hf;rw [qms_yes hQ hC] at h ⊢;rw [apM] at h ⊢;by_cases hr:(qms l k t).2.2=0
    ·rw [if_pos hr];simp [qms_len l k t hr]
    ·rw [if_neg hr] at h;exact absurd h hr
   ·rw [qms_no2 hQ hC hf] at h;exact absurd h hf
  ·rw [qms_no hQ he] at h;exact absurd h he
def Jp (l:List Int):Nat→Int→Int→Md→Prop
 | 0,p,k,d=>qP l=qPg l (rdP l p)
 | 1,p,k,d=>qP l=qPm l d.g (rdP l p)
 | 2,p,k,d=>qP l=if getE l p 1=0 then (if 16<getV l p 1 then (Md.zero,80) else qPs l d.g d.p (getV l p 1) (qms l (getV l p 1).toNat (getN l p 1))) else (Md.zero,getE l p 1)
 | 3,p,k,d=>(0≤k∧k≤16)∧qP l=qPs l d.g d.p k (qms l k.toNat p)
 | 4,p,k,d=>(d.s.length:Int)=k∧qP l=qPz l d.g d.p k d.s p
 | 5,p,k,d=>p≤l.length∧qP l=if p<l.length then (Md.zero,80) else (d,0)
 | _,p,k,d=>qP l=(d,0)
theorem mparse_end (tm:Array Value) (w':World) (T:Nat) (y:Ma) (d:Md) (e:Int) (hT:tm[2]?.getD undef=.pointer (some ⟨T,0,none⟩)) (h3:tm[3]?.getD undef=.int .i64 e) (hM:Db w' T y d) (R:Ending→World→Prop)
  (hR:R (.returned (.tuple #[dv y d,.int .i64 e])) w'):bodyPost Tryz.prog Tryz.f44 R .ret { tmps:=tm,defers:=[]} w':=by
 obtain ⟨h0,c1,c2,c3,c4⟩:=hM
 exact bodyPost_ret (v:=.tuple #[dv y d,.int .i64 e]) (by simp [results,Tryz.results44,go_sem,hT,h3,c1,c2,c3,c4]) rfl hR
theorem Pq.bad {w0 w:World} {N M B:Nat} {A:Option Addr} {c n:Nat} {l:List Int} {p k t:Int} {y:Ma} {d:Md} (h:Pq w0 w N M B A c n l p k t y d):Db (put4 w N Ma.zero Md.zero) N Ma.zero Md.zero∧Hq (put4 w N Ma.zero Md.zero) Ma.zero Md.zero∧Ow (put4 w N Ma.zero Md.zero) w0.heap.size (put4 w N Ma.zero Md.zero).heap.size Ma.zero Md.zero∧Below w0.heap.size w0 (put4 w N Ma.zero Md.zero):=
 ⟨put4_db h.2.1.1.2 _ _,Hq.zero _,Ow.zero _ _ _,put4_below h.1 h.2.2.2.2.2.2.2.2.2.2.1 _ _⟩
theorem Pq.good {w0 w:World} {N M B:Nat} {A:Option Addr} {c n:Nat} {l:List Int} {p k t:Int} {y:Ma} {d:Md} (h:Pq w0 w N M B A c n l p k t y d):Db (put4 w N y d) N y d∧Hq (put4 w N y d) y d∧Ow (put4 w N y d) w0.heap.size (put4 w N y d).heap.size y d∧Below w0.heap.size w0 (put4 w N y d):=by
 obtain ⟨h1,h2,h3,h4,h5,h6,h7,h8,h9,h10,h11⟩:=h;have hl:∀i,(⟨N,i,none⟩:Addr).block<B+6:=fun i=>by show N<B+6;omega
 have k:=(((h9.low (hl 0) (.slice y.G d.g.length y.gc)).low (hl 1) (.slice y.P d.p.length y.pc)).low (hl 2) (.slice y.A d.s.length y.c)).low (hl 3) (.int .i64 d.i);exact ⟨put4_db h2.1.2 _ _,k.hq,k.ow (by omega) (Nat.le_refl _),put4_below h1 h11.1 _ _⟩
theorem mparse_v (A:Option Addr) (c n:Nat) (l:List Int) (w:World) (hw:fWM.p w) (hr:Rd w A c l) (hn:l.length=n) (hl:n≤3001):Calls Tryz.prog 44 #[.slice A n c] w fun r w'=>∃y,r=.returned (.tuple #[dv y (qP l).1,.int .i64 (qP l).2])∧Hq w' y (qP l).1∧Ow w' w.heap.size w'.heap.size y (qP l).1∧Below w.heap.size w w':=by
 obtain ⟨N,hN⟩:∃N,w.heap.size=N:=⟨_,rfl⟩;obtain ⟨R,hR⟩:∃R,qP l=R:=⟨_,rfl⟩;have HRR:=zhy hR;have HBY:=zhy hr.byt;rw [hR];by_cases h2:2000<n
 ·have HN:Hid (R=(Md.zero,3)):=by rw [Hid,←hR,qP,if_pos (by omega)]
  clear hw hr hR hN HRR;have H1:Hid (Mf (w.alloc (dcel Ma.zero Md.zero)) w.heap.size∧Db (w.alloc (dcel Ma.zero Md.zero)) w.heap.size Ma.zero Md.zero):=zhy ⟨Mf.new w _ _,Db.new w _ _⟩;have HB1:Hid (Below w.heap.size w (w.alloc (dcel Ma.zero Md.zero))):=zhy new1;go_enter Tryz.func44,Tryz.ntmps44;go_wp2;go_step3;go_wp2_with fail;rw [Exit.noGoto_ret];obtain rfl:=HN.out;exact mparse_end _ _ w.heap.size Ma.zero Md.zero 3 rfl rfl H1.out.2 _ ⟨Ma.zero,rfl,Hq.zero _,Ow.zero _ _ _,HB1.out⟩
 ·have HJ:Hid (Jp l 0 0 0 Md.zero):=by rw [Hid,Jp,qP,if_neg (by omega)]
  have H1:Hid ((Mf ((w.alloc (dcel Ma.zero Md.zero)).alloc (dcel Ma.zero Md.zero)) N∧Db ((w.alloc (dcel Ma.zero Md.zero)).alloc (dcel Ma.zero Md.zero)) N Ma.zero Md.zero)∧(Mf ((w.alloc (dcel Ma.zero Md.zero)).alloc (dcel Ma.zero Md.zero)) (N+1)∧Db ((w.alloc (dcel Ma.zero Md.zero)).alloc (dcel Ma.zero Md.zero)) (N+1) Ma.zero Md.zero)∧Below w.heap.size w ((w.alloc (dcel Ma.zero Md.zero)).alloc (dcel Ma.zero Md.zero))∧((w.alloc (dcel Ma.zero Md.zero)).alloc (dcel Ma.zero Md.zero)).heap.size=N+2):=by
   have a1:=Mf.new (w.alloc (dcel Ma.zero Md.zero)) #[.slice none 0 0,.slice none 0 0,.slice none 0 0,.int .i64 0] 25;have a2:=Db.new (w.alloc (dcel Ma.zero Md.zero)) Ma.zero Md.zero;rw [size1,hN] at a1 a2;subst hN;exact ⟨⟨(Mf.new w _ _).keep new1,(Db.new w _ _).keep new1⟩,⟨a1,a2⟩,new1.alloc (by simp) _,by simp⟩
  have HC:Hid (Pc w N (N+1) (N+2) A c n l):=zhy ⟨hw,hr,hn,by omega,by omega,by omega⟩;have HNQ:=zhy hN;clear hw hr hR;go_enter Tryz.func44,Tryz.ntmps44;go_wp2;go_step3;go_wp2;go_step3;go_upto_region 5 with (fail);have H1':Hid ((Mf ((w.alloc (.cells #[.slice none 0 0,.slice none 0 0,.slice none 0 0,.int .i64 0] 25)).alloc (.cells #[.slice none 0 0,.slice none 0 0,.slice none 0 0,.int .i64 0] 25)) N∧Db ((w.alloc (.cells #[.slice none 0 0,.slice none 0 0,.slice none 0 0,.int .i64 0] 25)).alloc (.cells #[.slice none 0 0,.slice none 0 0,.slice none 0 0,.int .i64 0] 25)) N Ma.zero Md.zero)∧(Mf ((w.alloc (.cells #[.slice none 0 0,.slice none 0 0,.slice none 0 0,.int .i64 0] 25)).alloc (.cells #[.slice none 0 0,.slice none 0 0,.slice none 0 0,.int .i64 0] 25)) (N+1)∧Db ((w.alloc (.cells #[.slice none 0 0,.slice none 0 0,.slice none 0 0,.int .i64 0] 25)).alloc (.cells #[.slice none 0 0,.slice none 0 0,.slice none 0 0,.int .i64 0] 25)) (N+1) Ma.zero Md.zero)∧Below w.heap.size w ((w.alloc (.cells #[.slice none 0 0,.slice none 0 0,.slice none 0 0,.int .i64 0] 25)).alloc (.cells #[.slice none 0 0,.slice none 0 0,.slice none 0 0,.int .i64 0] 25))∧((w.alloc (.cells #[.slice none 0 0,.slice none 0 0,.slice none 0 0,.int .i64 0] 25)).alloc (.cells #[.slice none 0 0,.slice none 0 0,.slice none 0 0,.int .i64 0] 25)).heap.size=N+2):=H1;clear H1;generalize (w.alloc (.cells #[.slice none 0 0,.slice none 0 0,.slice none 0 0,.int .i64 0] 25)).alloc (.cells #[.slice none 0 0,.slice none 0 0,.slice none 0 0,.int .i64 0] 25)=w2 at *;clear hN;go_wp2_with fail;refine (parts8_v (w0:=w) (N:=N) (M:=N+1) (l:=l) H1'.out.2.2.1 H1'.out.1 H1'.out.2.1 ⟨by rw [HNQ.out];exact Nat.le_refl _,by omega,by rw [H1'.out.2.2.2];omega⟩ (N+2) H1'.out.2.2.2).mono ?_;rintro r w3 ⟨rfl,hp3⟩;have HP3:=zhy hp3;clear hp3 H1';generalize hB:N+2=B at *;generalize hM:N+1=M at *;clear hB hM;go_wp2_with fail;go_loopw [5,17] (fun f i wr=>∃(j:Nat) (p k t:Int) (y:Ma) (d:Md),j≤6∧i=.int .i64 j∧f=.int .i64 0∧Hid (Pq w wr N M B A c n l p k t y d)∧Hid (Jp l j p k d)) (fun _ i _=>6-(intOf i).toNat)
  case atStart=>exact ⟨0,0,0,0,Ma.zero,Md.zero,by omega,rfl,rfl,HP3,HJ⟩
  case round =>
   obtain ⟨j,p,k,t,y,d,hj,rfl,rfl,HP,HJr⟩:=hrel;clear HJ HP3;have HJ:=HJr;clear HJr;have hj8:j=0∨j=1∨j=2∨j=3∨j=4∨j=5∨j=6:=by omega
   rcases hj8 with hj0 | hj0 | hj0 | hj0 | hj0 | hj0 | hj0
   ·skip;subst hj0;obtain ⟨g,q,e,hR⟩:∃g q e,rdP l p=(g,q,e):=⟨_,_,_,rfl⟩;obtain ⟨v,hv⟩:∃v,decide ((g.length:Int)≤4)=v:=⟨_,rfl⟩;have HVV:=zhy hv;have HRD:=zhy hR;have HK:=zhy (part1_v HP.out HC.out g q e hR v hv);clear hR hv;obtain ⟨f00,f01,f02,f03,f04,f05,f06⟩:=HP.out.2.1.2;go_wp2_with fail;refine (HK.out).mono ?_;rintro r w4 ⟨rfl,A',c',h4⟩;have H4:=zhy h4;clear h4 HK HP;clear f00 f01 f02 f03 f04 f05 f06;by_cases he:e=0
    ·subst he;cases v with
     | false =>
      have HN:Hid (R=(Md.zero,80)):=by
       have h:=HJ.out;have hv:=of_decide_eq_false HVV.out;rw [Jp,HRR.out,HRD.out,qPg] at h;dsimp only at h;rw [if_pos rfl,if_pos (by omega)] at h;exact h
      have HE:=zhy H4.out.bad;obtain ⟨-,⟨⟨⟨m0,mf⟩,⟨m1,z0,z1,z2,z3⟩⟩,-⟩,-⟩:=H4.out;have mf0:=mf 0;have mf1:=mf 1;have mf2:=mf 2;have mf3:=mf 3;clear mf H4 HJ HVV HRD;go_wp2_with fail;rw [Exit.noGoto_ret];obtain rfl:=HN.out;obtain ⟨b1,b2,b3,b4⟩:=HE.out;exact mparse_end _ _ N Ma.zero Md.zero 80 rfl rfl b1 _ ⟨Ma.zero,rfl,b2,b3,b4⟩
     | true =>
      have HJ2:Hid (Jp l 1 q k { d with g:=g }):=by
       have h:=HJ.out;have hv:=of_decide_eq_true HVV.out;rw [Jp,HRD.out,qPg] at h;dsimp only at h;rw [if_pos rfl,if_neg (by omega)] at h;exact h
      clear HJ HVV HRD;go_wp2_with fail;go_roundw
      case rel=>exact ⟨1,q,k,t,_,_,by omega,rfl,rfl,H4,HJ2⟩
      case measure=>simp [intOf]
    ·have hne:(e != 0)=true:=by simpa using he
     have HN:Hid (R=(Md.zero,e)):=by
      have h:=HJ.out;rw [Jp,HRR.out,HRD.out,qPg,if_neg he] at h;exact h
     have HE:=zhy H4.out.bad;obtain ⟨-,⟨⟨⟨m0,mf⟩,⟨m1,z0,z1,z2,z3⟩⟩,-⟩,-⟩:=H4.out;have mf0:=mf 0;have mf1:=mf 1;have mf2:=mf 2;have mf3:=mf 3;clear mf H4 HJ HVV HRD;go_wp2_with fail;rw [Exit.noGoto_ret];obtain rfl:=HN.out;obtain ⟨b1,b2,b3,b4⟩:=HE.out;exact mparse_end _ _ N Ma.zero Md.zero e rfl rfl b1 _ ⟨Ma.zero,rfl,b2,b3,b4⟩
   ·skip;subst hj0;obtain ⟨g,q,e,hR⟩:∃g q e,rdP l p=(g,q,e):=⟨_,_,_,rfl⟩;have HRD:=zhy hR;have HK:=zhy (part2_v HP.out HC.out g q e hR);clear hR;obtain ⟨f00,f01,f02,f03,f04,f05,f06⟩:=HP.out.2.1.2;go_wp2_with fail;refine (HK.out).mono ?_;rintro r w4 ⟨rfl,A',c',h4⟩;have H4:=zhy h4;clear h4 HK HP;clear f00 f01 f02 f03 f04 f05 f06;by_cases he:e=0
    ·subst he
     have HJ2:Hid (Jp l 2 q k { d with p:=g }):=by
      have h:=HJ.out;rw [Jp,HRD.out,qPm,if_pos rfl] at h;exact h
     clear HJ HRD;go_wp2_with fail;go_roundw
     case rel=>exact ⟨2,q,k,t,_,_,by omega,rfl,rfl,H4,HJ2⟩
     case measure=>simp [intOf]
    ·have hne:(e != 0)=true:=by simpa using he
     have HN:Hid (R=(Md.zero,e)):=by
      have h:=HJ.out;rw [Jp,HRR.out,HRD.out,qPm,if_neg he] at h;exact h
     have HE:=zhy H4.out.bad;obtain ⟨-,⟨⟨⟨m0,mf⟩,⟨m1,z0,z1,z2,z3⟩⟩,-⟩,-⟩:=H4.out;have mf0:=mf 0;have mf1:=mf 1;have mf2:=mf 2;have mf3:=mf 3;clear mf H4 HJ HRD;go_wp2_with fail;rw [Exit.noGoto_ret];obtain rfl:=HN.out;obtain ⟨b1,b2,b3,b4⟩:=HE.out;exact mparse_end _ _ N Ma.zero Md.zero e rfl rfl b1 _ ⟨Ma.zero,rfl,b2,b3,b4⟩
   ·skip;subst hj0;obtain ⟨u,hu⟩:∃u,getV l p 1=u:=⟨_,rfl⟩;obtain ⟨q,hq⟩:∃q,getN l p 1=q:=⟨_,rfl⟩;obtain ⟨e,hE⟩:∃e,getE l p 1=e:=⟨_,rfl⟩;have hb8:=one8 HBY.out p;rw [hu,hq] at hb8;have HB8:=zhy hb8;clear hb8;obtain ⟨v,hv⟩:∃v,decide (u≤16)=v:=⟨_,rfl⟩;have HVV:=zhy hv;have HK:=zhy (part3_v HP.out HC.out u q e hu hq hE v hv);have HU:=zhy (And.intro hu (And.intro hq hE));clear hu hq hE hv;obtain ⟨f00,f01,f02,f03,f04,f05,f06⟩:=HP.out.2.1.2;go_wp2_with fail;refine (HK.out).mono ?_;rintro r w4 ⟨rfl,h4⟩;have H4:=zhy h4;clear h4 HK HP;clear f00 f01 f02 f03 f04 f05 f06;by_cases he:e=0
    ·subst he;cases v with
     | false =>
      have HN:Hid (R=(Md.zero,80)):=by
       have h:=HJ.out;have hv:=of_decide_eq_false HVV.out;rw [Jp,HRR.out,HU.out.2.2,if_pos rfl,HU.out.1,if_pos (by omega)] at h;exact h
      have HE:=zhy H4.out.bad;obtain ⟨-,⟨⟨⟨m0,mf⟩,⟨m1,z0,z1,z2,z3⟩⟩,-⟩,-⟩:=H4.out;have mf0:=mf 0;have mf1:=mf 1;have mf2:=mf 2;have mf3:=mf 3;clear mf H4 HJ HVV HU HB8;go_wp2_with fail;rw [Exit.noGoto_ret];obtain rfl:=HN.out;obtain ⟨b1,b2,b3,b4⟩:=HE.out;exact mparse_end _ _ N Ma.zero Md.zero 80 rfl rfl b1 _ ⟨Ma.zero,rfl,b2,b3,b4⟩
     | true =>
      have HJ2:Hid (Jp l 3 q u d):=by
       have h:=HJ.out;have hv:=of_decide_eq_true HVV.out;rw [Jp,HU.out.2.2,if_pos rfl,HU.out.1,HU.out.2.1,if_neg (by omega)] at h;exact ⟨⟨HB8.out.1.1,hv⟩,h⟩
      clear HJ HVV HU HB8;go_wp2_with fail;go_roundw
      case rel=>exact ⟨3,q,u,t,y,d,by omega,rfl,rfl,H4,HJ2⟩
      case measure=>simp [intOf]
    ·have hne:(e != 0)=true:=by simpa using he
     have HN:Hid (R=(Md.zero,e)):=by
      have h:=HJ.out;rw [Jp,HRR.out,HU.out.2.2,if_neg he] at h;exact h
     have HE:=zhy H4.out.bad;obtain ⟨-,⟨⟨⟨m0,mf⟩,⟨m1,z0,z1,z2,z3⟩⟩,-⟩,-⟩:=H4.out;have mf0:=mf 0;have mf1:=mf 1;have mf2:=mf 2;have mf3:=mf 3;clear mf H4 HJ HVV HU HB8;go_wp2_with fail;rw [Exit.noGoto_ret];obtain rfl:=HN.out;obtain ⟨b1,b2,b3,b4⟩:=HE.out;exact mparse_end _ _ N Ma.zero Md.zero e rfl rfl b1 _ ⟨Ma.zero,rfl,b2,b3,b4⟩
   ·skip;subst hj0;obtain ⟨kn,hkn⟩:∃kn:Nat,k=kn:=⟨k.toNat,by have:=HJ.out.1.1;omega⟩;subst hkn;obtain ⟨s,q,e,hR⟩:∃s q e,qms l kn p=(s,q,e):=⟨_,_,_,rfl⟩;have HRD:=zhy hR;have HK:=zhy (part4_v HP.out HC.out (by have:=HJ.out.1.2;omega) s q e hR);clear hR;obtain ⟨f00,f01,f02,f03,f04,f05,f06⟩:=HP.out.2.1.2;go_wp2_with fail;refine (HK.out).mono ?_;rintro r w4 ⟨rfl,A',c',Z,h4⟩;have H4:=zhy h4;clear h4 HK HP;clear f00 f01 f02 f03 f04 f05 f06;by_cases he:e=0
    ·subst he
     have HJ2:Hid (Jp l 4 q kn { d with s:=s }):=by
      have h:=HJ.out.2;have hl:=qms_len l kn p (by rw [HRD.out]);rw [HRD.out] at hl;dsimp only at hl;rw [Int.toNat_natCast,HRD.out,qPs,if_pos rfl] at h;exact ⟨by rw [hl],h⟩
     clear HJ HRD;go_wp2_with fail;go_roundw
     case rel=>exact ⟨4,q,kn,t,_,_,by omega,rfl,rfl,H4,HJ2⟩
     case measure=>simp [intOf]
    ·have hne:(e != 0)=true:=by simpa using he
     have HN:Hid (R=(Md.zero,e)):=by
      have h:=HJ.out.2;rw [HRR.out,Int.toNat_natCast,HRD.out,qPs,if_neg he] at h;exact h
     have HE:=zhy H4.out.bad;obtain ⟨-,⟨⟨⟨m0,mf⟩,⟨m1,z0,z1,z2,z3⟩⟩,-⟩,-⟩:=H4.out;have mf0:=mf 0;have mf1:=mf 1;have mf2:=mf 2;have mf3:=mf 3;clear mf H4 HJ HRD;go_wp2_with fail;rw [Exit.noGoto_ret];obtain rfl:=HN.out;obtain ⟨b1,b2,b3,b4⟩:=HE.out;exact mparse_end _ _ N Ma.zero Md.zero e rfl rfl b1 _ ⟨Ma.zero,rfl,b2,b3,b4⟩
   ·skip;subst hj0;obtain ⟨u,hu⟩:∃u,getV l p 1=u:=⟨_,rfl⟩;obtain ⟨q,hq⟩:∃q,getN l p 1=q:=⟨_,rfl⟩;obtain ⟨e,hE⟩:∃e,getE l p 1=e:=⟨_,rfl⟩;have hb8:=one8 HBY.out p;rw [hu,hq] at hb8;have HB8:=zhy hb8;clear hb8;obtain ⟨v,hv⟩:∃v,decide ((if u=255 then -1 else u)=-1∨0≤(if u=255 then -1 else u)∧(if u=255 then -1 else u)<(d.s.length:Int))=v:=⟨_,rfl⟩;have HVV:=zhy hv;have HK:=zhy (part5_v HP.out HC.out u q e hu hq hE HB8.out.1 v hv);have HU:=zhy (And.intro hu (And.intro hq hE));clear hu hq hE hv;obtain ⟨f00,f01,f02,f03,f04,f05,f06⟩:=HP.out.2.1.2;go_wp2_with fail;refine (HK.out).mono ?_;rintro r w4 ⟨rfl,h4⟩;have H4:=zhy h4;clear h4 HK HP;clear f00 f01 f02 f03 f04 f05 f06;by_cases he:e=0
    ·subst he;cases v with
     | false =>
      have HN:Hid (R=(Md.zero,80)):=by
       have h:=HJ.out.2;have hk:=HJ.out.1;have hb:=HB8.out;have hv:=of_decide_eq_false HVV.out;rw [HRR.out,qPz,HU.out.2.2,if_pos rfl,HU.out.1,HU.out.2.1,if_pos (by split at hv<;>omega)] at h;exact h
      have HE:=zhy H4.out.bad;obtain ⟨-,⟨⟨⟨m0,mf⟩,⟨m1,z0,z1,z2,z3⟩⟩,-⟩,-⟩:=H4.out;have mf0:=mf 0;have mf1:=mf 1;have mf2:=mf 2;have mf3:=mf 3;clear mf H4 HJ HVV HU HB8;go_wp2_with fail;rw [Exit.noGoto_ret];obtain rfl:=HN.out;obtain ⟨b1,b2,b3,b4⟩:=HE.out;exact mparse_end _ _ N Ma.zero Md.zero 80 rfl rfl b1 _ ⟨Ma.zero,rfl,b2,b3,b4⟩
     | true =>
      have HJ2:Hid (Jp l 5 q k { d with i:=if u=255 then -1 else u }):=by
       have h:=HJ.out.2;have hk:=HJ.out.1;have hb:=HB8.out;have hv:=of_decide_eq_true HVV.out;rw [qPz,HU.out.2.2,if_pos rfl,HU.out.1,HU.out.2.1] at h;refine ⟨hb.2,h.trans ?_⟩;by_cases hl:q<l.length
       ·rw [if_pos (Or.inr hl),if_pos hl]
       ·rw [if_neg hl,if_neg (by split at hv<;>omega)]
      clear HJ HVV HU HB8;go_wp2_with fail;go_roundw
      case rel=>exact ⟨5,q,k,u,y,_,by omega,rfl,rfl,H4,HJ2⟩
      case measure=>simp [intOf]
    ·have hne:(e != 0)=true:=by simpa using he
     have HN:Hid (R=(Md.zero,e)):=by
      have h:=HJ.out.2;rw [HRR.out,qPz,HU.out.2.2,if_neg he] at h;exact h
     have HE:=zhy H4.out.bad;obtain ⟨-,⟨⟨⟨m0,mf⟩,⟨m1,z0,z1,z2,z3⟩⟩,-⟩,-⟩:=H4.out;have mf0:=mf 0;have mf1:=mf 1;have mf2:=mf 2;have mf3:=mf 3;clear mf H4 HJ HVV HU HB8;go_wp2_with fail;rw [Exit.noGoto_ret];obtain rfl:=HN.out;obtain ⟨b1,b2,b3,b4⟩:=HE.out;exact mparse_end _ _ N Ma.zero Md.zero e rfl rfl b1 _ ⟨Ma.zero,rfl,b2,b3,b4⟩
   ·skip;subst hj0;obtain ⟨v,hv⟩:∃v,decide (p=(n:Int))=v:=⟨_,rfl⟩;have HVV:=zhy hv;have HK:=zhy (part6_v HP.out v hv);have HLN:=zhy hn;clear hv;obtain ⟨f00,f01,f02,f03,f04,f05,f06⟩:=HP.out.2.1.2;go_wp2_with fail;refine (HK.out).mono ?_;rintro r w4 ⟨rfl,h4⟩;have H4:=zhy h4;clear h4 HK HP;clear f00 f01 f02 f03 f04 f05 f06;cases v with
    | false =>
     have HN:Hid (R=(Md.zero,80)):=by
      obtain ⟨h1,h⟩:=HJ.out;have hv:=of_decide_eq_false HVV.out;have hn:=HLN.out;rw [HRR.out,if_pos (by omega)] at h;exact h
     have HE:=zhy H4.out.bad;obtain ⟨-,⟨⟨⟨m0,mf⟩,⟨m1,z0,z1,z2,z3⟩⟩,-⟩,-⟩:=H4.out;have mf0:=mf 0;have mf1:=mf 1;have mf2:=mf 2;have mf3:=mf 3;clear mf H4 HJ HVV HLN;go_wp2_with fail;rw [Exit.noGoto_ret];obtain rfl:=HN.out;obtain ⟨b1,b2,b3,b4⟩:=HE.out;exact mparse_end _ _ N Ma.zero Md.zero 80 rfl rfl b1 _ ⟨Ma.zero,rfl,b2,b3,b4⟩
    | true =>
     have HJ2:Hid (Jp l 6 p k d):=by
      obtain ⟨h1,h⟩:=HJ.out;have hv:=of_decide_eq_true HVV.out;have hn:=HLN.out;rw [if_neg (by omega)] at h;exact h
     clear HJ HVV HLN;go_wp2_with fail;go_roundw
     case rel=>exact ⟨6,p,k,t,y,d,by omega,rfl,rfl,H4,HJ2⟩
     case measure=>simp [intOf]
   ·subst hj0
    have HN:Hid (R=(d,0)):=by
     have h:qP l=(d,0):=HJ.out;rw [HRR.out] at h;exact h
    have HE:=zhy HP.out.good;obtain ⟨-,⟨⟨⟨m0,mf⟩,⟨m1,z0,z1,z2,z3⟩⟩,-⟩,⟨-,⟨n1,x0,x1,x2,x3⟩⟩,-⟩:=HP.out;have mf0:=mf 0;have mf1:=mf 1;have mf2:=mf 2;have mf3:=mf 3;clear mf HP HJ;go_wp2_with fail;try rw [Exit.noGoto_ret]
    obtain rfl:=HN.out;obtain ⟨b1,b2,b3,b4⟩:=HE.out;exact mparse_end _ _ N y d 0 rfl rfl b1 _ ⟨y,rfl,b2,b3,b4⟩
end Go.Proofs.YtnjgkkoiamiaaaaGreatDoor
