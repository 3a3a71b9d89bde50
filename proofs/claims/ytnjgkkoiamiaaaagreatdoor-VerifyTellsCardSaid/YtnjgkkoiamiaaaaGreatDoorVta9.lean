import Derived.Test.YtnjgkkoiamiaaaaGreatDoorVta1
import Derived.Test.YtnjgkkoiamiaaaaGreatDoorVta5
import Derived.Test.YtnjgkkoiamiaaaaGreatDoorVta6
import Derived.Test.YtnjgkkoiamiaaaaGreatDoorVta3
import Derived.Deep.WholeRow
import Derived.Laws.OwnMore
set_option maxRecDepth 100000
set_option maxHeartbeats 16000000
set_option linter.unusedSimpArgs false
set_option linter.unusedVariables false
namespace Go.Proofs.YtnjgkkoiamiaaaaGreatDoor
open Go.RowKit
def sF9 (l:List Ins) (p:Nat):List Nat:=(List.range p).filter fun f=>iO9 l f==28
def sT9 (l:List Ins) (f p:Nat):Nat:=(zag l f p).headD 0
def sL9 (l:List Ins) (p:Nat):List Lp:=(sF9 l p).map fun f=>(f,sT9 l f p,iA9 l f)
def sS9 (l:List Ins) (p:Nat):List Nat:=(sF9 l p).filter fun f=>(zag l f p).isEmpty
def qfr (l:List Ins) (q:Nat):Prop:=(iO9 l q=28→(sS9 l q).length<4)∧(iO9 l q=29→∃f,(sS9 l q).getLast?=some f∧iA9 l q=(f:Int))
def sG9 (l:List Ins) (p:Nat):Prop:=∀q,q<p→qfr l q
def ix9 (l:List Ins) (f:Nat):Nat:=(sF9 l f).length
section
variable {l : List Ins} {f p q : Nat}
theorem zc9 (l:List Ins) (f p:Nat):zag l f (p+1)=zag l f p++(if zmu l f p=true then [p] else []):=by
 rw [zag,List.range_succ,List.filter_append];simp only [List.filter_cons,List.filter_nil,zag]
theorem zdl (h:iO9 l p≠29):zag l f (p+1)=zag l f p:=by
 rw [zc9,if_neg (by simp [zmu,h]),List.append_nil]
theorem za2 (l:List Ins) (p:Nat):sF9 l (p+1)=sF9 l p++(if iO9 l p=28 then [p] else []):=by
 rw [sF9,List.range_succ,List.filter_append];simp only [List.filter_cons,List.filter_nil,sF9,beq_iff_eq]
theorem zsf:f∈sF9 l p↔f<p∧iO9 l f=28:=by simp [sF9]
theorem qbf (l:List Ins) (p:Nat):(sF9 l p).Pairwise (·<·):=List.Pairwise.filter _ List.pairwise_lt_range
theorem zau:f∈sS9 l p↔f<p∧iO9 l f=28∧zag l f p=[]:=by
 rw [sS9,List.mem_filter,zsf,List.isEmpty_iff,and_assoc]
theorem zxc (l:List Ins) (p:Nat):(sS9 l p).Pairwise (·<·):=List.Pairwise.filter _ (qbf l p)
theorem zmi {f g:Nat} (h:(sS9 l p).getLast?=some f) (hg:g∈sS9 l p):g≤f:=by
 obtain ⟨ys,hy⟩:=List.getLast?_eq_some_iff.1 h;have hp:=zxc l p;rw [hy,List.pairwise_append] at hp;rw [hy,List.mem_append] at hg;rcases hg with hg | hg
 ·exact Nat.le_of_lt (hp.2.2 g hg f (List.mem_singleton.2 rfl))
 ·rw [List.mem_singleton.1 hg];exact Nat.le_refl _
theorem zfk:∀p,f<p→iO9 l f=28→∃R,sF9 l p=sF9 l f++f::R∧∀r∈R,f<r
 | 0,h,_=>by omega
 | p+1,h,h0=>by
  by_cases e:f=p
  ·subst e;exact ⟨[],by rw [za2,if_pos h0],fun r hr=>(by cases hr)⟩
  ·obtain ⟨R,h1,h2⟩:=zfk p (by omega) h0;refine ⟨R++(if iO9 l p=28 then [p] else []),by rw [za2,h1];simp,fun r hr=>?_⟩;rw [List.mem_append] at hr;rcases hr with hr | hr
   ·exact h2 r hr
   ·split at hr
    ·rw [List.mem_singleton.1 hr];omega
    ·cases hr
theorem zmp (h1:iO9 l p≠28) (h2:iO9 l p≠29):sL9 l (p+1)=sL9 l p∧sS9 l (p+1)=sS9 l p:=by
 have e:sF9 l (p+1)=sF9 l p:=by rw [za2,if_neg h1,List.append_nil]
 constructor
 ·simp only [sL9,sT9,e,zdl h2]
 ·simp only [sS9,e,zdl h2]
theorem zkx (h1:iO9 l p=28) (h0:zag l p p=[]):sL9 l (p+1)=sL9 l p++[(p,0,iA9 l p)]∧sS9 l (p+1)=sS9 l p++[p]:=by
 have h2:iO9 l p≠29:=by omega
 have e:sF9 l (p+1)=sF9 l p++[p]:=by rw [za2,if_pos h1]
 constructor
 ·simp only [sL9,sT9,e,zdl h2,List.map_append,List.map_cons,List.map_nil,h0];rfl
 ·simp only [sS9,e,zdl h2,List.filter_append,List.filter_cons,List.filter_nil,h0];rfl
theorem zmq (hG:sG9 l p):zag l p p=[]:=by
 cases h:zag l p p with
 | nil=>rfl
 | cons q qs =>
  have hq:q∈zag l p p:=by rw [h];exact List.mem_cons_self
  rw [jk] at hq;obtain ⟨f,hf,he⟩:=(hG q hq.1).2 hq.2.1;have:=(zau.1 (List.mem_of_getLast? hf)).1;rw [hq.2.2] at he;omega
theorem qaj (hf:f<p) (h0:iO9 l f=28):(sL9 l p)[ix9 l f]?=some (f,sT9 l f p,iA9 l f):=by
 obtain ⟨R,h1,-⟩:=zfk p hf h0;rw [sL9,h1,ix9];simp
theorem zmc (h1:iO9 l p=29) (hf:(sS9 l p).getLast?=some f) (hA:iA9 l p=(f:Int)):sL9 l (p+1)=(sL9 l p).set (ix9 l f) (f,p,iA9 l f)∧sS9 l (p+1)=(sS9 l p).dropLast:=by
 have h2:iO9 l p≠28:=by omega
 have e:sF9 l (p+1)=sF9 l p:=by rw [za2,if_neg h2,List.append_nil]
 obtain ⟨hfp,hf0,hfe⟩:=zau.1 (List.mem_of_getLast? hf)
 have hs:zag l f (p+1)=[p]:=by
  rw [zc9,hfe,if_pos (by simp [zmu,h1,hA])];rfl
 have ho:∀g,g≠f→zag l g (p+1)=zag l g p:=fun g hg=>by
  rw [zc9,if_neg (by simp [zmu,h1,hA];omega),List.append_nil]
 constructor
 ·obtain ⟨R,hR,hlt⟩:=zfk p hfp hf0
  have a1:∀xs:List Nat,(∀x∈xs,x≠f)→(xs.map fun g=>((g,sT9 l g (p+1),iA9 l g):Lp))=xs.map fun g=>(g,sT9 l g p,iA9 l g):=fun xs hx=>by
   apply List.map_congr_left;intro g hg;simp only [sT9,ho g (hx g hg)]
  have hl:∀x∈sF9 l f,x≠f:=fun x hx=>by have:=(zsf.1 hx).1;omega
  have hr:∀x∈R,x≠f:=fun x hx=>by have:=hlt x hx;omega
  rw [sL9,sL9,e,hR,List.map_append,List.map_append,List.map_cons,List.map_cons,a1 _ hl,a1 _ hr,ix9,List.set_append_right _ _ (by simp)];simp [sT9,hs]
 ·obtain ⟨ys,hy⟩:=List.getLast?_eq_some_iff.1 hf;have hp:=zxc l p;rw [hy,List.pairwise_append] at hp
  have a1:sS9 l (p+1)=(sS9 l p).filter fun g=>g != f:=by
   rw [sS9,sS9,e,List.filter_filter];apply List.filter_congr;intro g hg;by_cases hgf:g=f
   ·subst hgf;rw [hs];simp
   ·rw [ho g hgf];simp [hgf]
  rw [a1,hy,List.dropLast_concat,List.filter_append,List.filter_eq_self.2 (fun g hg=>by
   have:=hp.2.2 g hg f (List.mem_singleton.2 rfl);simp;omega)]
  simp
theorem zk7 (f:Nat):∀p,sG9 l p→zag l f p=[]∨∃q,zag l f p=[q]∧f<q∧q<p∧iO9 l f=28
 | 0,_=>.inl rfl
 | p+1,hG=>by
  rw [zc9];by_cases h:zmu l f p=true
  ·rw [if_pos h];simp only [zmu,Bool.and_eq_true,beq_iff_eq] at h;obtain ⟨g,hg,hA⟩:=(hG p (by omega)).2 h.1;rw [h.2] at hA;obtain rfl:f=g:=by omega
   obtain ⟨h1,h2,h3⟩:=zau.1 (List.mem_of_getLast? hg);exact .inr ⟨p,by rw [h3];rfl,h1,by omega,h2⟩
  ·rw [if_neg h,List.append_nil];rcases zk7 f p (fun q hq=>hG q (by omega)) with h1 | ⟨q,h1,h2,h3,h4⟩
   ·exact .inl h1
   ·exact .inr ⟨q,h1,h2,by omega,h4⟩
theorem zro:∀p,sG9 l p→(sS9 l p).length≤4
 | 0,_=>by simp [sS9,sF9]
 | p+1,hG=>by
  have hG':sG9 l p:=fun q hq=>hG q (by omega);have ih:=zro p hG';by_cases h1:iO9 l p=28
  ·rw [(zkx h1 (zmq hG')).2,List.length_append];have:=(hG p (by omega)).1 h1;simp;omega
  ·by_cases h2:iO9 l p=29
   ·obtain ⟨f,hf,hA⟩:=(hG p (by omega)).2 h2;rw [(zmc h2 hf hA).2,List.length_dropLast];omega
   ·rw [(zmp h1 h2).2];exact ih
theorem zd8 {α β:Type} {f g:α→List β}:∀xs:List α,(∀x∈xs,f x=g x)→xs.flatMap f=xs.flatMap g
 | [],_=>rfl
 | x::xs,h=>by
  rw [List.flatMap_cons,List.flatMap_cons,h x List.mem_cons_self,zd8 xs (fun y hy=>h y (List.mem_cons_of_mem _ hy))]
theorem zf9 {α β:Type} (c:α→Bool) (g:α→β):∀xs:List α,(xs.flatMap fun x=>if c x=true then [g x] else [])=(xs.filter c).map g
 | []=>rfl
 | x::xs=>by
  rw [List.flatMap_cons,zf9 c g xs,List.filter_cons];split<;>simp
def zte (l:List Ins):Prop:=∀f,f<l.length→iO9 l f=28→∃t,zag l f l.length=[t]∧f<t
theorem zte.loops (h:zte l):qy l l.length=sL9 l l.length:=by
 rw [qy,sL9,sF9,←zf9];refine zd8 _ fun f hf=>?_;rw [ztv];by_cases h0:iO9 l f=28
 ·obtain ⟨t,ht,-⟩:=h f (List.mem_range.1 hf) h0;rw [if_pos h0,if_pos (by simp [h0]),zfr,ht,sT9,ht];rfl
 ·rw [if_neg h0,if_neg (by simp [h0])]
theorem zte.mem (h:zte l) {x:Lp} (hx:x∈qy l l.length):iO9 l x.1=28∧zag l x.1 l.length=[x.2.1]∧x.1<x.2.1∧x.2.1<l.length∧iO9 l x.2.1=29∧iA9 l x.2.1=x.1:=by
 obtain ⟨f,hf,h0,p,hp,rfl⟩:=zbs.1 hx;obtain ⟨t,ht,hlt⟩:=h f hf h0;have hp2:=jk.1 hp;rw [ht,List.mem_singleton] at hp;subst hp;exact ⟨h0,ht,hlt,hp2⟩
theorem zb5 {t:Nat} (h:zag l f l.length=[t]) (hq:q≤l.length):zag l f q=[]↔q≤t:=by
 have ht:t∈zag l f l.length:=by rw [h];exact List.mem_singleton.2 rfl
 rw [jk] at ht;constructor
 ·intro h0;by_cases hlt:t<q
  ·have:t∈zag l f q:=jk.2 ⟨hlt,ht.2⟩;rw [h0] at this;cases this
  ·omega
 ·intro hle;cases hk:zag l f q with
  | nil=>rfl
  | cons r rs =>
   have hr:r∈zag l f q:=by rw [hk];exact List.mem_cons_self
   rw [jk] at hr;have:r∈zag l f l.length:=jk.2 ⟨by omega,hr.2⟩;rw [h,List.mem_singleton] at this;omega
theorem zte.around (h:zte l) (hq:q≤l.length):(lq9 (qy l l.length) q).length=(sS9 l q).length:=by
 have hlen:∀(xs:List Nat) (g:Nat→Lp),((xs.map g).filter fun x=>wi9 x q).length=(xs.filter fun f=>wi9 (g f) q).length:=fun xs g=>by
  rw [List.filter_map,List.length_map];rfl
 rw [h.loops,lq9,sL9,hlen];have:sF9 l l.length=(List.range l.length).filter fun f=>iO9 l f==28:=rfl;rw [this,List.filter_filter,sS9,sF9,List.filter_filter];obtain ⟨k,hk⟩:∃k,l.length=q+k:=⟨l.length-q,by omega⟩;rw [show List.range l.length=List.range q++(List.range k).map (q+·) by rw [hk,List.range_add],List.filter_append]
 have h2:((List.range k).map (q+·)).filter (fun a=>wi9 (a,sT9 l a l.length,iA9 l a) q&&(iO9 l a==28))=[]:=by
  rw [List.filter_eq_nil_iff];intro a ha;rw [List.mem_map] at ha;obtain ⟨b,-,rfl⟩:=ha;rw [Bool.and_eq_true,zd];intro hh;have:q+b<q:=hh.1.1;omega
 rw [h2,List.append_nil];congr 1;apply List.filter_congr;intro f hf;by_cases h0:iO9 l f=28
 ·obtain ⟨t,ht,hlt⟩:=h f (by have:=List.mem_range.1 hf;omega) h0
  have e:(zag l f q).isEmpty=decide (q≤t):=by
   rw [Bool.eq_iff_iff,List.isEmpty_iff,zb5 ht hq,decide_eq_true_iff]
  have e2:sT9 l f l.length=t:=by rw [sT9,ht];rfl
  rw [e,e2,wi9,decide_eq_true (List.mem_range.1 hf)];simp
 ·have:(iO9 l f==28)=false:=by simpa using h0
  rw [this,Bool.and_false,Bool.and_false]
theorem zq2 (hc:jq l=true):(ze2 l=true∧ns9 (qy l l.length) l.length=true)↔(sG9 l l.length∧sS9 l l.length=[]):=by
 obtain ⟨c1,c2,c3⟩:=qw hc;constructor
 ·rintro ⟨hok,hns⟩;rw [ze2,Bool.and_eq_true,List.all_eq_true,List.all_eq_true] at hok;have okf:∀f,f<l.length→zkg l f=true:=fun f hf=>hok.1 f (List.mem_range.2 hf);have oka:∀p,p<l.length→zkk l p=true:=fun p hp=>hok.2 p (List.mem_range.2 hp);have hone:zte l:=fun f hf h0=>zeo (okf f hf) h0;rw [ns9,Bool.and_eq_true,List.all_eq_true,List.all_eq_true] at hns
  have hdeep:∀q,q<l.length→(sS9 l q).length≤4:=fun q hq=>by
   rw [←hone.around (Nat.le_of_lt hq)];simpa using hns.2 q (List.mem_range.2 hq)
  have key:∀x∈qy l l.length,∀y∈qy l l.length,y.1<x.1→np9 x y=true:=fun x hx y hy hlt=>by
   obtain ⟨i,hi,rfl⟩:=List.getElem_of_mem hx;obtain ⟨j,hj,rfl⟩:=List.getElem_of_mem hy;have hso:=zh6 okf l.length (Nat.le_refl _);rw [List.pairwise_iff_getElem] at hso
   have hji:j<i:=by
    rcases Nat.lt_trichotomy j i with h | rfl | h
    ·exact h
    ·omega
    ·have:=hso i j hi hj h;omega
   have a:=hns.1 i (List.mem_range.2 hi);rw [List.all_eq_true] at a;have b:=a j (List.mem_range.2 hji);rw [List.getD_eq_getElem?_getD,List.getD_eq_getElem?_getD,zg7 hi,zg7 hj] at b;exact b
  refine ⟨fun q hq=>⟨fun h28=>?_,fun h29=>?_⟩,?_⟩
  ·obtain ⟨t,ht,hlt⟩:=hone q hq h28;have hm:=jk.1 (show t∈zag l q l.length by rw [ht];exact List.mem_singleton.2 rfl);have h0:zag l q q=[]:=(zb5 ht (by omega)).2 (by omega);have:=hdeep (q+1) (by omega);rw [(zkx h28 h0).2,List.length_append] at this;simp at this;omega
  ·have ha:=oka q hq;rw [zkk,if_pos h29,Bool.and_eq_true,decide_eq_true_eq,beq_iff_eq] at ha;obtain ⟨m1,m2,m3⟩:=zd0 hq;have hnn:=zd5 (c3 _ m1);rw [←m3] at hnn;obtain ⟨a,hA⟩:∃a:Nat,iA9 l q=a:=⟨(iA9 l q).toNat,by omega⟩;rw [hA,Int.toNat_natCast] at ha;have haq:=zag l a l.length;obtain ⟨t,ht,hlt⟩:=hone a (by omega) ha.2;have hq2:q∈zag l a l.length:=jk.2 ⟨hq,h29,hA⟩;rw [ht,List.mem_singleton] at hq2;subst hq2;have hma:a∈sS9 l q:=zau.2 ⟨hlt,ha.2,(zb5 ht (by omega)).2 (Nat.le_refl _)⟩;cases hl:(sS9 l q).getLast? with
   | none=>rw [List.getLast?_eq_none_iff.1 hl] at hma;cases hma
   | some g =>
    refine ⟨g,rfl,?_⟩;have hle:=zmi hl hma;by_cases e:a=g
    ·rw [hA,e]
    ·obtain ⟨g1,g2,g3⟩:=zau.1 (List.mem_of_getLast? hl);obtain ⟨u,hu,hgu⟩:=hone g (by omega) g2;have hqu:=(zb5 hu (by omega)).1 g3;have hmu:=jk.1 (show u∈zag l g l.length by rw [hu];exact List.mem_singleton.2 rfl);have hx:((g,u,iA9 l g):Lp)∈qy l l.length:=zbs.2 ⟨g,by omega,g2,u,by rw [hu];exact List.mem_singleton.2 rfl,rfl⟩;have hy:((a,q,iA9 l a):Lp)∈qy l l.length:=zbs.2 ⟨a,by omega,ha.2,q,by rw [ht];exact List.mem_singleton.2 rfl,rfl⟩;have hn:=key _ hx _ hy (by show a<g;omega);exfalso
     have hqu2:q≠u:=fun e2=>by
      have:=hmu.2.2;rw [←e2,hA] at this;omega
     have c1:cm9 (g,u,iA9 l g) (a,q,iA9 l a)=true:=by simp only [cm9,Bool.and_eq_true,decide_eq_true_eq];omega
     have c2:is9 (g,u,iA9 l g) (a,q,iA9 l a)=false:=by
      rw [Bool.eq_false_iff];simp only [is9,ne_eq,Bool.and_eq_true,zd];omega
     have c3:is9 (a,q,iA9 l a) (g,u,iA9 l g)=false:=by
      rw [Bool.eq_false_iff];simp only [is9,ne_eq,Bool.and_eq_true,zd];omega
     rw [np9,c1,c2,c3] at hn;cases hn
  ·rw [List.eq_nil_iff_forall_not_mem];intro f hf;obtain ⟨f1,f2,f3⟩:=zau.1 hf;obtain ⟨t,ht,-⟩:=hone f f1 f2;rw [ht] at f3;cases f3
 ·rintro ⟨hG,hS⟩
  have hone:zte l:=fun f hf h0=>by
   rcases zk7 f l.length hG with h1 | ⟨q,h1,h2,h3,-⟩
   ·have:f∈sS9 l l.length:=zau.2 ⟨hf,h0,h1⟩;rw [hS] at this;cases this
   ·exact ⟨q,h1,h2⟩
  have okf:∀f,f<l.length→zkg l f=true:=fun f hf=>by
   rw [zkg];split
   ·rename_i h0;obtain ⟨t,ht,hlt⟩:=hone f hf h0;rw [ht];simp;omega
   ·rfl
  have oka:∀p,p<l.length→zkk l p=true:=fun p hp=>by
   rw [zkk];split
   ·rename_i h0;obtain ⟨f,hf,hA⟩:=(hG p hp).2 h0;obtain ⟨f1,f2,-⟩:=zau.1 (List.mem_of_getLast? hf);rw [hA,Int.toNat_natCast,f2,decide_eq_true (by omega)];rfl
   ·rfl
  refine ⟨by rw [ze2,Bool.and_eq_true,List.all_eq_true,List.all_eq_true];exact ⟨fun f hf=>okf f (List.mem_range.1 hf),fun p hp=>oka p (List.mem_range.1 hp)⟩,?_⟩;rw [ns9,Bool.and_eq_true,List.all_eq_true,List.all_eq_true];constructor
  ·intro i hi;rw [List.mem_range] at hi;rw [List.all_eq_true];intro j hj;rw [List.mem_range] at hj;have hj2:j<(qy l l.length).length:=by omega
   rw [List.getD_eq_getElem?_getD,List.getD_eq_getElem?_getD,zg7 hi,zg7 hj2,Option.getD_some,Option.getD_some];have hso:=zh6 okf l.length (Nat.le_refl _);rw [List.pairwise_iff_getElem] at hso;have hlt:=hso j i hj2 hi hj;obtain ⟨x1,x2,x3,x4,x5,x6⟩:=hone.mem (List.getElem_mem hi);obtain ⟨y1,y2,y3,y4,y5,y6⟩:=hone.mem (List.getElem_mem hj2);generalize (qy l l.length)[i]=x at *;generalize (qy l l.length)[j]=y at *;rw [np9];cases hcm:cm9 x y with
   | false=>rfl
   | true =>
    simp only [cm9,Bool.and_eq_true,decide_eq_true_eq] at hcm
    have:is9 x y=true:=by
     rw [is9,Bool.and_eq_true,zd,zd];refine ⟨⟨hlt,by omega⟩,by omega,?_⟩;by_cases hh:x.2.1≤y.2.1
     ·exact hh
     ·obtain ⟨f,hf,hA⟩:=(hG y.2.1 y4).2 y5;rw [y6] at hA;obtain rfl:y.1=f:=by omega
      have:=zmi hf (zau.2 ⟨hcm.1,x1,(zb5 x2 (by omega)).2 (by omega)⟩);omega
    rw [this];rfl
  ·intro q hq;rw [List.mem_range] at hq;rw [decide_eq_true_eq,hone.around (Nat.le_of_lt hq)];exact zro q (fun r hr=>hG r (by omega))
theorem zi5 (hG:sG9 l l.length) (hS:sS9 l l.length=[]):qy l l.length=sL9 l l.length:=by
 refine zte.loops fun f hf h0=>?_;rcases zk7 f l.length hG with h1 | ⟨q,h1,h2,h3,-⟩
 ·have:f∈sS9 l l.length:=zau.2 ⟨hf,h0,h1⟩;rw [hS] at this;cases this
 ·exact ⟨q,h1,h2⟩
end
theorem Ri.cl9 {w:World} {A:Option Addr} {c:Nat} {L:List Ins} (h:Ri w A c L) {i:Nat} {o a z:Int} (hx:L[i]?=some (o,a,z)):∃ad:Addr,A=some ad∧w.cell? (ad.add (i*3))=some (.int .u8 o)∧w.cell? ⟨(ad.add (i*3)).block,(ad.add (i*3)).off+1,none⟩=some (.int .i64 a)∧w.cell? ⟨(ad.add (i*3)).block,(ad.add (i*3)).off+2,none⟩=some (.int .i64 z):=by
 obtain ⟨hi,he⟩:=zg8.1 hx;obtain ⟨ad,hA,h1,h2,h3⟩:=h.at_ hi;rw [he] at h1 h2 h3;exact ⟨ad,hA,h1,h2,h3⟩
theorem Rj.cl9 {w:World} {A:Option Addr} {c:Nat} {L:List Lp} (h:Rj w A c L) {i f t:Nat} {z:Int} (hx:L[i]?=some (f,t,z)):∃ad:Addr,A=some ad∧w.cell? (ad.add (i*3))=some (.int .i64 f)∧w.cell? ⟨(ad.add (i*3)).block,(ad.add (i*3)).off+1,none⟩=some (.int .i64 t)∧w.cell? ⟨(ad.add (i*3)).block,(ad.add (i*3)).off+2,none⟩=some (.int .i64 z):=by
 obtain ⟨hi,he⟩:=zg8.1 hx;obtain ⟨ad,hA,h1,h2,h3⟩:=h.at_ hi;rw [he] at h1 h2 h3;exact ⟨ad,hA,h1,h2,h3⟩
theorem zl3 (f t p:Nat) (k:Int) (w:World):Calls Tryz.prog 192 #[.agg #[.int .i64 f,.int .i64 t,.int .i64 k],.int .i64 p] w fun r w'=>r=.returned (.bool (decide (f<p)&&decide (p≤t)))∧Below w.heap.size w w':=by
 by_cases h1:f<p
 ·by_cases h2:p≤t
  all_goals
   go_enter Tryz.func192,Tryz.ntmps192
   go_wp2_with fail
   go_ret
   exact ⟨by simp [h1,h2],qh⟩
 ·go_enter Tryz.func192,Tryz.ntmps192;go_wp2_with fail;go_ret;exact ⟨by simp [h1],qh⟩
def tg9 (x:Ins):Int:=if x.1=29 then x.2.1+1 else x.2.1
theorem zun (o a z:Int) (w:World) (ha:0≤a∧a≤1000000):Calls Tryz.prog 197 #[.agg #[.int .u8 o,.int .i64 a,.int .i64 z]] w fun r w'=>r=.returned (.int .i64 (tg9 (o,a,z)))∧Below w.heap.size w w':=by
 by_cases h1:o=29
 ·subst h1
  have hwr:IntKind.i64.wrap (a+1)=a+1:=by
   simp [IntKind.wrap,IntKind.signed,IntKind.bits,go_sem];omega
  go_enter Tryz.func197,Tryz.ntmps197;go_wp2_with fail;go_ret;exact ⟨rfl,qh⟩
 ·have hne:(o==29)=false:=by simpa using h1
  go_enter Tryz.func197,Tryz.ntmps197;go_wp2_with fail;go_ret;exact ⟨by rw [tg9,if_neg h1];rfl,qh⟩
theorem zt0 (A:Option Addr) (c m:Nat) (L:List Ins) (w:World) (hr:Ri w A c L) (hm:L.length=m):Calls Tryz.prog 91 #[.slice A m c] w fun r w'=>r=.returned (.bool (jq L))∧Below w.heap.size w w':=by
 have HLm:=zhy hm;have HR:=zhy hr;have hml:m≤9223372036854775807:=by have:=hr.len;omega
 clear hr hm;by_cases hm1:m<1
 ·have HN:Hid (jq L=false):=zhy (by rw [jq,HLm.o,decide_eq_false (by omega)];rfl);go_enter Tryz.func91,Tryz.ntmps91;go_wp2_with fail;go_ret;exact ⟨by rw [HN.o];rfl,Below.refl _ _⟩
 by_cases hm2:200<m
 ·have HN:Hid (jq L=false):=zhy (by rw [jq,HLm.o,decide_eq_false (p:=m≤200) (by omega),Bool.and_false];rfl);go_enter Tryz.func91,Tryz.ntmps91;go_wp2_with fail;go_ret;exact ⟨by rw [HN.o];rfl,Below.refl _ _⟩
 go_enter Tryz.func91,Tryz.ntmps91;go_wp2_with fail;go_loopw [15] (fun iv wr=>∃i:Nat,i≤m∧iv=.int .i64 i∧Hid ((L.take i).all inM=true)∧Hid (Below w.heap.size w wr)) (fun iv _=>m-(intOf iv).toNat)
 case atStart=>exact ⟨0,by omega,rfl,zhy rfl,zhy (Below.refl _ _)⟩
 case round =>
  obtain ⟨i,hi,rfl,HI,HB⟩:=hrel;by_cases h1:i<m
  ·obtain ⟨⟨o,a,z⟩,hx⟩:∃x,L[i]?=some x:=⟨_,zg7 (by rw [HLm.o];exact h1)⟩;obtain ⟨ad,hA,k1,k2,k3⟩:=(HR.o.keep HB.o).cl9 hx;subst hA;have HX:=zhy hx;clear hx;cases hv:inM (o,a,z) with
   | false =>
    have HN:Hid (jq L=false):=zhy (by
     have:L.all inM=false:=List.all_eq_false.2 ⟨_,List.mem_of_getElem? HX.o,by rw [hv];simp⟩;rw [jq,this,Bool.and_false])
    have HM:=fun w=>zhy (zot o a z _ w hv);clear hv;go_wp2_with fail;refine (HM _).o.mono ?_;rintro r w2 ⟨rfl,hb⟩;have HB2:=zhy (qc (qc HB.o qh) hb);clear hb k1 k2 k3;go_wp2_with fail;go_ret;exact ⟨by rw [HN.o];rfl,HB2.o⟩
   | true =>
    have HI2:Hid ((L.take (i+1)).all inM=true):=zhy (by rw [List.take_add_one,HX.o,List.all_append,HI.o];simp [hv]);have HM:=fun w=>zhy (zot o a z _ w hv);clear hv;go_wp2_with fail;refine (HM _).o.mono ?_;rintro r w2 ⟨rfl,hb⟩;have HB2:=zhy (qc (qc HB.o qh) hb);clear hb k1 k2 k3;go_wp2_with fail;go_roundw
    case rel=>exact ⟨i+1,by omega,by go_num,HI2,HB2⟩
    case measure=>simp [intOf];omega
  ·obtain rfl:m=i:=by omega
   have HN:Hid (jq L=true):=zhy (by
    have h:=HI.o;rw [List.take_of_length_le (by rw [HLm.o];exact Nat.le_refl _)] at h;rw [jq,h,HLm.o,decide_eq_true (by omega),decide_eq_true (by omega)];rfl)
   go_wp2_with fail;go_ret;exact ⟨by rw [HN.o];rfl,HB.o⟩
def mj9 (xs:List Lp) (p b:Nat):Bool:=xs.all (fun x=>!(wi9 x b&&!wi9 x p))&&decide (p<b)
theorem zsm (A:Option Addr) (c n:Nat) (xs:List Lp) (p b:Nat) (w:World) (hr:Rj w A c xs) (hn:xs.length=n) (hp:p≤1000000) (hb:b≤1000000):Calls Tryz.prog 156 #[.slice A n c,.int .i64 p,.int .i64 b] w fun r w'=>r=.returned (.bool (mj9 xs p b))∧Below w.heap.size w w':=by
 have HN:=zhy hn;have HR:=zhy hr;have hnl:n≤9223372036854775807:=by have:=hr.len;omega
 clear hr hn;go_enter Tryz.func156,Tryz.ntmps156;go_wp2_with fail;go_loopw [11] (fun iv wr=>∃i:Nat,i≤n∧iv=.int .i64 i∧Hid ((xs.take i).all (fun x=>!(wi9 x b&&!wi9 x p))=true)∧Hid (Below w.heap.size w wr)) (fun iv _=>n-(intOf iv).toNat)
 case atStart=>exact ⟨0,by omega,rfl,zhy rfl,zhy (Below.refl _ _)⟩
 case round =>
  obtain ⟨i,hi,rfl,HI,HB⟩:=hrel;by_cases h1:i<n
  ·obtain ⟨⟨f,t,z⟩,hx⟩:∃x,xs[i]?=some x:=⟨_,zg7 (by rw [HN.o];exact h1)⟩;obtain ⟨ad,hA,k1,k2,k3⟩:=(HR.o.keep HB.o).cl9 hx;subst hA;have HX:=zhy hx;have HC1:=fun w=>zhy (zl3 f t b z w);have HC2:=fun w=>zhy (zl3 f t p z w);have HNP0:Hid ((!(wi9 (f,t,z) b&&!wi9 (f,t,z) p))=!((decide (f<b)&&decide (b≤t))&&!(decide (f<p)&&decide (p≤t)))):=zhy rfl;generalize (decide (f<b)&&decide (b≤t))=b1 at HC1 HNP0;generalize (decide (f<p)&&decide (p≤t))=b2 at HC2 HNP0;clear hx;go_wp2_with fail;refine (HC1 _).o.mono ?_;rintro r w2 ⟨rfl,hb1⟩;have HB2:=zhy (qc (qc HB.o qh) hb1);have y0:w2.cell? ⟨wr.heap.size,0,none⟩=some (.int .i64 f):=(hb1.cell (by simp)).trans (by simp [go_sem]);have y1:w2.cell? ⟨wr.heap.size,1,none⟩=some (.int .i64 t):=(hb1.cell (by simp)).trans (by simp [go_sem]);have y2:w2.cell? ⟨wr.heap.size,2,none⟩=some (.int .i64 z):=(hb1.cell (by simp)).trans (by simp [go_sem]);clear hb1 k1 k2 k3;cases b1 with
   | false =>
    have HI2:Hid ((xs.take (i+1)).all (fun x=>!(wi9 x b&&!wi9 x p))=true):=zhy (by
     rw [List.take_add_one,HX.o,List.all_append,HI.o];simp only [Option.toList_some,List.all_cons,List.all_nil,Bool.and_true,Bool.true_and];rw [HNP0.o];rfl)
    go_wp2_with fail;go_roundw
    case rel=>exact ⟨i+1,by omega,by go_num,HI2,HB2⟩
    case measure=>simp [intOf];omega
   | true =>
    go_wp2_with fail;refine (HC2 _).o.mono ?_;rintro r w3 ⟨rfl,hb2⟩;have HB3:=zhy (qc HB2.o hb2);clear hb2 y0 y1 y2;cases b2 with
    | true =>
     have HI2:Hid ((xs.take (i+1)).all (fun x=>!(wi9 x b&&!wi9 x p))=true):=zhy (by
      rw [List.take_add_one,HX.o,List.all_append,HI.o];simp only [Option.toList_some,List.all_cons,List.all_nil,Bool.and_true,Bool.true_and];rw [HNP0.o];rfl)
     go_wp2_with fail;go_roundw
     case rel=>exact ⟨i+1,by omega,by go_num,HI2,HB3⟩
     case measure=>simp [intOf];omega
    | false =>
     have HE:Hid (mj9 xs p b=false):=zhy (by
      have:xs.all (fun x=>!(wi9 x b&&!wi9 x p))=false:=List.all_eq_false.2 ⟨_,List.mem_of_getElem? HX.o,by rw [HNP0.o];simp⟩;rw [mj9,this,Bool.false_and])
     go_wp2_with fail;go_ret;exact ⟨by rw [HE.o];rfl,HB3.o⟩
  ·obtain rfl:n=i:=by omega
   have HE:Hid (mj9 xs p b=decide (p<b)):=zhy (by
    have h:=HI.o;rw [List.take_of_length_le (by rw [HN.o];exact Nat.le_refl _)] at h;rw [mj9,h,Bool.true_and])
   by_cases hpb:p<b
   all_goals
    go_wp2_with fail
    go_ret
    exact ⟨by rw [HE.o];simp [hpb],HB.o⟩
theorem znu (A A2:Option Addr) (c m c2 n:Nat) (L:List Ins) (xs:List Lp) (w:World) (hr:Ri w A c L) (hm:L.length=m) (hr2:Rj w A2 c2 xs) (hn:xs.length=n) (hm2:m≤200) (hnn:∀x∈L,0≤x.2.1):Calls Tryz.prog 92 #[.slice A m c,.slice A2 n c2] w fun r w'=>r=.returned (.bool ((List.range m).all (jp9 L xs)))∧Below w.heap.size w w':=by
 have HLm:=zhy hm;have HR:=zhy hr;have HR2:=zhy hr2;have HN:=zhy hn;have HNN:=zhy hnn;clear hr hm hr2 hn hnn;go_enter Tryz.func92,Tryz.ntmps92;go_wp2_with fail;go_loopw [9] (fun iv wr=>∃i:Nat,i≤m∧iv=.int .i64 i∧Hid ((List.range i).all (jp9 L xs)=true)∧Hid (Below w.heap.size w wr)) (fun iv _=>m-(intOf iv).toNat)
 case atStart=>exact ⟨0,by omega,rfl,zhy rfl,zhy (Below.refl _ _)⟩
 case round =>
  obtain ⟨i,hi,rfl,HI,HB⟩:=hrel;by_cases h1:i<m
  ·obtain ⟨⟨o,a,z⟩,hx⟩:∃x,L[i]?=some x:=⟨_,zg7 (by rw [HLm.o];exact h1)⟩;obtain ⟨ad,hA,k1,k2,k3⟩:=(HR.o.keep HB.o).cl9 hx;subst hA;have HXO:Hid (iO9 L i=o∧iA9 L i=a):=zhy ⟨by simp [iO9,hx],by simp [iA9,hx]⟩;obtain ⟨b,rfl⟩:∃b:Nat,a=b:=⟨a.toNat,by have:=HNN.o _ (List.mem_of_getElem? hx);simp at this;omega⟩;clear hx
   have HNO:Hid (jp9 L xs i=false→(List.range m).all (jp9 L xs)=false):=zhy fun h=>by
    cases hb:(List.range m).all (jp9 L xs) with
    | false=>rfl
    | true =>
     rw [List.all_eq_true] at hb;rw [hb i (List.mem_range.2 h1)] at h;cases h
   have HYES:Hid (jp9 L xs i=true→(List.range (i+1)).all (jp9 L xs)=true):=zhy fun h=>by
    rw [List.range_succ,List.all_append,HI.o];simp [h]
   by_cases hj:o=26∨o=27
   ·have HJ:Hid (jp9 L xs i=(decide ((i:Int)<b)&&(decide ((b:Int)<m)&&xs.all fun x=>!(wi9 x b&&!wi9 x i)))):=zhy (by
     rw [jp9,HXO.o.1,HXO.o.2,HLm.o,if_pos hj,Int.toNat_natCast])
    by_cases hbm:m≤b
    ·have HE:=zhy (HNO.o (by rw [HJ.o,decide_eq_false (p:=(b:Int)<m) (by omega),Bool.false_and,Bool.and_false]));rcases hj with rfl | rfl
     all_goals
      go_wp2_with fail
      go_ret
      exact ⟨by rw [HE.o];rfl,qc HB.o qh⟩
    ·have HB1:Hid (Below w.heap.size w (wr.alloc (.cells #[.int .u8 o,.int .i64 b,.int .i64 z] 57))):=zhy (qc HB.o qh);have HMJ:=zhy (zsm A2 c2 n xs i b (wr.alloc (.cells #[.int .u8 o,.int .i64 b,.int .i64 z] 57)) (HR2.o.keep HB1.o) HN.o (by omega) (by omega))
     have HJ2:Hid (jp9 L xs i=mj9 xs i b):=zhy (by
      rw [HJ.o,mj9,decide_eq_true (p:=(b:Int)<m) (by omega),Bool.true_and,Bool.and_comm];congr 1;simp)
     rw [Hid,←HJ2.o] at HMJ;have HMJ:=zhy HMJ;cases hv:jp9 L xs i with
     | true =>
      have HI2:=zhy (HYES.o hv);rw [hv] at HMJ;clear hv;rcases hj with rfl | rfl
      all_goals
       go_wp2_with fail
       refine HMJ.o.mono ?_
       rintro r w2 ⟨rfl,hb⟩
       have HB2:=zhy (qc HB1.o hb)
       clear hb k1 k2 k3
       go_wp2_with fail
       go_roundw
       case rel=>exact ⟨i+1,by omega,by go_num,HI2,HB2⟩
       case measure=>simp [intOf];omega
     | false =>
      have HE:=zhy (HNO.o hv);rw [hv] at HMJ;clear hv;rcases hj with rfl | rfl
      all_goals
       go_wp2_with fail
       refine HMJ.o.mono ?_
       rintro r w2 ⟨rfl,hb⟩
       have HB2:=zhy (qc HB1.o hb)
       clear hb k1 k2 k3
       go_wp2_with fail
       go_ret
       exact ⟨by rw [HE.o];rfl,HB2.o⟩
   ·have e26:(o != 26)=true:=by simp;omega
    have e27:(o != 27)=true:=by simp;omega
    have HI2:=zhy (HYES.o (by rw [jp9,HXO.o.1,if_neg hj]));have HB1:Hid (Below w.heap.size w (wr.alloc (.cells #[.int .u8 o,.int .i64 b,.int .i64 z] 57))):=zhy (qc HB.o qh);go_wp2_with fail;go_roundw
    case rel=>exact ⟨i+1,by omega,by go_num,HI2,HB1⟩
    case measure=>simp [intOf];omega
  ·obtain rfl:m=i:=by omega
   go_wp2_with fail;go_ret;exact ⟨by rw [HI.o];rfl,HB.o⟩
theorem zu0 (A:Option Addr) (c m:Nat) (L:List Ins) (w:World) (hr:Ri w A c L) (hm:L.length=m) (h1:1≤m) (h2:m≤200):Calls Tryz.prog 93 #[.slice A m c] w fun r w'=>r=.returned (.bool (decide (la9 L=31∨la9 L=32)))∧Below w.heap.size w w':=by
 obtain ⟨q,hq⟩:∃q:Nat,(m:Int)-1=q:=⟨m-1,by omega⟩;have hqm:q<m:=by omega
 obtain ⟨⟨o,a,z⟩,hx⟩:∃x,L[q]?=some x:=⟨_,zg7 (by rw [hm];exact hqm)⟩;obtain ⟨ad,hA,k1,-,-⟩:=hr.cl9 hx;have HLA:Hid (la9 L=o):=zhy (by rw [la9,hm,show m-1=q by omega];simp [iO9,hx]);subst hA;clear hx hr hm;by_cases h31:o=31
 ·subst h31;go_enter Tryz.func93,Tryz.ntmps93;go_wp2_with fail;go_ret;exact ⟨by rw [HLA.o];simp,Below.refl _ _⟩
 ·have e31:(o==31)=false:=by simpa using h31
  by_cases h32:o=32
  ·subst h32;go_enter Tryz.func93,Tryz.ntmps93;go_wp2_with fail;go_ret;exact ⟨by rw [HLA.o];simp,Below.refl _ _⟩
  ·have e32:(o==32)=false:=by simpa using h32
   go_enter Tryz.func93,Tryz.ntmps93;go_wp2_with fail;go_ret;exact ⟨by rw [HLA.o,decide_eq_false (by omega)];rfl,Below.refl _ _⟩
def A4 (w:World) (B:Nat) (f:Nat→Nat):Prop:=w.heap[B]?=some (.cells #[.int .i64 (f 0),.int .i64 (f 1),.int .i64 (f 2),.int .i64 (f 3)] 161 (0,0))
section
variable {w w' : World} {B : Nat} {f : Nat → Nat}
theorem A4.lt (h:A4 w B f):B<w.heap.size:=(zg9.1 h).1
theorem A4.keep (h:A4 w B f) (hb:Below w.heap.size w w'):A4 w' B f:=(hb.block B h.lt).trans h
theorem A4.cell (h:A4 w B f) {i:Nat} (hi:i<4):w.cell? ⟨B,i,none⟩=some (.int .i64 (f i)):=by
 rw [cell_of_row w B i _ _ (0,0) h];match i,hi with
 | 0,_=>rfl
 | 1,_=>rfl
 | 2,_=>rfl
 | 3,_=>rfl
theorem A4.froz (h:A4 w B f) (i:Nat):w.frozen? ⟨B,i,none⟩=false:=frozen_of_row w B i _ _ h
theorem A4.put (h:A4 w B f) {j:Nat} (hj:j<4) (v:Nat):A4 (w.setCell ⟨B,j,none⟩ (.int .i64 v)) B (zvc f j v):=by
 unfold A4;rw [heap_setCell_same w B j _ _ _ h];match j,hj with
 | 0,_=>simp [zvc]
 | 1,_=>simp [zvc]
 | 2,_=>simp [zvc]
 | 3,_=>simp [zvc]
theorem A4.other (h:A4 w B f) {p:Addr} (hp:p.block≠B) (v:Value):A4 (w.setCell p v) B f:=(Below.heap_setCell w p v B (fun e=>hp e.symm)).trans h
theorem A4.new (w:World):A4 (w.alloc (.cells #[.int .i64 0,.int .i64 0,.int .i64 0,.int .i64 0] 161)) w.heap.size (fun _=>0):=heap_alloc_last w _
end
theorem zre:∀{xs:List Lp} {k f t:Nat} {z:Int} (t':Nat),xs[k]?=some (f,t,z)→cej (xs.set k (f,t',z))=(cej xs).set (k*3+1) (.int .i64 t')
 | x::xs,0,f,t,z,t',h=>by
  simp at h;subst h;rw [List.set_cons_zero,zcg,zcg];rfl
 | x::xs,k+1,f,t,z,t',h=>by
  have ih:=zre (xs:=xs) (k:=k) (f:=f) (t:=t) (z:=z) t' (by simpa using h);rw [List.set_cons_succ,zcg,zcg,ih,show (k+1)*3+1=k*3+1+1+1+1 by omega];rfl
theorem ziw {w:World} {base e n c:Nat} {A:Option Addr} {xs:List Value} (h:w.ownsRow base e 3 (.slice A n c) n xs) (hn:0<n):∃g,A=some ⟨g,0,none⟩∧base≤g∧g<w.heap.size:=by
 rcases h.2 with ⟨hv,h0⟩ | ⟨g,cap,cur,hv,hg,hb,_⟩
 ·injection hv with e1 e2 e3;omega
 ·injection hv with e1 e2 e3;subst e1;exact ⟨g,rfl,hg,(zg9.1 hb).1⟩
def Lo9 (w w':World) (FL:List Lp) (E:Int) (r:Ending):Prop:=∃A' c',r=.returned (.tuple #[.slice A' FL.length c',.int .i64 E])∧w'.ownsRow w.heap.size 163 3 (.slice A' FL.length c') FL.length (cej FL)∧Below w.heap.size w w'
theorem zv4 {l:List Ins} (h:jq l=false):jc l=40∧zcu l=[]:=by
 have e:jc l=40:=by rw [jc,h];rfl
 exact ⟨e,by rw [zcu,e];rfl⟩
theorem zez {l:List Ins} (hc:jq l=true) (h:¬(ze2 l=true∧ns9 (qy l l.length) l.length=true∧(la9 l=31∨la9 l=32)∧(List.range l.length).all (jp9 l (qy l l.length))=true)):jc l=90∧zcu l=[]:=by
 have e:jc l=90:=by rw [jc,if_pos hc,if_neg h]
 exact ⟨e,by rw [zcu,e];rfl⟩
theorem zum {l:List Ins} (hc:jq l=true) (h:ze2 l=true∧ns9 (qy l l.length) l.length=true∧(la9 l=31∨la9 l=32)∧(List.range l.length).all (jp9 l (qy l l.length))=true):jc l=0∧zcu l=qy l l.length:=by
 have e:jc l=0:=by rw [jc,if_pos hc,if_pos h]
 exact ⟨e,by rw [zcu,if_pos e]⟩
theorem zj2 (A:Option Addr) (c m:Nat) (L:List Ins) (w:World) (hr:Ri w A c L) (hm:L.length=m) :
  Calls Tryz.prog 49 #[.slice A m c] w fun r w'=>Lo9 w w' (zcu L) (jc L) r:=by
 have HLm:=zhy hm;have HR:=zhy hr;have hml:m≤9223372036854775807:=by have:=hr.len;omega
 clear hr hm;obtain ⟨E,hE⟩:∃e,jc L=e:=⟨_,rfl⟩;obtain ⟨FL,hFL⟩:∃x,zcu L=x:=⟨_,rfl⟩;have HEF:=zhy (show jc L=E∧zcu L=FL from ⟨hE,hFL⟩);rw [hE,hFL];clear hE hFL;obtain ⟨B,hB⟩:∃B,w.heap.size=B:=⟨_,rfl⟩;have HBB:=zhy hB;clear hB;go_enter Tryz.func49,Tryz.ntmps49;go_wp2_with fail;refine wp_scope_jumps 0 (fun a' w'=>∃(E':Int) (u0 u1 u2 u4 u5 u6 u7 u8 u9 u10 u11 u12 u13 u14 u15 u16 u17 u18 u19 u20 u21 u22 u23 u24 u25 u26 u27 u28 u29 u30 u31 u32 u33 u34 u35 u36 u37 u38 u39 u40 u41 u42 u43 u44 u45 u46 u47 u48 u49 u50 u51 u52 u53 u54 u55 u56 u57 u58 u59 u60 u61 u62 u63 u64 u65 u66 u67 u68 u69 u70 u71 u72 u73 u74 u75 u76 u77 u78:Value),a'={ tmps:=#[u0,u1,u2,Value.int .i64 E',u4,u5,u6,u7,u8,u9,u10,u11,u12,u13,u14,u15,u16,u17,u18,u19,u20,u21,u22,u23,u24,u25,u26,u27,u28,u29,u30,u31,u32,u33,u34,u35,u36,u37,u38,u39,u40,u41,u42,u43,u44,u45,u46,u47,u48,u49,u50,u51,u52,u53,u54,u55,u56,u57,u58,u59,u60,u61,u62,u63,u64,u65,u66,u67,u68,u69,u70,u71,u72,u73,u74,u75,u76,u77,u78],defers:=[]}∧Hid (E=E'∧FL=[])∧Hid (Below w.heap.size w w')) (fun _ _=>0) rfl ?_ ?_;rotate_left 1
 ·rintro a' w' ⟨E',u0,u1,u2,u4,u5,u6,u7,u8,u9,u10,u11,u12,u13,u14,u15,u16,u17,u18,u19,u20,u21,u22,u23,u24,u25,u26,u27,u28,u29,u30,u31,u32,u33,u34,u35,u36,u37,u38,u39,u40,u41,u42,u43,u44,u45,u46,u47,u48,u49,u50,u51,u52,u53,u54,u55,u56,u57,u58,u59,u60,u61,u62,u63,u64,u65,u66,u67,u68,u69,u70,u71,u72,u73,u74,u75,u76,u77,u78,rfl,HE,HB⟩;go_wp2_with fail;simp only [Exit.jump];go_ret2;exact ⟨none,0,by rw [HE.o.1,HE.o.2];rfl,by rw [HE.o.2];exact World.ownsRow_nil _ _ _ _,HB.o⟩
 have HB0:Hid (Below w.heap.size w (w.alloc (.cells #[.int .i64 0,.int .i64 0,.int .i64 0,.int .i64 0] 161))):=zhy qh;have HV:=zhy (zt0 A c m L (w.alloc (.cells #[.int .i64 0,.int .i64 0,.int .i64 0,.int .i64 0] 161)) (HR.o.keep HB0.o) HLm.o);cases hcm:jq L with
 | false =>
  have HE:Hid (E=40∧FL=[]):=zhy (by rw [←HEF.o.1,←HEF.o.2];exact zv4 hcm);rw [hcm] at HV;clear hcm;go_wp2_with fail;refine HV.o.mono ?_;rintro r w2 ⟨rfl,hb⟩;have HB2:=zhy (qc HB0.o hb);clear hb;go_wp2_with fail;go_step3;exact ⟨rfl,40,_,_,_,_,_,_,_,_,_,_,_,_,_,_,_,_,_,_,_,_,_,_,_,_,_,_,_,_,_,_,_,_,_,_,_,_,_,_,_,_,_,_,_,_,_,_,_,_,_,_,_,_,_,_,_,_,_,_,_,_,_,_,_,_,_,_,_,_,_,_,_,_,_,_,_,_,_,_,rfl,HE,HB2⟩
 | true =>
  have HCM:=zhy hcm;rw [hcm] at HV;clear hcm
  have HNG:Hid (¬sG9 L L.length→E=90∧FL=[]):=zhy fun h=>by
   rw [←HEF.o.1,←HEF.o.2];exact zez HCM.o (fun h2=>h ((zq2 HCM.o).1 ⟨h2.1,h2.2.1⟩).1)
  have HNN:Hid (∀x∈L,0≤x.2.1):=zhy fun x hx=>zd5 ((qw HCM.o).2.2 x hx);have hm1:1≤m:=by have:=(qw HCM.o).1;rw [HLm.o] at this;exact this
  have hm2:m≤200:=by have:=(qw HCM.o).2.1;rw [HLm.o] at this;exact this
  go_wp2_with fail;refine HV.o.mono ?_;rintro r w2 ⟨rfl,hb⟩;have HB2:=zhy (qc HB0.o hb)
  have HA2:Hid (A4 w2 B fun _=>0):=zhy (by
   have h:=(A4.new w).keep hb;rwa [HBB.o] at h)
  rw [HBB.o];clear hb HV HB0;go_wp2_with fail;go_loopw [2,5,13] (fun lv dv pv wq=>∃(p d n c1:Nat) (A1:Option Addr) (of:Nat→Nat),p≤m∧pv=.int .i64 p∧d≤4∧dv=.int .i64 d∧n≤p∧lv=.slice A1 n c1∧Hid (n=(sF9 L p).length)∧Hid (sG9 L p)∧Hid (d=(sS9 L p).length)∧Hid (A4 wq B of)∧Hid (∀i f,(sS9 L p)[i]?=some f→of i=ix9 L f)∧Hid (wq.ownsRow (B+1) 163 3 (.slice A1 n c1) n (cej (sL9 L p)))∧Hid (Below w.heap.size w wq)) (fun _ _ pv _=>m-(intOf pv).toNat)
  case atStart=>exact ⟨0,0,0,0,none,_,by omega,rfl,by omega,rfl,by omega,rfl,zhy rfl,zhy (fun q hq=>by omega),zhy rfl,HA2,zhy (fun i f h=>by simp [sS9,sF9] at h),zhy (World.ownsRow_nil _ _ _ _),HB2⟩
  case round =>
   clear HA2 HB2;obtain ⟨p,d,n,c1,A1,of,hpm,rfl,hd4,rfl,hnp,rfl,HN,HG,HD,HA,HOF,HO,HB⟩:=hrel;by_cases hp:p<m
   ·obtain ⟨⟨o,b0,z⟩,hx⟩:∃x,L[p]?=some x:=⟨_,zg7 (by rw [HLm.o];exact hp)⟩;obtain ⟨b,rfl⟩:∃b:Nat,b0=b:=⟨b0.toNat,by have:=HNN.o _ (List.mem_of_getElem? hx);simp at this;omega⟩;have HXO:Hid (iO9 L p=o∧iA9 L p=b):=zhy ⟨by simp [iO9,hx],by simp [iA9,hx]⟩;obtain ⟨ad,hA,k1,k2,k3⟩:=(HR.o.keep HB.o).cl9 hx;subst hA;clear hx;go_upto_region 9 with (fail);have HB1:Hid (Below w.heap.size w (wr.alloc (.cells #[.int .u8 o,.int .i64 b,.int .i64 z] 57))):=zhy (qc HB.o qh);have HA1:Hid (A4 (wr.alloc (.cells #[.int .u8 o,.int .i64 b,.int .i64 z] 57)) B of):=zhy (HA.o.keep qh);have HO1:Hid ((wr.alloc (.cells #[.int .u8 o,.int .i64 b,.int .i64 z] 57)).ownsRow (B+1) 163 3 (.slice A1 n c1) n (cej (sL9 L p))):=zhy (HO.o.alloc _);have hBs:B<wr.heap.size:=HA.o.lt;obtain ⟨D,hD⟩:∃D,wr.heap.size=D:=⟨_,rfl⟩;have q0:(wr.alloc (.cells #[.int .u8 o,.int .i64 b,.int .i64 z] 57)).cell? ⟨D,0,none⟩=some (.int .u8 o):=by rw [←hD];simp [go_sem]
    have q1:(wr.alloc (.cells #[.int .u8 o,.int .i64 b,.int .i64 z] 57)).cell? ⟨D,1,none⟩=some (.int .i64 b):=by rw [←hD];simp [go_sem]
    have hDs:D<(wr.alloc (.cells #[.int .u8 o,.int .i64 b,.int .i64 z] 57)).heap.size:=by rw [←hD];simp
    rw [hD] at hBs ⊢;generalize wr.alloc (.cells #[.int .u8 o,.int .i64 b,.int .i64 z] 57)=w1 at HB1 HA1 HO1 q0 q1 hDs ⊢;clear k1 k2 k3 HA HO HB hD;by_cases h28:o=28
    ·subst h28;by_cases hd:d=4
     ·subst hd
      have HE:Hid (E=90∧FL=[]):=zhy (HNG.o (fun h=>by
       have h:=h p (by rw [HLm.o];exact hp);have:=h.1 HXO.o.1;rw [←HD.o] at this;omega))
      go_wp2_with fail;go_step3;exact ⟨rfl,90,_,_,_,_,_,_,_,_,_,_,_,_,_,_,_,_,_,_,_,_,_,_,_,_,_,_,_,_,_,_,_,_,_,_,_,_,_,_,_,_,_,_,_,_,_,_,_,_,_,_,_,_,_,_,_,_,_,_,_,_,_,_,_,_,_,_,_,_,_,_,_,_,_,_,_,_,_,_,rfl,HE,HB1⟩
     ·have hd3:(d:Int)<4:=by omega
      have y0:=HA1.o.cell (i:=d) (by omega);have yf:=HA1.o.froz d;have hne:((d:Int)==4)=false:=by simp;omega
      go_upto_region 13 with (fail);have HA3:Hid (A4 (w1.setCell ⟨B,d,none⟩ (.int .i64 n)) B (zvc of d n)):=zhy (HA1.o.put (by omega) n);have HB3:Hid (Below w.heap.size w (w1.setCell ⟨B,d,none⟩ (.int .i64 n))):=zhy (HB1.o.setCell (p:=⟨B,d,none⟩) (by rw [HBB.o];exact Nat.le_refl _) _);have HO3:Hid ((w1.setCell ⟨B,d,none⟩ (.int .i64 n)).ownsRow (B+1) 163 3 (.slice A1 n c1) n (cej (sL9 L p))):=zhy (ownsRow_setCell_below HO1.o (by simp) _);have q1':(w1.setCell ⟨B,d,none⟩ (.int .i64 n)).cell? ⟨D,1,none⟩=some (.int .i64 b):=by rw [World.cell?_setCell_other _ _ _ _ (fun e=>by injection e with e;omega)];exact q1
      have hDs':D<(w1.setCell ⟨B,d,none⟩ (.int .i64 n)).heap.size:=by simpa using hDs
      generalize w1.setCell ⟨B,d,none⟩ (.int .i64 n)=w3 at HA3 HB3 HO3 q1' hDs' ⊢;clear q0 q1 y0 yf hDs HA1 HB1 HO1;have ST:=zhy (zkx HXO.o.1 (zmq HG.o));have HSL:Hid (w3.ownsRow (B+1) 163 3 (.slice A1 n c1) n (cej (sL9 L p))):=HO3;have hB3:=HA3.o.lt;go_wp2_with (at_builtin;refine zeb _ rfl (.tmp 30) (.tmp 35) rfl (B+1) _ n (sL9 L p) rfl (HO3.o.alloc _) _ 1 1 [(p,0,(b:Int))] rfl (qcx w3 (p,0,(b:Int)) trivial) rfl (by omega) (by simp;omega) ?_);rintro A9 c9 w9 ho hb;have HB9:Hid (Below w.heap.size w w9):=zhy (HB3.o.trans ((qh.mono HB3.o.size).trans (hb.mono (by rw [HBB.o];omega))));have HA9:Hid (A4 w9 B (zvc of d n)):=zhy ((hb.block B (by omega)).trans (HA3.o.keep qh));have HO9:Hid (w9.ownsRow (B+1) 163 3 (.slice A9 (n+1) c9) (n+1) (cej (sL9 L (p+1)))):=zhy (by rw [ST.o.1,HXO.o.2];exact ho);clear ho hb HA3 HB3 HO3 q1' hDs';have HN9:Hid (n+1=(sF9 L (p+1)).length):=zhy (by rw [za2,if_pos HXO.o.1,List.length_append,←HN.o];rfl)
      have HG9:Hid (sG9 L (p+1)):=zhy fun q hq=>by
       by_cases hqp:q<p
       ·exact HG.o q hqp
       ·obtain rfl:q=p:=by omega
        exact ⟨fun _=>by rw [←HD.o];omega,fun h=>by rw [HXO.o.1] at h;cases h⟩
      have HD9:Hid (d+1=(sS9 L (p+1)).length):=zhy (by rw [ST.o.2,List.length_append,←HD.o];rfl)
      have HOF9:Hid (∀i f,(sS9 L (p+1))[i]?=some f→zvc of d n i=ix9 L f):=zhy fun i f h=>by
       rw [ST.o.2] at h;unfold zvc;by_cases hid:i=d
       ·subst hid;rw [List.getElem?_append_right (by rw [←HD.o];exact Nat.le_refl _),←HD.o,Nat.sub_self] at h;simp at h;subst h;rw [if_pos rfl,ix9,HN.o]
       ·have hlt:=(zg8.1 h).1;rw [List.length_append,←HD.o] at hlt;simp at hlt;rw [List.getElem?_append_left (by rw [←HD.o];omega)] at h;rw [if_neg hid];exact HOF.o i f h
      go_wp2_with fail;go_roundw
      case rel=>exact ⟨p+1,d+1,n+1,c9,A9,_,by omega,by go_num,by omega,by go_num,by omega,rfl,HN9,HG9,HD9,HA9,HOF9,HO9,HB9⟩
      case measure=>simp [intOf];omega
    ·by_cases h29:o=29
     ·subst h29;have HB5:Hid (Below w.heap.size w w1.drew):=zhy (qf HB1.o 1);have HA5:Hid (A4 w1.drew B of):=HA1;have HO5:Hid (w1.drew.ownsRow (B+1) 163 3 (.slice A1 n c1) n (cej (sL9 L p))):=HO1;by_cases hd:d=0
      ·subst hd
       have HE:Hid (E=90∧FL=[]):=zhy (HNG.o (fun h=>by
        have h:=h p (by rw [HLm.o];exact hp);obtain ⟨f,hf,-⟩:=h.2 HXO.o.1;rw [List.eq_nil_of_length_eq_zero HD.o.symm] at hf;cases hf))
       have SR:Hid (Below w1.heap.size w1 w1.drew):=zhy (qf (Below.refl _ _) 1);go_upto_region 16 with (fail);refine wp_region_held_drew (S:=fun w'=>Hid (Below w1.heap.size w1 w')) (by kernel_rfl) (SR) (fun hHeld=>?_);refine zq 0 (h:=?_);refine zq 1 (h:=?_);refine zq 2 (h:=?_);refine ztk (i:=3) (v:=undef) rfl (by kernel_rfl) (fun _ _ _ h=>h) (Or.inr ⟨by rfl,rfl⟩) (by assumption) ?_;(try simp only [Act.put,zg1,zg2,zg3,zg4,zg5,zg6]);refine ztk (i:=4) (v:=undef) rfl (by kernel_rfl) (fun _ _ _ h=>h) (Or.inr ⟨by rfl,rfl⟩) (by assumption) ?_;(try simp only [Act.put,zg1,zg2,zg3,zg4,zg5,zg6]);refine ztk (i:=5) (v:=undef) rfl (by kernel_rfl) (fun _ _ _ h=>h) (Or.inr ⟨by rfl,rfl⟩) (by assumption) ?_;(try simp only [Act.put,zg1,zg2,zg3,zg4,zg5,zg6]);refine ztk (i:=6) (v:=undef) rfl (by kernel_rfl) (fun _ _ _ h=>h) (Or.inr ⟨by rfl,rfl⟩) (by assumption) ?_;(try simp only [Act.put,zg1,zg2,zg3,zg4,zg5,zg6]);refine ztk (i:=7) (v:=undef) rfl (by kernel_rfl) (fun _ _ _ h=>h) (Or.inr ⟨by rfl,rfl⟩) (by assumption) ?_;(try simp only [Act.put,zg1,zg2,zg3,zg4,zg5,zg6]);refine ztk (i:=8) (v:=undef) rfl (by kernel_rfl) (fun _ _ _ h=>h) (Or.inr ⟨by rfl,rfl⟩) (by assumption) ?_;(try simp only [Act.put,zg1,zg2,zg3,zg4,zg5,zg6]);refine ztk (i:=9) (v:=undef) rfl (by kernel_rfl) (fun _ _ _ h=>h) (Or.inr ⟨by rfl,rfl⟩) (by assumption) ?_;(try simp only [Act.put,zg1,zg2,zg3,zg4,zg5,zg6]);refine ztk (i:=10) (v:=undef) rfl (by kernel_rfl) (fun _ _ _ h=>h) (Or.inr ⟨by rfl,rfl⟩) (by assumption) ?_;(try simp only [Act.put,zg1,zg2,zg3,zg4,zg5,zg6]);refine ztk (i:=11) (v:=undef) rfl (by kernel_rfl) (fun _ _ _ h=>h) (Or.inr ⟨by rfl,rfl⟩) (by assumption) ?_;(try simp only [Act.put,zg1,zg2,zg3,zg4,zg5,zg6]);refine ztk (i:=12) (v:=undef) rfl (by kernel_rfl) (fun _ _ _ h=>h) (Or.inr ⟨by rfl,rfl⟩) (by assumption) ?_;(try simp only [Act.put,zg1,zg2,zg3,zg4,zg5,zg6]);refine ztk (i:=13) (v:=undef) rfl (by kernel_rfl) (fun _ _ _ h=>h) (Or.inr ⟨by rfl,rfl⟩) (by assumption) ?_;(try simp only [Act.put,zg1,zg2,zg3,zg4,zg5,zg6]);refine zq 14 (h:=?_);refine wpAnyH_done (by kernel_rfl) ?_ _;clear hHeld;go_wp2_with fail;go_step3;exact ⟨rfl,90,_,_,_,_,_,_,_,_,_,_,_,_,_,_,_,_,_,_,_,_,_,_,_,_,_,_,_,_,_,_,_,_,_,_,_,_,_,_,_,_,_,_,_,_,_,_,_,_,_,_,_,_,_,_,_,_,_,_,_,_,_,_,_,_,_,_,_,_,_,_,_,_,_,_,_,_,_,_,rfl,HE,HB5⟩
      ·obtain ⟨e,hde⟩:∃e:Nat,(d:Int)-1=(e:Int):=⟨d-1,by omega⟩;have hed:d=e+1:=by omega
       have HED:=zhy hed;have he4:(e:Int)<4:=by omega
       have hwe:IntKind.i64.wrap (e:Int)=(e:Int):=by
        simp [IntKind.wrap,IntKind.signed,IntKind.bits,go_sem];omega
       have hdn:((d:Int)==0)=false:=by simp;omega
       obtain ⟨f,hf⟩:∃f,(sS9 L p)[e]?=some f:=⟨_,zg7 (by rw [←HD.o];omega)⟩;have HLA:Hid ((sS9 L p).getLast?=some f):=zhy (by rw [List.getLast?_eq_getElem?,←HD.o,HED.o,Nat.add_sub_cancel];exact hf);obtain ⟨f1,f2,f3⟩:=zau.1 (List.mem_of_getElem? hf);have hxk:(sL9 L p)[ix9 L f]?=some (f,0,iA9 L f):=by rw [qaj f1 f2,sT9,f3];rfl
       have hoe:=HOF.o e f hf;obtain ⟨k,hk⟩:∃k,ix9 L f=k:=⟨_,rfl⟩;rw [hk] at hxk hoe;have HK:=zhy hk;have HXK:=zhy hxk
       have hkn:k<n:=by
        have:=(zg8.1 hxk).1;rw [sL9,List.length_map,←HN.o] at this;exact this
       obtain ⟨g,hg,hBg,hgs⟩:=ziw HO1.o (by omega);subst hg;have y0:=HA5.o.cell (i:=e) (by omega);rw [hoe] at y0
       have t0:w1.drew.cell? ⟨g,k*3,none⟩=some (.int .i64 f):=by
        rw [HO5.o.cellAt (k*3) (by omega)];exact (zmb hxk).1
       have t1:w1.drew.cell? ⟨g,k*3+1,none⟩=some (.int .i64 0):=by
        rw [HO5.o.cellAt (k*3+1) (by omega)];exact (zmb hxk).2.1
       have tf:w1.drew.frozen? ⟨g,k*3+1,none⟩=false:=HO5.o.frozenAt _;have hf3:=f3;clear hf f1 f2 f3 hf3 hxk hoe hk hed;have SR:Hid (Below w1.heap.size w1 w1.drew∧w1.drew.cell? ⟨D,1,none⟩=some (.int .i64 b)∧w1.drew.cell? ⟨B,e,none⟩=some (.int .i64 k)∧w1.drew.cell? ⟨g,k*3,none⟩=some (.int .i64 f)):=zhy ⟨qf (Below.refl _ _) 1,q1,y0,t0⟩;by_cases hfb:f=b
       ·obtain rfl:b=f:=hfb.symm;clear hfb;have AG:=zhy (zmc HXO.o.1 HLA.o HXO.o.2);go_upto_region 16 with (fail);refine wp_region_held_drew (S:=fun w'=>Hid (Below w1.heap.size w1 w'∧w'.cell? ⟨D,1,none⟩=some (.int .i64 b)∧w'.cell? ⟨B,e,none⟩=some (.int .i64 k)∧w'.cell? ⟨g,k*3,none⟩=some (.int .i64 b))) (by kernel_rfl) (SR) (fun hHeld=>?_);refine zq 0 (h:=?_);refine zq 1 (h:=?_);refine zq 2 (h:=?_);refine zq 3 (h:=?_);refine zq 4 (h:=?_);refine zq 5 (h:=?_);refine zq 6 (h:=?_);refine zq 7 (hy:=fun w hSw=>by (try dsimp only at hSw);obtain ⟨-,s0,s1,s2⟩:=hSw.o;go_simp;try with_reducible rfl) (h:=?_);refine zq 8 (h:=?_);refine zq 9 (h:=?_);refine zq 10 (hy:=fun w hSw=>by (try dsimp only at hSw);obtain ⟨-,s0,s1,s2⟩:=hSw.o;go_simp;try with_reducible rfl) (h:=?_);refine zq 11 (h:=?_);refine zq 12 (hy:=fun w hSw=>by (try dsimp only at hSw);obtain ⟨-,s0,s1,s2⟩:=hSw.o;go_simp;try with_reducible rfl) (h:=?_);refine zq 13 (h:=?_);refine zq 14 (h:=?_);refine wpAnyH_done (by kernel_rfl) ?_ _;clear hHeld;go_upto_region 19 with (fail);have HB6:Hid (Below w.heap.size w (w1.drew.setCell ⟨g,k*3+1,none⟩ (.int .i64 p))):=zhy (HB5.o.setCell (p:=⟨g,k*3+1,none⟩) (by rw [HBB.o];show B≤g;omega) _);have HA6:Hid (A4 (w1.drew.setCell ⟨g,k*3+1,none⟩ (.int .i64 p)) B of):=zhy (HA5.o.other (by show g≠B;omega) _)
        have HO6:Hid ((w1.drew.setCell ⟨g,k*3+1,none⟩ (.int .i64 p)).ownsRow (B+1) 163 3 (.slice (some ⟨g,0,none⟩) n c1) n (cej (sL9 L (p+1)))):=zhy (by
         have h:=(HO5.o.stored (k*3+1) (.int .i64 p)).1;rw [AG.o.1,HK.o,zre p HXK.o];exact h)
        have e6:w1.drew.setCell ⟨g,k*3+1,none⟩ (.int .i64 p)=(w1.setCell ⟨g,k*3+1,none⟩ (.int .i64 p)).drew:=rfl;rw [e6] at HB6 HA6 HO6;clear e6;generalize (w1.setCell ⟨g,k*3+1,none⟩ (.int .i64 p)).drew=w6 at HB6 HA6 HO6 ⊢;clear y0 t0 t1 tf q0 q1 HB5 HA5 HO5 HB1 HA1 HO1 SR;have HN9:Hid (n=(sF9 L (p+1)).length):=zhy (by rw [za2,if_neg (by rw [HXO.o.1];omega),List.append_nil,←HN.o])
        have HG9:Hid (sG9 L (p+1)):=zhy fun q hq=>by
         by_cases hqp:q<p
         ·exact HG.o q hqp
         ·obtain rfl:q=p:=by omega
          exact ⟨fun h=>(by rw [HXO.o.1] at h;cases h),fun _=>⟨b,HLA.o,HXO.o.2⟩⟩
        have HD9:Hid (e=(sS9 L (p+1)).length):=zhy (by rw [AG.o.2,List.length_dropLast,←HD.o,HED.o,Nat.add_sub_cancel])
        have HOF9:Hid (∀i f,(sS9 L (p+1))[i]?=some f→of i=ix9 L f):=zhy fun i f h=>by
         rw [AG.o.2,List.getElem?_dropLast] at h;split at h
         ·exact HOF.o i f h
         ·cases h
        go_wp2_with fail;go_roundw
        case rel=>exact ⟨p+1,e,n,c1,some ⟨g,0,none⟩,of,by omega,by go_num,by omega,by go_num,by omega,rfl,HN9,HG9,HD9,HA6,HOF9,HO6,HB6⟩
        case measure=>simp [intOf];omega
       ·have hfn:((f:Int) != (b:Int))=true:=by simp;omega
        have HE:Hid (E=90∧FL=[]):=zhy (HNG.o (fun h=>by
         have h:=h p (by rw [HLm.o];exact hp);obtain ⟨f',hf',hA'⟩:=h.2 HXO.o.1;rw [HLA.o] at hf';injection hf' with hf';rw [HXO.o.2] at hA';omega))
        go_upto_region 16 with (fail);refine wp_region_held_drew (S:=fun w'=>Hid (Below w1.heap.size w1 w'∧w'.cell? ⟨D,1,none⟩=some (.int .i64 b)∧w'.cell? ⟨B,e,none⟩=some (.int .i64 k)∧w'.cell? ⟨g,k*3,none⟩=some (.int .i64 f))) (by kernel_rfl) (SR) (fun hHeld=>?_);refine zq 0 (h:=?_);refine zq 1 (h:=?_);refine zq 2 (h:=?_);refine zq 3 (h:=?_);refine zq 4 (h:=?_);refine zq 5 (h:=?_);refine zq 6 (h:=?_);refine zq 7 (hy:=fun w hSw=>by (try dsimp only at hSw);obtain ⟨-,s0,s1,s2⟩:=hSw.o;go_simp;try with_reducible rfl) (h:=?_);refine zq 8 (h:=?_);refine zq 9 (h:=?_);refine zq 10 (hy:=fun w hSw=>by (try dsimp only at hSw);obtain ⟨-,s0,s1,s2⟩:=hSw.o;go_simp;try with_reducible rfl) (h:=?_);refine zq 11 (h:=?_);refine zq 12 (hy:=fun w hSw=>by (try dsimp only at hSw);obtain ⟨-,s0,s1,s2⟩:=hSw.o;go_simp;try with_reducible rfl) (h:=?_);refine zq 13 (h:=?_);refine zq 14 (h:=?_);refine wpAnyH_done (by kernel_rfl) ?_ _;clear hHeld;go_wp2_with fail;go_step3;exact ⟨rfl,90,_,_,_,_,_,_,_,_,_,_,_,_,_,_,_,_,_,_,_,_,_,_,_,_,_,_,_,_,_,_,_,_,_,_,_,_,_,_,_,_,_,_,_,_,_,_,_,_,_,_,_,_,_,_,_,_,_,_,_,_,_,_,_,_,_,_,_,_,_,_,_,_,_,_,_,_,_,_,rfl,HE,HB5⟩
     ·have e28:(o==28)=false:=by simpa using h28
      have e29:(o==29)=false:=by simpa using h29
      have ST:=zhy (zmp (l:=L) (p:=p) (by rw [HXO.o.1];exact h28) (by rw [HXO.o.1];exact h29));have HN9:Hid (n=(sF9 L (p+1)).length):=zhy (by rw [za2,if_neg (by rw [HXO.o.1];exact h28),List.append_nil,←HN.o])
      have HG9:Hid (sG9 L (p+1)):=zhy fun q hq=>by
       by_cases hqp:q<p
       ·exact HG.o q hqp
       ·obtain rfl:q=p:=by omega
        exact ⟨fun h=>absurd (HXO.o.1.symm.trans h) h28,fun h=>absurd (HXO.o.1.symm.trans h) h29⟩
      have HD9:Hid (d=(sS9 L (p+1)).length):=zhy (by rw [ST.o.2,←HD.o]);have HOF9:Hid (∀i f,(sS9 L (p+1))[i]?=some f→of i=ix9 L f):=zhy (by rw [ST.o.2];exact HOF.o);have HO9:Hid (w1.ownsRow (B+1) 163 3 (.slice A1 n c1) n (cej (sL9 L (p+1)))):=zhy (by rw [ST.o.1];exact HO1.o);go_wp2_with fail;go_roundw
      case rel=>exact ⟨p+1,d,n,c1,A1,of,by omega,by go_num,by omega,rfl,by omega,rfl,HN9,HG9,HD9,HA1,HOF9,HO9,HB1⟩
      case measure=>simp [intOf];omega
   ·obtain rfl:m=p:=by omega
    by_cases hd:d=0
    ·subst hd;have hS:sS9 L m=[]:=List.eq_nil_of_length_eq_zero HD.o.symm;have HST:Hid (ze2 L=true∧ns9 (qy L L.length) L.length=true):=zhy ((zq2 HCM.o).2 (by rw [HLm.o];exact ⟨HG.o,hS⟩))
     have HLP:Hid (qy L L.length=sL9 L m):=zhy (by
      have h:=zi5 (l:=L) (by rw [HLm.o];exact HG.o) (by rw [HLm.o];exact hS);rw [h,HLm.o])
     have HNS:Hid ((sL9 L m).length=n):=zhy (by rw [sL9,List.length_map,←HN.o]);have HJ:=zhy (znu A A1 c m c1 n L (sL9 L m) wr (HR.o.keep HB.o) HLm.o (Rj.of_own HO.o (fun _ _=>trivial)).1 HNS.o hm2 HNN.o);clear hS;cases hj:(List.range m).all (jp9 L (sL9 L m)) with
     | false =>
      have HE:Hid (E=90∧FL=[]):=zhy (by
       rw [←HEF.o.1,←HEF.o.2]
       exact zez HCM.o (fun h=>by
        have h:=h.2.2.2;rw [HLP.o,HLm.o,hj] at h;cases h))
      rw [hj] at HJ;clear hj;go_wp2_with fail;refine HJ.o.mono ?_;rintro r w3 ⟨rfl,hb⟩;have HB3:=zhy (qc HB.o hb);clear hb;go_wp2_with fail;go_step3;exact ⟨rfl,90,_,_,_,_,_,_,_,_,_,_,_,_,_,_,_,_,_,_,_,_,_,_,_,_,_,_,_,_,_,_,_,_,_,_,_,_,_,_,_,_,_,_,_,_,_,_,_,_,_,_,_,_,_,_,_,_,_,_,_,_,_,_,_,_,_,_,_,_,_,_,_,_,_,_,_,_,_,_,rfl,HE,HB3⟩
     | true =>
      have HJJ:=zhy hj;rw [hj] at HJ;clear hj;go_wp2_with fail;refine HJ.o.mono ?_;rintro r w3 ⟨rfl,hb⟩;have HB3:=zhy (qc HB.o hb);have HO3:Hid (w3.ownsRow (B+1) 163 3 (.slice A1 n c1) n (cej (sL9 L m))):=zhy (qb HO.o hb (Nat.le_refl _));have HEN:=zhy (zu0 A c m L w3 (HR.o.keep HB3.o) HLm.o hm1 hm2);clear hb;by_cases hla:la9 L=31∨la9 L=32
      ·have HE:Hid (E=0∧FL=sL9 L m):=zhy (by
        rw [←HEF.o.1,←HEF.o.2,←HLP.o];exact zum HCM.o ⟨HST.o.1,HST.o.2,hla,by rw [HLP.o,HLm.o];exact HJJ.o⟩)
       rw [decide_eq_true hla] at HEN;clear hla;go_wp2_with fail;refine HEN.o.mono ?_;rintro r w4 ⟨rfl,hb⟩;have HB4:=zhy (qc HB3.o hb);have HO4:Hid (w4.ownsRow w.heap.size 163 3 (.slice A1 n c1) n (cej (sL9 L m))):=zhy (qb HO3.o hb (by rw [HBB.o];omega));clear hb;go_wp2_with fail;simp only [Exit.jump];go_ret2;exact ⟨A1,c1,by rw [HE.o.1,HE.o.2,HNS.o];rfl,by rw [HE.o.2,HNS.o];exact HO4.o,HB4.o⟩
      ·have HE:Hid (E=90∧FL=[]):=zhy (by
        rw [←HEF.o.1,←HEF.o.2];exact zez HCM.o (fun h=>hla h.2.2.1))
       rw [decide_eq_false hla] at HEN;clear hla;go_wp2_with fail;refine HEN.o.mono ?_;rintro r w4 ⟨rfl,hb⟩;have HB4:=zhy (qc HB3.o hb);clear hb;go_wp2_with fail;go_step3;exact ⟨rfl,90,_,_,_,_,_,_,_,_,_,_,_,_,_,_,_,_,_,_,_,_,_,_,_,_,_,_,_,_,_,_,_,_,_,_,_,_,_,_,_,_,_,_,_,_,_,_,_,_,_,_,_,_,_,_,_,_,_,_,_,_,_,_,_,_,_,_,_,_,_,_,_,_,_,_,_,_,_,_,rfl,HE,HB4⟩
    ·have hd0:0<d:=by omega
     have HE:Hid (E=90∧FL=[]):=zhy (by
      rw [←HEF.o.1,←HEF.o.2]
      exact zez HCM.o (fun h=>by
       have h:=((zq2 HCM.o).1 ⟨h.1,h.2.1⟩).2;rw [HLm.o] at h;have h2:=HD.o;rw [h] at h2;simp at h2;omega))
     go_wp2_with fail;go_step3;exact ⟨rfl,90,_,_,_,_,_,_,_,_,_,_,_,_,_,_,_,_,_,_,_,_,_,_,_,_,_,_,_,_,_,_,_,_,_,_,_,_,_,_,_,_,_,_,_,_,_,_,_,_,_,_,_,_,_,_,_,_,_,_,_,_,_,_,_,_,_,_,_,_,_,_,_,_,_,_,_,_,_,_,rfl,HE,HB⟩
end Go.Proofs.YtnjgkkoiamiaaaaGreatDoor
