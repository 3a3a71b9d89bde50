import Derived.Test.YtnjgkkoiamiaaaaGreatDoorRows
import Derived.ProofKit
import Derived.LaidMore
import Derived.OpenShut
import Derived.Stop.Joined
import Derived.Lib.SmallJoins
import Derived.WalkKit
import Derived.Lib.Hide
import Derived.Handy
import Derived.Laws.AppendOwnNone
import Derived.Maps.AppendAt
import Derived.Test.YtnjgkkoiamiaaaaGreatDoorChecked
import Derived.Deep.QuietTactic
import Derived.BigQuiet
import Derived.Deep.DeepCutAuto
import Derived.Deep.RegionHeld3
import Derived.WalkSpells
import Derived.Laws.ComplexArith
import Derived.Below
import Derived.WalkLawsBesides
import Derived.Deep.RegionWith
import Derived.OrdersHeld
import Derived.Lib.Hide
set_option maxRecDepth 100000
set_option maxHeartbeats 16000000
set_option linter.unusedSimpArgs false
set_option linter.unusedVariables false
namespace Go.Proofs.YtnjgkkoiamiaaaaGreatDoor
open Go.RowKit
theorem zhy {p:Prop} (h:p):Hid p:=h
theorem _root_.Go.RowKit.Hid.o {p:Prop} (h:Hid p):p:=h.out
universe u
theorem zg1 {α:Type u} {xs:List α} {i:Nat} (h:i<xs.toArray.size):xs.toArray[i]=xs[i]'(by simpa using h):=List.getElem_toArray h
theorem zg2 {α:Type u} (a:α) (ys:List α) (h:0<(a::ys).length):(a::ys)[0]=a:=rfl
theorem zg3 {α:Type u} (a:α) (ys:List α) (i:Nat) (h:i+1<(a::ys).length):(a::ys)[i+1]=ys[i]'(by simpa using h):=rfl
theorem zg4 {α:Type u} (l:List α) (i:Nat) (a:α):l.toArray.setIfInBounds i a=(l.set i a).toArray:=List.setIfInBounds_toArray l i a
theorem zg5 {α:Type u} {x:α} {xs:List α} {a:α}:(x::xs).set 0 a=a::xs:=rfl
theorem zg6 {α:Type u} {x:α} {xs:List α} {i:Nat} {a:α}:(x::xs).set (i+1) a=x::xs.set i a:=rfl
theorem zg7 {α:Type u} {l:List α} {i:Nat} (h:i<l.length):l[i]?=some l[i]:=List.getElem?_eq_getElem h
theorem zg8 {α:Type u} {i:Nat} {a:α} {l:List α}:l[i]?=some a↔∃h:i<l.length,l[i]=a:=List.getElem?_eq_some_iff
theorem zg9 {α:Type u} {i:Nat} {b:α} {xs:Array α}:xs[i]?=some b↔∃h:i<xs.size,xs[i]=b:=Array.getElem?_eq_some_iff
theorem ztk {P:Program} {ops:Array Oper} {Q:Exit→Act→World→Prop} {md:Region.Mode} {S:World→Prop} {i:Nat} {oi:Oper} {v:Value} {fuel:Nat} {listed:Array Bool} {a:Act} {w:World} (h1:ops[i]?=some oi) (h2:(Region.noSelect ops&&(Region.free md ops listed i&&(Region.ready md ops listed).contains i))=true)
  (hQ:∀(c:List PanicEntry) (a:Act) (w:World),Q (Exit.panic c) (a.put oi.dst v) w→Q (Exit.panic c) a w) (hy:YieldsIf P ops S oi v a) (hS:S w) (h:wpAnyH P md ops Q S fuel (listed.setIfInBounds i true) (a.put oi.dst v) w):wpAnyH P md ops Q S (fuel+1) listed a w:=by
 rw [Bool.and_eq_true,Bool.and_eq_true] at h2
 exact wpAnyH_take h1 h2.1 h2.2.1 h2.2.2 hQ hy hS h
theorem zq {P:Program} {ops:Array Oper} {Q:Exit→Act→World→Prop} {md:Region.Mode} {S:World→Prop} {oi:Oper} {v:Value} {fuel:Nat} {listed:Array Bool} {a a':Act} {w:World} (i:Nat) (h1:ops[i]?=some oi:=by rfl) (h2:(Region.noSelect ops&&(Region.free md ops listed i&&(Region.ready md ops listed).contains i))=true:=by kernel_rfl)
  (hQ:∀(c:List PanicEntry) (a:Act) (w:World),Q (Exit.panic c) (a.put oi.dst v) w→Q (Exit.panic c) a w:=by exact fun _ _ _ h=>h) (hg:Region.wanted oi (yielded ops a.tmps)=true:=by rfl) (hy:∀w,S w→(execOp a.eval oi).run P w=.ok (.value v) w:=by intro w _;go_simp;try with_reducible rfl) (hp:a.put oi.dst v=a':=by (try simp only [Act.put,zg1,zg2,zg3,zg4,zg5,zg6]);try with_reducible rfl) (hS:S w:=by assumption) (h:wpAnyH P md ops Q S fuel (listed.setIfInBounds i true) a' w):wpAnyH P md ops Q S (fuel+1) listed a w:=by
 subst hp
 exact ztk (i:=i) h1 h2 hQ (Or.inl ⟨hg,hy⟩) hS h
section
open Go.ChangeShapes Go.WideShapes Go.ChangeAt Go.RowKit
theorem zfu {P:Program} {w:World}:∀{laid:List (String×DataW Unit)} {ps:List MemPlace},DataW.LaidVars P w laid ps→∀(k:Nat) (n:String) (d:DataW Unit),laid[k]?=some (n,d) →
  ∃g t cs fuel p,P.globalNamed n=some g∧(P.globals[g]?).map (·.type)=some t∧w.var? P n=some cs∧DataW.trod (fun _=>()) P w 0 (fun _=>true) false fuel t cs.toList=some (d,p)
 | [],_,_,k,n,d,hk=>by simp at hk
 | (n0,d0)::r,ps,h,0,n,d,hk=>by
  obtain ⟨g,t,cs,fuel,p,q,h1,h2,h3,h4,_⟩:=h;simp at hk;obtain ⟨rfl,rfl⟩:=hk;exact ⟨g,t,cs,fuel,p,h1,h2,h3,h4⟩
 | (n0,d0)::r,ps,h,k+1,n,d,hk=>by
  obtain ⟨g,t,cs,fuel,p,q,_,_,_,_,h5,_⟩:=h;exact zfu h5 k n d (by simpa using hk)
end
def qu (n:Int):Nat→List Int
 | 0=>[]
 | w+1=>n % 256::qu (n / 256) w
def sh (n:Int):Nat→Int
 | 0=>n
 | k+1=>sh n k / 256
def num:List Int→Int
 | []=>0
 | b::l=>b+256*num l
def Byt (l:List Int):Prop:=∀x∈l,0≤x∧x<256
def zbb (k:Nat):Int:=256 ^ k
theorem zdi (k:Nat):zbb (k+1)=256*zbb k:=by unfold zbb;rw [Int.pow_succ,Int.mul_comm]
theorem zdh (k:Nat):0<zbb k:=by
 induction k with
 | zero=>decide
 | succ k ih=>rw [zdi];omega
theorem qe (n:Int) (w:Nat):(qu n w).length=w:=by
 induction w generalizing n with
 | zero=>rfl
 | succ w ih=>simp [qu,ih]
theorem qr (n:Int) (w:Nat):Byt (qu n w):=by
 induction w generalizing n with
 | zero=>intro x hx;cases hx
 | succ w ih =>
  intro x hx;simp only [qu,List.mem_cons] at hx;rcases hx with rfl | hx
  ·omega
  ·exact ih _ x hx
theorem qc0 (n:Int) (k:Nat):sh (n / 256) k=sh n (k+1):=by
 induction k with
 | zero=>rfl
 | succ k ih=>simp only [sh] at ih ⊢;rw [ih]
theorem zc1 (n:Int) (k:Nat):qu n (k+1)=qu n k++[sh n k % 256]:=by
 induction k generalizing n with
 | zero=>rfl
 | succ k ih =>
  rw [qu,ih (n / 256),qc0];rfl
theorem zc0 (n:Int) (h:0≤n) (k:Nat):0≤sh n k:=by
 induction k with
 | zero=>exact h
 | succ k ih=>simp only [sh];omega
theorem zx8 (n:Int) (h:0≤n) (k:Nat):sh n k≤n:=by
 induction k with
 | zero=>simp [sh]
 | succ k ih=>have:=zc0 n h k;simp only [sh];omega
theorem qcg {l:List Int} (h:Byt l):num l<zbb l.length:=by
 induction l with
 | nil=>decide
 | cons b l ih =>
  have hb:=h b (by simp);have:=ih fun x hx=>h x (by simp [hx]);simp only [num,List.length_cons,zdi];omega
theorem qad {a b:Nat} (h:a≤b):zbb a≤zbb b:=by
 induction h with
 | refl=>exact Int.le_refl _
 | step _ ih=>rw [zdi];have:=zdh a;omega
theorem zmn {l:List Int} (h:Byt l) (k:Nat):Byt (l.drop k):=fun x hx=>h x (List.mem_of_mem_drop hx)
theorem zhl {l:List Int} (h:Byt l) (k:Nat):Byt (l.take k):=fun x hx=>h x (List.mem_of_mem_take hx)
theorem zob {l m:List Int} (h:Byt l) (k:Byt m):Byt (l++m):=by
 intro x hx;rcases List.mem_append.1 hx with hx | hx
 ·exact h x hx
 ·exact k x hx
theorem qbm (n:Int) (k:Nat):sh n k=n / zbb k:=by
 induction k with
 | zero=>simp [sh,zbb]
 | succ k ih =>
  have hp:=zdh k;rw [sh,ih,zdi,Int.mul_comm,←Int.ediv_ediv_of_nonneg (by omega)]
theorem qb0 {n:Int} {k:Nat} (h0:0≤n) (h:n<zbb k):sh n k=0:=by
 rw [qbm,Int.ediv_eq_zero_of_lt h0 h]
def Rd (w:World) (A:Option Addr) (c:Nat) (l:List Int):Prop:=
 Byt l∧l.length≤c∧c≤maxLen∧((A=none∧c=0)∨∃ad:Addr,A=some ad∧∀i x,l[i]?=some x→w.cell? (ad.add i)=some (.int .u8 x))
def cel (l:List Int):List Value:=l.map (Value.int .u8)
theorem zo (l:List Int):(cel l).length=l.length:=by simp [cel]
theorem zb9 (l m:List Int):cel (l++m)=cel l++cel m:=by simp [cel]
theorem zia (l:List Int):∀u∈cel l,u.oneCell'=true:=ints_oneCell _ _
section
variable {w w' : World} {A : Option Addr} {c : Nat} {l : List Int}
theorem Rd.byt (h:Rd w A c l):Byt l:=h.1
theorem Rd.le (h:Rd w A c l):l.length≤c:=h.2.1
theorem Rd.cap (h:Rd w A c l):c≤9223372036854775807:=h.2.2.1
theorem Rd.len (h:Rd w A c l):l.length≤9223372036854775807:=Nat.le_trans h.le h.cap
theorem Rd.at_ (h:Rd w A c l) {i:Nat} (hi:i<l.length):∃ad:Addr,A=some ad∧w.cell? (ad.add i)=some (.int .u8 (l[i]?.getD 0)):=by
 rcases h.2.2.2 with ⟨_,hc⟩ | ⟨ad,ha,hc⟩
 ·have:=h.le;omega
 ·exact ⟨ad,ha,hc i _ (by rw [zg7 hi];rfl)⟩
theorem Rd.byte (h:Rd w A c l) (i:Nat):0≤l[i]?.getD 0∧l[i]?.getD 0<256:=by
 by_cases hi:i<l.length
 ·rw [zg7 hi];exact h.1 _ (List.getElem_mem hi)
 ·rw [List.getElem?_eq_none (by omega)];exact ⟨by decide,by decide⟩
theorem Rd.none_ (w:World):Rd w none 0 []:=⟨fun x hx=>(by cases hx),Nat.le_refl _,Nat.zero_le _,.inl ⟨rfl,rfl⟩⟩
theorem qi {p:Addr} {v:Value} (h:w.cell? p=some v):p.block<w.heap.size:=by
 rcases Nat.lt_or_ge p.block w.heap.size with hlt | hge
 ·exact hlt
 ·simp [World.cell?,Array.getElem?_eq_none hge] at h
theorem Rd.keep (h:Rd w A c l) (hb:Below w.heap.size w w'):Rd w' A c l:=by
 refine ⟨h.1,h.2.1,h.2.2.1,?_⟩;rcases h.2.2.2 with hn | ⟨ad,ha,hc⟩
 ·exact .inl hn
 ·exact .inr ⟨ad,ha,fun i x hx=>(hb.cell (qi (hc i x hx))).trans (hc i x hx)⟩
theorem Rd.grown (h:Rd w A c l) {row:Option Nat} (hg:w.grownBy w' row) (hr:∀ad,A=some ad→0<l.length→some ad.block≠row):Rd w' A c l:=by
 refine ⟨h.1,h.2.1,h.2.2.1,?_⟩;rcases h.2.2.2 with hn | ⟨ad,ha,hc⟩
 ·exact .inl hn
 ·refine .inr ⟨ad,ha,fun i x hx=>hg.cell (hc i x hx) ?_⟩;have hb:(ad.add i).block=ad.block:=by unfold Addr.add;split<;>rfl
  rw [hb];exact hr ad ha (by have:=(zg8.1 hx).1;omega)
theorem Rd.drew (h:Rd w A c l):Rd w.drew A c l:=h
theorem Rd.alloc (h:Rd w A c l) (o:Obj):Rd (w.alloc o) A c l:=h.keep ((Below.refl _ _).alloc (Nat.le_refl _) _)
theorem zk2 (a:Addr) (i j:Nat):(a.add i).add j=a.add (i+j):=by
 unfold Addr.add;by_cases hi:i=0<;>by_cases hj:j=0<;>simp [hi,hj,Nat.add_assoc]
theorem Rd.sub (h:Rd w A c l) (lo hi:Nat) (h1:lo≤hi) (h2:hi≤l.length):Rd w (if c=lo then A else A.map (·.add lo)) (c-lo) ((l.drop lo).take (hi-lo)):=by
 have hc:=h.le;refine ⟨zhl (zmn h.1 _) _,by simp;omega,Nat.le_trans (Nat.sub_le _ _) h.2.2.1,?_⟩;rcases h.2.2.2 with ⟨rfl,rfl⟩ | ⟨ad,rfl,hx⟩
 ·exact .inl ⟨by simp,by simp⟩
 ·by_cases e:c=lo
  ·rw [if_pos e];refine .inr ⟨ad,rfl,fun i x hi'=>?_⟩;have:=(zg8.1 hi').1;simp at this;omega
  ·rw [if_neg e];refine .inr ⟨ad.add lo,rfl,fun i x hi'=>?_⟩;rw [zk2];rw [List.getElem?_take] at hi';split at hi'
   ·exact hx _ x (by rw [←hi',List.getElem?_drop])
   ·cases hi'
theorem Rd.of_own {base e:Nat} {n:Nat} (h:w.ownsRow base e 1 (.slice A n c) n (cel l)) (hb:Byt l):Rd w A c l∧n=l.length:=by
 have hn:n=l.length:=by have:=h.1;rw [zo] at this;omega
 refine ⟨⟨hb,?_⟩,hn⟩;have hcell:=fun g=>h.cells (g:=g);rcases h.2 with ⟨hv,h0⟩ | ⟨g,cap,cur,hv,_,_,hcap,hm,_⟩
 ·injection hv with e1 e2 e3;exact ⟨by omega,by omega,.inl ⟨e1,e3⟩⟩
 ·injection hv with e1 e2 e3;subst e1 e3;refine ⟨by omega,hm,.inr ⟨_,rfl,fun i x hx=>hcell g rfl i _ (by simp [cel,hx])⟩⟩
end
theorem qv {w:World} {base e size n:Nat} {v:Value} {xs:List Value} (h:w.ownsRow base e size v n xs):∃A c,v=.slice A n c:=by
 rcases h.2 with ⟨hv,h0⟩ | ⟨g,cap,cur,hv,_⟩
 ·exact ⟨none,0,by rw [hv,h0]⟩
 ·exact ⟨_,_,hv⟩
theorem qg {w:World} {base base' e size n:Nat} {v:Value} {xs:List Value} (h:w.ownsRow base e size v n xs) (hb:base'≤base):w.ownsRow base' e size v n xs:=by
 refine ⟨h.1,?_⟩;rcases h.2 with hv | ⟨g,cap,cur,hv,hg,r⟩
 ·exact .inl hv
 ·exact .inr ⟨g,cap,cur,hv,by omega,r⟩
theorem qb {w w':World} {B base e size n:Nat} {v:Value} {xs:List Value} (h:w.ownsRow base e size v n xs) (hb:Below w.heap.size w w') (hB:B≤base):w'.ownsRow B e size v n xs:=by
 refine ⟨h.1,?_⟩;rcases h.2 with hv | ⟨g,cap,cur,hv,hg,hh,r⟩
 ·exact .inl hv
 ·exact .inr ⟨g,cap,cur,hv,by omega,(hb.block g (zg9.1 hh).1).trans hh,r⟩
theorem qa {P:Program} (w:World) {ops:Array Oper} {rest:List Oper} {o:Oper} {a:Act} {Q:Exit→Act→World→Prop} (hgd:o.guard=none) (s x:Operand) (t:TypeId)
  (ho:o.op=.call { callee:=.builtin .append,args:=#[s,x],argTypes:=#[t,t]})
  (base:Nat) (e:TypeId) (i:TypeInfo) (ht:P.underlying t=some (.slice e)) (hi:P.info? e=some i) (hz:i.zero=some (.int .u8 0)) (hsize:i.size=1) (hby:i.bytes=1)
  (v:Value) (n:Nat) (k:List Int) (hs:a.eval s=v) (hown:w.ownsRow base e 1 v n (cel k))
  (A:Option Addr) (m c:Nat) (l:List Int) (hx:a.eval x=.slice A m c) (hr:Rd w A c l) (hm:m=l.length) (hbytes:n+m≤140737488355328) (hbase:base≤w.heap.size)
  (h:∀A' c' w',w'.ownsRow base e 1 (.slice A' (n+m) c') (n+m) (cel (k++l))→w.grownBy w' v.ownBlock→Below base w w' →
   ((Value.slice A' (n+m) c').ownBlock=v.ownBlock∨(Value.slice A' (n+m) c').ownBlock=some w.heap.size)→wpList P ops Q rest (a.put o.dst (.slice A' (n+m) c')) w'):wpList P ops Q (o::rest) a w:=by
 have hbel:∀{w'},w.grownBy w' v.ownBlock→Below base w w':=fun hg=>(Below.refl _ _).grown hg hbase fun g hg'=>(hown.lt g hg').1;rcases hr.2.2.2 with ⟨rfl,rfl⟩ | ⟨ad,rfl,hcell⟩
 ·have h0:l=[]:=List.eq_nil_of_length_eq_zero (by have:=hr.le;omega);subst h0;obtain rfl:m=0:=hm;refine wpList_append_own_none hgd s x t ho base e i 1 ht hi v n (cel k) hs hown hx ?_;obtain ⟨A',c',rfl⟩:=qv hown;have:=h A' c' w (by simpa using hown) (World.grownBy.refl w _) (hbel (World.grownBy.refl w _)) (.inl rfl);simpa using this
 ·refine wpList_append_own_at w hgd s x t ho base e i (.int .u8 0) 1 1 ht hi hz hsize hby rfl (by decide) v n (cel k) hs hown ad m c (cel l) hx (by rw [zo];omega)
   (fun j u hj=>by
    simp only [cel,List.getElem?_map,Option.map_eq_some_iff] at hj;obtain ⟨y,hy,rfl⟩:=hj;exact hcell j y hy) (zia l) (by unfold maxLen;omega) (by omega) hbase ?_
  intro v' w' hown' hg _ hb;obtain ⟨A',c',rfl⟩:=qv hown';exact h A' c' w' (by rw [zb9];exact hown') hg (hbel hg) hb
theorem jh {P:Program} {w:World} {ops:Array Oper} {o:Oper} {a:Act} {K:Act→World→Prop} {Q:Exit→Act→World→Prop} {E:Prop} (hgd:o.guard=none) (s x:Operand) (t:TypeId)
  (ho:o.op=.call { callee:=.builtin .append,args:=#[s,x],argTypes:=#[t,t]})
  (base:Nat) (e:TypeId) (i:TypeInfo) (ht:P.underlying t=some (.slice e)) (hi:P.info? e=some i) (hz:i.zero=some (.int .u8 0)) (hsize:i.size=1) (hby:i.bytes=1)
  (v:Value) (n:Nat) (k:List Int) (hs:a.eval s=v) (hown:w.ownsRow base e 1 v n (cel k))
  (A:Option Addr) (m c:Nat) (l:List Int) (hx:a.eval x=.slice A m c) (hr:Rd w A c l) (hm:m=l.length) (hbytes:n+m≤140737488355328) (hbase:base≤w.heap.size)
  (h:∀A' c' w',w'.ownsRow base e 1 (.slice A' (n+m) c') (n+m) (cel (k++l))→Below base w w'→K (a.put o.dst (.slice A' (n+m) c')) w') :
  if Region.wanted o (yielded ops a.tmps)=true then Oper.wp P o a w K Q else E:=by
 have hw:Region.wanted o (yielded ops a.tmps)=true:=by simp [Region.wanted,hgd]
 rw [if_pos hw];have hbel:∀{w'},w.grownBy w' v.ownBlock→Below base w w':=fun hg=>(Below.refl _ _).grown hg hbase fun g hg'=>(hown.lt g hg').1;rcases hr.2.2.2 with ⟨rfl,rfl⟩ | ⟨ad,rfl,hcell⟩
 ·have h0:l=[]:=List.eq_nil_of_length_eq_zero (by have:=hr.le;omega);subst h0;obtain rfl:m=0:=hm;have hrun:=run_append_owned_none (P:=P) (w:=w) base t o.type e i 1 ht hi v n (cel k) hown;obtain ⟨A',c',rfl⟩:=qv hown;unfold Oper.wp;simp [execOp,ho,resolve,invoke,builtin,hs,hx,hrun,Result.andThen];have:=h A' c' w (by simpa using hown) (hbel (World.grownBy.refl w _));simp only [Nat.add_zero] at this;exact this
 ·obtain ⟨v',w',hr,h2,h3,h4,h5⟩:=run_append_own_at (P:=P) w base t o.type e i (.int .u8 0) 1 1 ht hi hz hsize hby rfl (by decide) v n (cel k) hown ad m c (cel l) (by rw [zo];omega)
   (fun j u hj=>by
    simp only [cel,List.getElem?_map,Option.map_eq_some_iff] at hj;obtain ⟨y,hy,rfl⟩:=hj;exact hcell j y hy) (zia l) (by unfold maxLen;omega) (by omega) hbase
  obtain ⟨A',c',rfl⟩:=qv h2;unfold Oper.wp execOp;simp only [ho,resolve,invoke,builtin,Sem.run_bind,Sem.run_pure,Result.andThen_ok,List.map_toArray,List.map_cons,List.map_nil,hs,hx,hr];exact h A' c' w' (by rw [zb9];exact h2) (hbel h3)
theorem Tryz.info5:(Tryz.prog.info? 5).map (fun i=>(i.zero,i.size,i.bytes))=some (some (.int .u8 0),1,1):=by kernel_rfl
theorem zr9 (w:World) (l:List Int) (hb:Byt l) (hl:l.length≤maxLen):Rd (w.alloc (.cells (cel l).toArray 5)) (some ⟨w.heap.size,0,none⟩) l.length l:=by
 have h:=World.ownsRow_lit (base:=w.heap.size) (e:=5) (size:=1) w (cel l).toArray l.length (Nat.le_refl _) hl (by simp [zo]);exact (Rd.of_own (by simpa using h) hb).1
theorem qt {w:World} {A:Option Addr} {base n c e:Nat} {l:List Int} (h:w.ownsRow base e 1 (.slice A n c) n (cel l)) (hb:Byt l):Rd w A c l:=(Rd.of_own h hb).1
theorem Rd.drewN {w:World} {A:Option Addr} {c:Nat} {l:List Int} (h:Rd w A c l) (q:Nat):Rd (w.drewN q) A c l:=h
theorem qf {B:Nat} {a w:World} (h:Below B a w) (q:Nat):Below B a (w.drewN q):=⟨h.os,h.tape,h.output,h.size,h.block⟩
theorem Rd.pre {w:World} {A:Option Addr} {c:Nat} {l:List Int} (h:Rd w A c l) (n:Nat):Rd w A c (l.take n):=by
 refine ⟨zhl h.1 _,by have:=h.2.1;simp;omega,h.2.2.1,?_⟩;rcases h.2.2.2 with hn | ⟨ad,ha,hc⟩
 ·exact .inl hn
 ·refine .inr ⟨ad,ha,fun i x hx=>?_⟩;rw [List.getElem?_take] at hx;split at hx
  ·exact hc i x hx
  ·cases hx
theorem zah {w:World} {base e n c:Nat} {A:Option Addr} {xs:List Value} (h:w.ownsRow base e 1 (.slice A n c) n xs) (hn:0<n):∃g,A=some ⟨g,0,none⟩∧base≤g:=by
 rcases h.2 with ⟨_,h0⟩ | ⟨g,cap,cur,hv,hg,_⟩
 ·omega
 ·injection hv with e1 e2 e3;exact ⟨g,e1,hg⟩
theorem zuq (ad:Addr) (m:Nat):ad.add (m+1)=⟨ad.block,ad.off+(m+1),none⟩:=by unfold Addr.add;rw [if_neg (by omega)]
theorem qo (w:World) (x:Int) (h:0≤x∧x<256):Rd (w.alloc (.cells #[.int .u8 x] 5)) (some ⟨w.heap.size,0,none⟩) 1 [x]:=
 zr9 w [x] (fun y hy=>by simp at hy;subst hy;exact h) (by unfold maxLen;simp)
theorem zfs {P:Program} {md:Region.Mode} {ops:Array Oper} {Q:Exit→Act→World→Prop} {S S':World→Prop} (h:∀w,S' w→S w) :
  ∀(fuel:Nat) (listed:Array Bool) (a:Act) (w:World),wpAnyH P md ops Q S' fuel listed a w→wpAnyH P md ops Q S fuel listed a w
 | 0,_,_,_,hh=>hh
 | fuel+1,_,_,_,hh=>⟨hh.1,fun i hi=>wpOp_mono (fun _ _ h2=>⟨h _ h2.1,zfs h fuel _ _ _ h2.2⟩) (hh.2 i hi)⟩
theorem zjb (n:Int) (k W:Nat) (h:k<W):(((qu n k++List.replicate (W-k) 0).map (Value.int .u8)).set k (.int .u8 (sh n k % 256)))=(qu n (k+1)++List.replicate (W-(k+1)) 0).map (Value.int .u8):=by
 obtain ⟨m,rfl⟩:∃m,W=k+1+m:=⟨W-(k+1),by omega⟩;rw [zc1];have e1:k+1+m-k=m+1:=by omega
 have e2:k+1+m-(k+1)=m:=by omega
 rw [e1,e2,List.replicate_succ];simp only [List.map_append,List.map_cons,List.append_assoc,List.singleton_append];rw [List.set_append_right _ _ (by simp [qe])];simp [qe]
theorem zrh (n:Int) (W:Nat) (w:World) (hW:W≤8) :
  Calls Tryz.prog 109 #[.int .i64 n,.int .i64 W] w fun e w'=>e=.returned (.slice (some ⟨w.heap.size,0,none⟩) W W) ∧
   w'.ownsRow w.heap.size 5 1 (.slice (some ⟨w.heap.size,0,none⟩) W W) W ((qu n W).map (Value.int .u8))∧Below w.heap.size w w':=by
 obtain ⟨i0,hi,hz0,hz1,hz2⟩:=info_parts Tryz.info5;go_enter Tryz.func109,Tryz.ntmps109;go_wp2_with (at_make;refine wpList_make_full _ rfl _ _ 40 rfl w.heap.size 5 i0 (.int .u8 0) 1 Tryz.underlying40 hi hz0 hz1 _ _ _ _ W rfl rfl rfl rfl ?b2 ?b3 (Nat.le_refl _) ?_)
 case b2=>rw [hz2];omega
 case b3=>unfold maxLen;omega
 intro w0 hown0 hgrow0;go_wp2
 have hrep:(madeCells #[Value.int .u8 0] W).toList=(List.replicate W 0).map (Value.int .u8):=by
  simp [toList_madeCells_one]
 rw [hrep] at hown0;clear hrep
 go_loopw [0,11] (fun x i wr=>∃k:Nat,k≤W∧i=.int .i64 k∧x=.int .i64 (sh n k) ∧
   wr.ownsRow w.heap.size 5 1 (.slice (some ⟨w.heap.size,0,none⟩) W W) W ((qu n k++List.replicate (W-k) 0).map (Value.int .u8))∧Below w.heap.size w wr)
  (fun _ i _=>W-(intOf i).toNat)
 case atStart=>exact ⟨0,Nat.zero_le _,rfl,rfl,by simpa [qu] using hown0,(Below.refl _ _).grown hgrow0 (Nat.le_refl _) (fun k h=>by cases h)⟩
 case round =>
  obtain ⟨k,hk,rfl,rfl,hown,hnx⟩:=hrel;by_cases hlt:k<W
  ·have hfz:=hown.frozenAt k;have hcell:=hown.cellAt k (by omega);obtain ⟨z,hz⟩:∃z,((qu n k++List.replicate (W-k) 0).map (Value.int .u8))[k]?=some z:=⟨_,zg7 (by simp [qe];omega)⟩;rw [hz] at hcell;have hst:=hown.stored k (.int .u8 (sh n k % 256));rw [zjb n k W hlt] at hst;clear hz;have HST:=zhy hst;clear hst hown;go_wp2;go_roundw
   case rel=>exact ⟨k+1,by omega,by go_num,by simp [sh],HST.o.1,hnx.setCell (Nat.le_refl _) _⟩
   case measure=>simp [intOf];omega
  ·obtain rfl:k=W:=by omega
   go_wp2;go_ret;exact ⟨rfl,by simpa using hown,hnx⟩
theorem zkq (n:Int) (W:Nat) (w:World) (hW:W≤8) :
  Calls Tryz.prog 235 #[.int .i64 n,.int .i64 W] w fun e w'=>e=.returned (.slice (some ⟨w.heap.size,0,none⟩) W W) ∧
   w'.ownsRow w.heap.size 5 1 (.slice (some ⟨w.heap.size,0,none⟩) W W) W ((qu n W).map (Value.int .u8))∧Below w.heap.size w w':=by
 obtain ⟨i0,hi,hz0,hz1,hz2⟩:=info_parts Tryz.info5;go_enter Tryz.func235,Tryz.ntmps235;go_wp2_with (at_make;refine wpList_make_full _ rfl _ _ 40 rfl w.heap.size 5 i0 (.int .u8 0) 1 Tryz.underlying40 hi hz0 hz1 _ _ _ _ W rfl rfl rfl rfl ?b2 ?b3 (Nat.le_refl _) ?_)
 case b2=>rw [hz2];omega
 case b3=>unfold maxLen;omega
 intro w0 hown0 hgrow0;go_wp2
 have hrep:(madeCells #[Value.int .u8 0] W).toList=(List.replicate W 0).map (Value.int .u8):=by
  simp [toList_madeCells_one]
 rw [hrep] at hown0;clear hrep
 go_loopw [0,11] (fun x i wr=>∃k:Nat,k≤W∧i=.int .i64 k∧x=.int .i64 (sh n k) ∧
   wr.ownsRow w.heap.size 5 1 (.slice (some ⟨w.heap.size,0,none⟩) W W) W ((qu n k++List.replicate (W-k) 0).map (Value.int .u8))∧Below w.heap.size w wr)
  (fun _ i _=>W-(intOf i).toNat)
 case atStart=>exact ⟨0,Nat.zero_le _,rfl,rfl,by simpa [qu] using hown0,(Below.refl _ _).grown hgrow0 (Nat.le_refl _) (fun k h=>by cases h)⟩
 case round =>
  obtain ⟨k,hk,rfl,rfl,hown,hnx⟩:=hrel;by_cases hlt:k<W
  ·have hfz:=hown.frozenAt k;have hcell:=hown.cellAt k (by omega);obtain ⟨z,hz⟩:∃z,((qu n k++List.replicate (W-k) 0).map (Value.int .u8))[k]?=some z:=⟨_,zg7 (by simp [qe];omega)⟩;rw [hz] at hcell;have hst:=hown.stored k (.int .u8 (sh n k % 256));rw [zjb n k W hlt] at hst;clear hz;have HST:=zhy hst;clear hst hown;go_wp2;go_roundw
   case rel=>exact ⟨k+1,by omega,by go_num,by simp [sh],HST.o.1,hnx.setCell (Nat.le_refl _) _⟩
   case measure=>simp [intOf];omega
  ·obtain rfl:k=W:=by omega
   go_wp2;go_ret;exact ⟨rfl,by simpa using hown,hnx⟩
def zcn (W n:Int):Int:=if W<1∨8<W then 2 else if n<0∨zbb W.toNat≤n then 11 else 0
def zan (W n:Int):List Int:=if zcn W n=0 then qu n W.toNat else []
theorem zd3 (W:Int) (w:World) (h1:1≤W) (h2:W≤8):Calls Tryz.prog 108 #[.int .i64 W] w fun e w'=>e=.returned (.bool true)∧w=w':=by
 go_enter Tryz.func108,Tryz.ntmps108;go_wp2;go_ret;exact ⟨rfl,rfl⟩
theorem zk5 (W:Int) (w:World) (h:W<1∨8<W):Calls Tryz.prog 108 #[.int .i64 W] w fun e w'=>e=.returned (.bool false)∧w=w':=by
 by_cases h1:1≤W
 ·have h2:¬W≤8:=by omega
  clear h;go_enter Tryz.func108,Tryz.ntmps108;go_wp2;go_ret;exact ⟨rfl,rfl⟩
 ·clear h;go_enter Tryz.func108,Tryz.ntmps108;go_wp2;go_ret;exact ⟨rfl,rfl⟩
theorem zjx (n:Int) (W:Nat):n / 2 ^ (8*W)=n / zbb W:=by
 rw [Int.pow_mul];rfl
theorem ztu {n:Int} {W:Nat} (h0:0≤n) (h:n / 2 ^ (8*W)≤0):n<zbb W:=by
 rw [zjx] at h;have hp:=zdh W;have h1:0≤n / zbb W:=Int.ediv_nonneg h0 (Int.le_of_lt hp);have h2:n / zbb W=0:=by omega
 have h3:=Int.emod_lt_of_pos n hp;have h4:=Int.emod_add_mul_ediv n (zbb W);rw [h2] at h4;omega
theorem zq0 {n:Int} {W:Nat} (h:n<0∨0<n / 2 ^ (8*W)):n<0∨zbb W≤n:=by
 rcases h with h | h
 ·exact .inl h
 ·refine .inr ?_;rw [zjx] at h;rcases Int.lt_or_le n (zbb W) with h1 | h1
  ·rcases Int.lt_or_le n 0 with h0 | h0
   ·have:=Int.ediv_neg_of_neg_of_pos h0 (zdh W);omega
   ·rw [Int.ediv_eq_zero_of_lt h0 h1] at h;omega
  ·exact h1
theorem zy {n:Int} {k:Nat} (h1:1≤k) (h8:k≤8) (h0:0≤n) (h:n<zbb k):zcn k n=0∧zan k n=qu n k:=by
 have e:zcn k n=0:=by
  unfold zcn;rw [if_neg (by omega),Int.toNat_natCast,if_neg (by omega)]
 exact ⟨e,by rw [zan,if_pos e,Int.toNat_natCast]⟩
theorem zhx {n:Int} {k:Nat} (h1:1≤k) (h8:k≤8) (h:n<0∨zbb k≤n):zcn k n=11∧zan k n=[]:=by
 have e:zcn k n=11:=by
  unfold zcn;rw [if_neg (by omega),Int.toNat_natCast,if_pos h]
 exact ⟨e,by rw [zan,if_neg (by rw [e];decide)]⟩
theorem zcq (W n:Int) (w:World) :
  Calls Tryz.prog 65 #[.int .i64 W,.int .i64 n] w fun e w'=>∃A c,e=.returned (.tuple #[.slice A (zan W n).length c,.int .i64 (zcn W n)]) ∧
   w'.ownsRow w.heap.size 5 1 (.slice A (zan W n).length c) (zan W n).length (cel (zan W n))∧Below w.heap.size w w':=by
 by_cases hW:W<1∨8<W
 ·have e1:zcn W n=2:=by simp [zcn,hW]
  have e2:zan W n=[]:=by simp [zan,e1]
  rw [e1,e2];clear e1 e2;go_enter Tryz.func65,Tryz.ntmps65;go_wp2_with (go_at_call 108;refine (zk5 _ _ hW).mono ?_;rintro e w' ⟨rfl,rfl⟩);go_ret2;exact ⟨none,0,rfl,World.ownsRow_nil _ _ _ _,Below.refl _ _⟩
 ·obtain ⟨k,rfl⟩:∃k:Nat,W=k:=⟨W.toNat,by omega⟩;have h1:1≤k:=by omega
  have h8:k≤8:=by omega
  clear hW;by_cases hneg:n<0
  ·have e1:zcn k n=11:=by unfold zcn;rw [if_neg (by omega),if_pos (.inl hneg)]
   have e2:zan k n=[]:=by simp [zan,e1]
   rw [e1,e2];clear e1 e2;go_enter Tryz.func65,Tryz.ntmps65;go_wp2_with (go_at_call 108;refine (zd3 _ _ (by omega) (by omega)).mono ?_;rintro e w' ⟨rfl,rfl⟩);go_ret2;exact ⟨none,0,rfl,World.ownsRow_nil _ _ _ _,Below.refl _ _⟩
  ·go_enter Tryz.func65,Tryz.ntmps65;go_wp2_with (go_at_call 108;refine (zd3 _ _ (by omega) (by omega)).mono ?_;rintro e w' ⟨rfl,rfl⟩)
   ·have hw:n<0∨0<n / 2 ^ (8*k):=by assumption
    go_ret2;obtain ⟨e1,e2⟩:=zhx h1 h8 (zq0 hw);rw [e1,e2];exact ⟨none,0,rfl,World.ownsRow_nil _ _ _ _,Below.refl _ _⟩
   ·have hw:0≤n∧n / 2 ^ (8*k)≤0:=by assumption
    refine (zrh n k _ h8).mono ?_;rintro e w' ⟨rfl,hown,hb⟩;go_wp2;go_ret2;obtain ⟨e1,e2⟩:=zy h1 h8 hw.1 (ztu hw.1 hw.2);rw [e1,e2,qe];exact ⟨_,_,rfl,hown,hb⟩
theorem znd (n:Int) (w:World) :
  Calls Tryz.prog 206 #[.int .i64 n] w fun e w'=>e=.returned (.slice (some ⟨w.heap.size,0,none⟩) 8 8) ∧
   w'.ownsRow w.heap.size 5 1 (.slice (some ⟨w.heap.size,0,none⟩) 8 8) 8 (cel (qu n 8))∧Below w.heap.size w w':=by
 have h:=zkq n 8 w (Nat.le_refl _);go_enter Tryz.func206,Tryz.ntmps206;go_wp2_with fail;refine h.mono ?_;rintro e w' ⟨rfl,hown,hb⟩;go_wp2;go_ret;exact ⟨rfl,hown,hb⟩
theorem zt6 (W n:Int):Byt (zan W n):=by
 unfold zan;split
 ·exact qr _ _
 ·intro x hx;cases hx
def zmo (l:List Int) (p n:Int):Int:=if p<0∨l.length<p then 2 else if l.length-p<n then 10 else 0
def zn8 (l:List Int) (p n:Int):List Int:=if zmo l p n=0 then (l.drop p.toNat).take n.toNat else []
def qc3 (l:List Int) (p n:Int):Int:=if zmo l p n=0 then p+n else 0
theorem zrx {l:List Int} {p n:Int} (h1:0≤p) (h2:p≤l.length) (h:l.length-p<n):zmo l p n=10∧zn8 l p n=[]∧qc3 l p n=0:=by
 have e:zmo l p n=10:=by rw [zmo,if_neg (by omega),if_pos h]
 exact ⟨e,by rw [zn8,if_neg (by rw [e];decide)],by rw [qc3,if_neg (by rw [e];decide)]⟩
theorem zyq {l:List Int} {p n:Int} (h1:0≤p) (h2:p≤l.length) (h:n≤l.length-p):zmo l p n=0∧zn8 l p n=(l.drop p.toNat).take n.toNat∧qc3 l p n=p+n:=by
 have e:zmo l p n=0:=by rw [zmo,if_neg (by omega),if_neg (by omega)]
 exact ⟨e,by rw [zn8,if_pos e],by rw [qc3,if_pos e]⟩
theorem zys {l:List Int} (h:Byt l) (p n:Int):Byt (zn8 l p n):=by
 unfold zn8;split
 ·exact zhl (zmn h _) _
 ·intro x hx;cases hx
def zoj (l:List Int) (p W:Int):Int:=if W<1∨8<W then 2 else if zmo l p W=0 then (if 9223372036854775807<num (zn8 l p W) then 11 else 0) else zmo l p W
def zx7 (l:List Int) (p W:Int):Int:=if zoj l p W=0 then num (zn8 l p W) else 0
def qcv (l:List Int) (p W:Int):Int:=if zoj l p W=0 then p+W else 0
theorem zz1 (l:List Int) (p W:Int) (k:Nat) (h:W≤k):(zn8 l p W).length≤k:=by
 unfold zn8;split
 ·simp;omega
 ·simp
theorem qcp {l:List Int} {p W:Int} (h:1≤W∧W≤8):zoj l p W=if zmo l p W=0 then (if 9223372036854775807<num (zn8 l p W) then 11 else 0) else zmo l p W:=by rw [zoj,if_neg (by omega)]
theorem zq6 {l:List Int} {p W:Int} (h:1≤W∧W≤8) (hb:num (zn8 l p W)≤9223372036854775807):zoj l p W=zmo l p W:=by
 rw [qcp h,if_neg (Int.not_lt.2 hb)];split
 ·rename_i h0;exact h0.symm
 ·rfl
section
open Ieee
theorem zbi {W w1:World} (hb:Below W.heap.size W w1):(∀b o,b<W.heap.size→w1.cell? ⟨b,o,none⟩=W.cell? ⟨b,o,none⟩)∧(∀b o,b<W.heap.size→w1.frozen? ⟨b,o,none⟩=W.frozen? ⟨b,o,none⟩):=
 ⟨fun b o h=>hb.cell (p:=⟨b,o,none⟩) h,fun b o h=>hb.frozen (p:=⟨b,o,none⟩) h⟩
theorem zdb {w w1:World} {a:Obj} (h:Below (w.alloc a).heap.size (w.alloc a) w1):Below w.heap.size w w1:=((Below.refl _ _).alloc (Nat.le_refl _) _).trans (h.mono (by simp))
theorem qco {w w1:World} {a b:Obj} (h:Below ((w.alloc a).alloc b).heap.size ((w.alloc a).alloc b) w1):Below w.heap.size w w1:=zdb (zdb h)
theorem zdt {B:Nat} {w w1:World} {p q:Addr} (h:Below B w w1) (hp:B≤p.block) (hq:B≤q.block) (x y:Value):Below B w ((w1.setCell p x).setCell q y):=(h.setCell hp _).setCell hq _
theorem qh {w:World} {a:Obj}:Below w.heap.size w (w.alloc a):=zdb (Below.refl _ _)
theorem qc {w w1 w2:World} (h:Below w.heap.size w w1) (g:Below w1.heap.size w1 w2):Below w.heap.size w w2:=h.trans (g.mono h.size)
def zed (n:Int):Bool:=decide (-1048576≤n)&&decide (n≤1048576)
def okB (a b:Int):Bool:=zed a&&zed b
theorem zr0 {n:Int}:zed n=true↔-1048576≤n∧n≤1048576:=by simp [zed]
theorem zhu {a b:Int}:okB a b=true↔(-1048576≤a∧a≤1048576)∧-1048576≤b∧b≤1048576:=by simp [okB,zed]
theorem zfc (n:Int) (v:Bool) (w:World) (h:zed n=v):Calls Tryz.prog 252 #[.int .i64 n] w fun e w'=>e=.returned (.bool v)∧w=w':=by
 subst h;by_cases h1:-1048576≤n
 ·by_cases h2:n≤1048576
  ·have e:zed n=true:=zr0.2 ⟨h1,h2⟩;rw [e];go_enter Tryz.func252,Tryz.ntmps252;clear e;go_wp2_with fail;go_ret;exact ⟨rfl,rfl⟩
  ·have e:zed n=false:=by simp [zed];omega
   rw [e];clear e;have h3:decide (n≤1048576)=false:=by simpa using h2
   go_enter Tryz.func252,Tryz.ntmps252;go_wp2_with fail;go_ret;exact ⟨rfl,rfl⟩
 ·have e:zed n=false:=by simp [zed];omega
  rw [e];clear e;have h3:decide (-1048576≤n)=false:=by simpa using h1
  go_enter Tryz.func252,Tryz.ntmps252;go_wp2_with fail;go_ret;exact ⟨rfl,rfl⟩
theorem qa0 (a b:Int) (v:Bool) (w:World) (h:okB a b=v):Calls Tryz.prog 234 #[.agg #[.int .i64 a,.int .i64 b]] w fun e w'=>e=.returned (.bool v)∧Below w.heap.size w w':=by
 unfold okB at h;cases ha:zed a with
 | true =>
  rw [ha,Bool.true_and] at h;have HA:=zhy ha;have HB:=zhy h;clear ha h;go_enter Tryz.func234,Tryz.ntmps234;go_wp2_with fail;refine (zfc _ _ _ HA.o).mono ?_;rintro e w' ⟨rfl,rfl⟩;go_wp2_with fail;refine (zfc _ _ _ HB.o).mono ?_;rintro e w' ⟨rfl,rfl⟩;go_wp2_with fail;go_ret;exact ⟨rfl,(Below.refl _ _).alloc (Nat.le_refl _) _⟩
 | false =>
  rw [ha,Bool.false_and] at h;subst h;have HA:=zhy ha;clear ha;go_enter Tryz.func234,Tryz.ntmps234;go_wp2_with fail;refine (zfc _ _ _ HA.o).mono ?_;rintro e w' ⟨rfl,rfl⟩;go_wp2_with fail;go_ret;exact ⟨rfl,(Below.refl _ _).alloc (Nat.le_refl _) _⟩
theorem qae {w:World} {a b:Obj}:Below w.heap.size w ((w.alloc a).alloc b):=qco (Below.refl _ _)
theorem qa4 (a b:Int) (w:World) (h:okB a b=true):Calls Tryz.prog 242 #[.int .i64 a,.int .i64 b] w fun e w'=>e=.returned (.bool true)∧w=w':=by
 obtain ⟨⟨h1,h2⟩,h3,h4⟩:=zhu.1 h;clear h;go_enter Tryz.func242,Tryz.ntmps242;go_wp2_with fail;go_ret;exact ⟨rfl,rfl⟩
theorem qan (a b:Int) (w:World) (h:okB a b=false):Calls Tryz.prog 242 #[.int .i64 a,.int .i64 b] w fun e w'=>e=.returned (.bool false)∧w=w':=by
 have hn:¬((-1048576≤a∧a≤1048576)∧-1048576≤b∧b≤1048576):=fun hh=>by rw [zhu.2 hh] at h;cases h
 clear h;by_cases h1:-1048576≤a
 ·by_cases h2:a≤1048576
  ·by_cases h3:-1048576≤b
   ·have h4:decide (b≤1048576)=false:=by simp;omega
    clear hn;go_enter Tryz.func242,Tryz.ntmps242;go_wp2_with fail;go_ret;exact ⟨rfl,rfl⟩
   ·have h4:decide (-1048576≤b)=false:=by simp;omega
    clear hn;go_enter Tryz.func242,Tryz.ntmps242;go_wp2_with fail;go_ret;exact ⟨rfl,rfl⟩
  ·have h4:decide (a≤1048576)=false:=by simp;omega
   clear hn;go_enter Tryz.func242,Tryz.ntmps242;go_wp2_with fail;go_ret;exact ⟨rfl,rfl⟩
 ·have h4:decide (-1048576≤a)=false:=by simp;omega
  clear hn;go_enter Tryz.func242,Tryz.ntmps242;go_wp2_with fail;go_ret;exact ⟨rfl,rfl⟩
theorem qce (a b:Int) (v:Bool) (w:World) (h:okB a b=v):Calls Tryz.prog 242 #[.int .i64 a,.int .i64 b] w fun e w'=>e=.returned (.bool v)∧w=w':=by
 cases v with
 | true=>exact qa4 a b w h
 | false=>exact qan a b w h
end
end Go.Proofs.YtnjgkkoiamiaaaaGreatDoor
