import Derived.Test.YtnjgkkoiamiaaaaGreatDoorRows
import Derived.ProofKit
import Derived.LaidMore
import Derived.OpenShut
import Derived.Stop.Joined
import Derived.Lib.SmallJoins
import Derived.WalkKit
import Derived.Lib.Hide
import Derived.Handy
import Derived.Laws.AppendOwnNone
import Derived.Maps.AppendAt
import Derived.Test.YtnjgkkoiamiaaaaGreatDoorChecked
import Derived.Deep.QuietTactic
import Derived.BigQuiet
import Derived.Deep.DeepCutAuto
import Derived.Deep.RegionHeld3
import Derived.WalkSpells
import Derived.Laws.ComplexArith
import Derived.Below
import Derived.WalkLawsBesides
import Derived.Deep.RegionWith
import Derived.OrdersHeld
import Derived.Lib.Hide
set_option maxRecDepth 100000
set_option maxHeartbeats 16000000
set_option linter.unusedSimpArgs false
set_option linter.unusedVariables false
namespace Go.Proofs.YtnjgkkoiamiaaaaGreatDoor
open Go.RowKit
theorem zhy {p:Prop} (h:p):Hid p:=h
universe u
theorem zg1 {α:Type u} {xs:List α} {i:Nat} (h:i<xs.toArray.size):xs.toArray[i]=xs[i]'(by simpa using h):=List.getElem_toArray h
theorem zg2 {α:Type u} (a:α) (ys:List α) (h:0<(a::ys).length):(a::ys)[0]=a:=rfl
theorem zg3 {α:Type u} (a:α) (ys:List α) (i:Nat) (h:i+1<(a::ys).length):(a::ys)[i+1]=ys[i]'(by simpa using h):=rfl
theorem zg4 {α:Type u} (l:List α) (i:Nat) (a:α):l.toArray.setIfInBounds i a=(l.set i a).toArray:=List.setIfInBounds_toArray l i a
theorem zg5 {α:Type u} {x:α} {xs:List α} {a:α}:(x::xs).set 0 a=a::xs:=rfl
theorem zg6 {α:Type u} {x:α} {xs:List α} {i:Nat} {a:α}:(x::xs).set (i+1) a=x::xs.set i a:=rfl
theorem zg7 {α:Type u} {l:List α} {i:Nat} (h:i<l.length):l[i]?=some l[i]:=List.getElem?_eq_getElem h
theorem zg8 {α:Type u} {i:Nat} {a:α} {l:List α}:l[i]?=some a↔∃h:i<l.length,l[i]=a:=List.getElem?_eq_some_iff
theorem zg9 {α:Type u} {i:Nat} {b:α} {xs:Array α}:xs[i]?=some b↔∃h:i<xs.size,xs[i]=b:=Array.getElem?_eq_some_iff
theorem ztk {P:Program} {ops:Array Oper} {Q:Exit→Act→World→Prop} {md:Region.Mode} {S:World→Prop} {i:Nat} {oi:Oper} {v:Value} {fuel:Nat} {listed:Array Bool} {a:Act} {w:World} (h1:ops[i]?=some oi) (h2:(Region.noSelect ops&&(Region.free md ops listed i&&(Region.ready md ops listed).contains i))=true)
  (hQ:∀(c:List PanicEntry) (a:Act) (w:World),Q (Exit.panic c) (a.put oi.dst v) w→Q (Exit.panic c) a w) (hy:YieldsIf P ops S oi v a) (hS:S w) (h:wpAnyH P md ops Q S fuel (listed.setIfInBounds i true) (a.put oi.dst v) w):wpAnyH P md ops Q S (fuel+1) listed a w:=by
 rw [Bool.and_eq_true,Bool.and_eq_true] at h2
 exact wpAnyH_take h1 h2.1 h2.2.1 h2.2.2 hQ hy hS h
theorem zq {P:Program} {ops:Array Oper} {Q:Exit→Act→World→Prop} {md:Region.Mode} {S:World→Prop} {oi:Oper} {v:Value} {fuel:Nat} {listed:Array Bool} {a a':Act} {w:World} (i:Nat) (h1:ops[i]?=some oi:=by rfl) (h2:(Region.noSelect ops&&(Region.free md ops listed i&&(Region.ready md ops listed).contains i))=true:=by kernel_rfl)
  (hQ:∀(c:List PanicEntry) (a:Act) (w:World),Q (Exit.panic c) (a.put oi.dst v) w→Q (Exit.panic c) a w:=by exact fun _ _ _ h=>h) (hg:Region.wanted oi (yielded ops a.tmps)=true:=by rfl) (hy:∀w,S w→(execOp a.eval oi).run P w=.ok (.value v) w:=by intro w _;go_simp;try with_reducible rfl) (hp:a.put oi.dst v=a':=by (try simp only [Act.put,zg1,zg2,zg3,zg4,zg5,zg6]);try with_reducible rfl) (hS:S w:=by assumption) (h:wpAnyH P md ops Q S fuel (listed.setIfInBounds i true) a' w):wpAnyH P md ops Q S (fuel+1) listed a w:=by
 subst hp
 exact ztk (i:=i) h1 h2 hQ (Or.inl ⟨hg,hy⟩) hS h
section
open Go.ChangeShapes Go.WideShapes Go.ChangeAt Go.RowKit
theorem laid_limb {P:Program} {w:World}:∀{laid:List (String×DataW Unit)} {ps:List MemPlace},DataW.LaidVars P w laid ps→∀(k:Nat) (n:String) (d:DataW Unit),laid[k]?=some (n,d) →
  ∃g t cs fuel p,P.globalNamed n=some g∧(P.globals[g]?).map (·.type)=some t∧w.var? P n=some cs∧DataW.trod (fun _=>()) P w 0 (fun _=>true) false fuel t cs.toList=some (d,p)
 | [],_,_,k,n,d,hk=>by simp at hk
 | (n0,d0)::r,ps,h,0,n,d,hk=>by
  obtain ⟨g,t,cs,fuel,p,q,h1,h2,h3,h4,_⟩:=h;simp at hk;obtain ⟨rfl,rfl⟩:=hk;exact ⟨g,t,cs,fuel,p,h1,h2,h3,h4⟩
 | (n0,d0)::r,ps,h,k+1,n,d,hk=>by
  obtain ⟨g,t,cs,fuel,p,q,_,_,_,_,h5,_⟩:=h;exact laid_limb h5 k n d (by simpa using hk)
end
def digs (n:Int):Nat→List Int
 | 0=>[]
 | w+1=>n % 256::digs (n / 256) w
def sh (n:Int):Nat→Int
 | 0=>n
 | k+1=>sh n k / 256
def num:List Int→Int
 | []=>0
 | b::l=>b+256*num l
def Byt (l:List Int):Prop:=∀x∈l,0≤x∧x<256
def p256 (k:Nat):Int:=256 ^ k
theorem p256_succ (k:Nat):p256 (k+1)=256*p256 k:=by unfold p256;rw [Int.pow_succ,Int.mul_comm]
theorem p256_pos (k:Nat):0<p256 k:=by
 induction k with
 | zero=>decide
 | succ k ih=>rw [p256_succ];omega
theorem length_digs (n:Int) (w:Nat):(digs n w).length=w:=by
 induction w generalizing n with
 | zero=>rfl
 | succ w ih=>simp [digs,ih]
theorem byt_digs (n:Int) (w:Nat):Byt (digs n w):=by
 induction w generalizing n with
 | zero=>intro x hx;cases hx
 | succ w ih =>
  intro x hx;simp only [digs,List.mem_cons] at hx;rcases hx with rfl | hx
  ·omega
  ·exact ih _ x hx
theorem sh_div (n:Int) (k:Nat):sh (n / 256) k=sh n (k+1):=by
 induction k with
 | zero=>rfl
 | succ k ih=>simp only [sh] at ih ⊢;rw [ih]
theorem digs_snoc (n:Int) (k:Nat):digs n (k+1)=digs n k++[sh n k % 256]:=by
 induction k generalizing n with
 | zero=>rfl
 | succ k ih =>
  rw [digs,ih (n / 256),sh_div];rfl
theorem num_digs (n:Int) (w:Nat):num (digs n w)=n % p256 w:=by
 induction w generalizing n with
 | zero=>simp [digs,num,p256,Int.emod_one]
 | succ w ih =>
  have hp:=p256_pos w;rw [digs,num,ih,p256_succ];have h1:n % (256*p256 w)=n-256*p256 w*(n / (256*p256 w)):=Int.emod_def _ _;have h2:n / (256*p256 w)=n / 256 / p256 w:=(Int.ediv_ediv_of_nonneg (by omega)).symm;have h3:n / 256 % p256 w=n / 256-p256 w*(n / 256 / p256 w):=Int.emod_def _ _;rw [h1,h2,h3,Int.mul_sub,Int.mul_assoc];generalize p256 w*(n / 256 / p256 w)=t;omega
theorem num_nonneg {l:List Int} (h:Byt l):0≤num l:=by
 induction l with
 | nil=>simp [num]
 | cons b l ih =>
  have hb:=h b (by simp);have:=ih fun x hx=>h x (by simp [hx]);simp only [num];omega
theorem num_lt {l:List Int} (h:Byt l):num l<p256 l.length:=by
 induction l with
 | nil=>decide
 | cons b l ih =>
  have hb:=h b (by simp);have:=ih fun x hx=>h x (by simp [hx]);simp only [num,List.length_cons,p256_succ];omega
theorem digs_num {l:List Int} (h:Byt l):digs (num l) l.length=l:=by
 induction l with
 | nil=>rfl
 | cons b l ih =>
  have hb:=h b (by simp);have:=ih fun x hx=>h x (by simp [hx]);simp only [num,List.length_cons,digs];have e1:(b+256*num l) % 256=b:=by omega
  have e2:(b+256*num l) / 256=num l:=by omega
  rw [e1,e2,this]
theorem digs_mod (n:Int) (w:Nat):digs (n % p256 w) w=digs n w:=by
 have h:=digs_num (byt_digs n w);rw [num_digs,length_digs] at h;exact h
theorem p256_8:p256 8=18446744073709551616:=by decide
theorem p256_le {a b:Nat} (h:a≤b):p256 a≤p256 b:=by
 induction h with
 | refl=>exact Int.le_refl _
 | step _ ih=>rw [p256_succ];have:=p256_pos a;omega
theorem digs_congr {m n:Int} {w:Nat} (h:m % p256 w=n % p256 w):digs m w=digs n w:=by
 rw [←digs_mod m,←digs_mod n,h]
theorem byt_drop {l:List Int} (h:Byt l) (k:Nat):Byt (l.drop k):=fun x hx=>h x (List.mem_of_mem_drop hx)
theorem byt_take {l:List Int} (h:Byt l) (k:Nat):Byt (l.take k):=fun x hx=>h x (List.mem_of_mem_take hx)
theorem byt_append {l m:List Int} (h:Byt l) (k:Byt m):Byt (l++m):=by
 intro x hx;rcases List.mem_append.1 hx with hx | hx
 ·exact h x hx
 ·exact k x hx
theorem drop_pre {l:List Int} {k:Nat} (h1:1≤k) (h:k≤l.length):l.drop (k-1)=l[k-1]?.getD 0::l.drop k:=by
 obtain ⟨j,rfl⟩:∃j,k=j+1:=⟨k-1,by omega⟩;rw [Nat.add_sub_cancel,List.drop_eq_getElem_cons (by omega),zg7 (by omega)];rfl
theorem num_pre {l:List Int} {k:Nat} (h1:1≤k) (h:k≤l.length):num (l.drop (k-1))=l[k-1]?.getD 0+256*num (l.drop k):=by
 rw [drop_pre h1 h,num]
theorem p256_7:p256 7=72057594037927936:=by decide
def Rd (w:World) (A:Option Addr) (c:Nat) (l:List Int):Prop:=
 Byt l∧l.length≤c∧c≤maxLen∧((A=none∧c=0)∨∃ad:Addr,A=some ad∧∀i x,l[i]?=some x→w.cell? (ad.add i)=some (.int .u8 x))
def cel (l:List Int):List Value:=l.map (Value.int .u8)
theorem length_cel (l:List Int):(cel l).length=l.length:=by simp [cel]
theorem cel_append (l m:List Int):cel (l++m)=cel l++cel m:=by simp [cel]
theorem cel_one (l:List Int):∀u∈cel l,u.oneCell'=true:=ints_oneCell _ _
section
variable {w w' : World} {A : Option Addr} {c : Nat} {l : List Int}
theorem Rd.byt (h:Rd w A c l):Byt l:=h.1
theorem Rd.le (h:Rd w A c l):l.length≤c:=h.2.1
theorem Rd.cap (h:Rd w A c l):c≤9223372036854775807:=h.2.2.1
theorem Rd.len (h:Rd w A c l):l.length≤9223372036854775807:=Nat.le_trans h.le h.cap
theorem Rd.at_ (h:Rd w A c l) {i:Nat} (hi:i<l.length):∃ad:Addr,A=some ad∧w.cell? (ad.add i)=some (.int .u8 (l[i]?.getD 0)):=by
 rcases h.2.2.2 with ⟨_,hc⟩ | ⟨ad,ha,hc⟩
 ·have:=h.le;omega
 ·exact ⟨ad,ha,hc i _ (by rw [zg7 hi];rfl)⟩
theorem Rd.byte (h:Rd w A c l) (i:Nat):0≤l[i]?.getD 0∧l[i]?.getD 0<256:=by
 by_cases hi:i<l.length
 ·rw [zg7 hi];exact h.1 _ (List.getElem_mem hi)
 ·rw [List.getElem?_eq_none (by omega)];exact ⟨by decide,by decide⟩
theorem Rd.none_ (w:World):Rd w none 0 []:=⟨fun x hx=>(by cases hx),Nat.le_refl _,Nat.zero_le _,.inl ⟨rfl,rfl⟩⟩
theorem cell_lt {p:Addr} {v:Value} (h:w.cell? p=some v):p.block<w.heap.size:=by
 rcases Nat.lt_or_ge p.block w.heap.size with hlt | hge
 ·exact hlt
 ·simp [World.cell?,Array.getElem?_eq_none hge] at h
theorem Rd.keep (h:Rd w A c l) (hb:Below w.heap.size w w'):Rd w' A c l:=by
 refine ⟨h.1,h.2.1,h.2.2.1,?_⟩;rcases h.2.2.2 with hn | ⟨ad,ha,hc⟩
 ·exact .inl hn
 ·exact .inr ⟨ad,ha,fun i x hx=>(hb.cell (cell_lt (hc i x hx))).trans (hc i x hx)⟩
theorem Rd.grown (h:Rd w A c l) {row:Option Nat} (hg:w.grownBy w' row) (hr:∀ad,A=some ad→0<l.length→some ad.block≠row):Rd w' A c l:=by
 refine ⟨h.1,h.2.1,h.2.2.1,?_⟩;rcases h.2.2.2 with hn | ⟨ad,ha,hc⟩
 ·exact .inl hn
 ·refine .inr ⟨ad,ha,fun i x hx=>hg.cell (hc i x hx) ?_⟩;have hb:(ad.add i).block=ad.block:=by unfold Addr.add;split<;>rfl
  rw [hb];exact hr ad ha (by have:=(zg8.1 hx).1;omega)
theorem Rd.drew (h:Rd w A c l):Rd w.drew A c l:=h
theorem Rd.alloc (h:Rd w A c l) (o:Obj):Rd (w.alloc o) A c l:=h.keep ((Below.refl _ _).alloc (Nat.le_refl _) _)
theorem add_add (a:Addr) (i j:Nat):(a.add i).add j=a.add (i+j):=by
 unfold Addr.add;by_cases hi:i=0<;>by_cases hj:j=0<;>simp [hi,hj,Nat.add_assoc]
theorem Rd.sub (h:Rd w A c l) (lo hi:Nat) (h1:lo≤hi) (h2:hi≤l.length):Rd w (if c=lo then A else A.map (·.add lo)) (c-lo) ((l.drop lo).take (hi-lo)):=by
 have hc:=h.le;refine ⟨byt_take (byt_drop h.1 _) _,by simp;omega,Nat.le_trans (Nat.sub_le _ _) h.2.2.1,?_⟩;rcases h.2.2.2 with ⟨rfl,rfl⟩ | ⟨ad,rfl,hx⟩
 ·exact .inl ⟨by simp,by simp⟩
 ·by_cases e:c=lo
  ·rw [if_pos e];refine .inr ⟨ad,rfl,fun i x hi'=>?_⟩;have:=(zg8.1 hi').1;simp at this;omega
  ·rw [if_neg e];refine .inr ⟨ad.add lo,rfl,fun i x hi'=>?_⟩;rw [add_add];rw [List.getElem?_take] at hi';split at hi'
   ·exact hx _ x (by rw [←hi',List.getElem?_drop])
   ·cases hi'
theorem Rd.of_own {base e:Nat} {n:Nat} (h:w.ownsRow base e 1 (.slice A n c) n (cel l)) (hb:Byt l):Rd w A c l∧n=l.length:=by
 have hn:n=l.length:=by have:=h.1;rw [length_cel] at this;omega
 refine ⟨⟨hb,?_⟩,hn⟩;have hcell:=fun g=>h.cells (g:=g);rcases h.2 with ⟨hv,h0⟩ | ⟨g,cap,cur,hv,_,_,hcap,hm,_⟩
 ·injection hv with e1 e2 e3;exact ⟨by omega,by omega,.inl ⟨e1,e3⟩⟩
 ·injection hv with e1 e2 e3;subst e1 e3;refine ⟨by omega,hm,.inr ⟨_,rfl,fun i x hx=>hcell g rfl i _ (by simp [cel,hx])⟩⟩
end
theorem own_form {w:World} {base e size n:Nat} {v:Value} {xs:List Value} (h:w.ownsRow base e size v n xs):∃A c,v=.slice A n c:=by
 rcases h.2 with ⟨hv,h0⟩ | ⟨g,cap,cur,hv,_⟩
 ·exact ⟨none,0,by rw [hv,h0]⟩
 ·exact ⟨_,_,hv⟩
theorem own_base {w:World} {base base' e size n:Nat} {v:Value} {xs:List Value} (h:w.ownsRow base e size v n xs) (hb:base'≤base):w.ownsRow base' e size v n xs:=by
 refine ⟨h.1,?_⟩;rcases h.2 with hv | ⟨g,cap,cur,hv,hg,r⟩
 ·exact .inl hv
 ·exact .inr ⟨g,cap,cur,hv,by omega,r⟩
theorem own_below {w w':World} {B base e size n:Nat} {v:Value} {xs:List Value} (h:w.ownsRow base e size v n xs) (hb:Below w.heap.size w w') (hB:B≤base):w'.ownsRow B e size v n xs:=by
 refine ⟨h.1,?_⟩;rcases h.2 with hv | ⟨g,cap,cur,hv,hg,hh,r⟩
 ·exact .inl hv
 ·exact .inr ⟨g,cap,cur,hv,by omega,(hb.block g (zg9.1 hh).1).trans hh,r⟩
theorem wpList_append_rd {P:Program} (w:World) {ops:Array Oper} {rest:List Oper} {o:Oper} {a:Act} {Q:Exit→Act→World→Prop} (hgd:o.guard=none) (s x:Operand) (t:TypeId)
  (ho:o.op=.call { callee:=.builtin .append,args:=#[s,x],argTypes:=#[t,t]})
  (base:Nat) (e:TypeId) (i:TypeInfo) (ht:P.underlying t=some (.slice e)) (hi:P.info? e=some i) (hz:i.zero=some (.int .u8 0)) (hsize:i.size=1) (hby:i.bytes=1)
  (v:Value) (n:Nat) (k:List Int) (hs:a.eval s=v) (hown:w.ownsRow base e 1 v n (cel k))
  (A:Option Addr) (m c:Nat) (l:List Int) (hx:a.eval x=.slice A m c) (hr:Rd w A c l) (hm:m=l.length) (hbytes:n+m≤140737488355328) (hbase:base≤w.heap.size)
  (h:∀A' c' w',w'.ownsRow base e 1 (.slice A' (n+m) c') (n+m) (cel (k++l))→w.grownBy w' v.ownBlock→Below base w w' →
   ((Value.slice A' (n+m) c').ownBlock=v.ownBlock∨(Value.slice A' (n+m) c').ownBlock=some w.heap.size)→wpList P ops Q rest (a.put o.dst (.slice A' (n+m) c')) w'):wpList P ops Q (o::rest) a w:=by
 have hbel:∀{w'},w.grownBy w' v.ownBlock→Below base w w':=fun hg=>(Below.refl _ _).grown hg hbase fun g hg'=>(hown.lt g hg').1
 rcases hr.2.2.2 with ⟨rfl,rfl⟩ | ⟨ad,rfl,hcell⟩
 ·have h0:l=[]:=List.eq_nil_of_length_eq_zero (by have:=hr.le;omega)
  subst h0
  obtain rfl:m=0:=hm
  refine wpList_append_own_none hgd s x t ho base e i 1 ht hi v n (cel k) hs hown hx ?_
  obtain ⟨A',c',rfl⟩:=own_form hown
  have:=h A' c' w (by simpa using hown) (World.grownBy.refl w _) (hbel (World.grownBy.refl w _)) (.inl rfl)
  simpa using this
 ·refine wpList_append_own_at w hgd s x t ho base e i (.int .u8 0) 1 1 ht hi hz hsize hby rfl (by decide) v n (cel k) hs hown ad m c (cel l) hx (by rw [length_cel];omega)
   (fun j u hj=>by
    simp only [cel,List.getElem?_map,Option.map_eq_some_iff] at hj;obtain ⟨y,hy,rfl⟩:=hj;exact hcell j y hy) (cel_one l) (by unfold maxLen;omega) (by omega) hbase ?_
  intro v' w' hown' hg _ hb
  obtain ⟨A',c',rfl⟩:=own_form hown'
  exact h A' c' w' (by rw [cel_append];exact hown') hg (hbel hg) hb
theorem step_append_rd {P:Program} {w:World} {ops:Array Oper} {o:Oper} {a:Act} {K:Act→World→Prop} {Q:Exit→Act→World→Prop} {E:Prop} (hgd:o.guard=none) (s x:Operand) (t:TypeId)
  (ho:o.op=.call { callee:=.builtin .append,args:=#[s,x],argTypes:=#[t,t]})
  (base:Nat) (e:TypeId) (i:TypeInfo) (ht:P.underlying t=some (.slice e)) (hi:P.info? e=some i) (hz:i.zero=some (.int .u8 0)) (hsize:i.size=1) (hby:i.bytes=1)
  (v:Value) (n:Nat) (k:List Int) (hs:a.eval s=v) (hown:w.ownsRow base e 1 v n (cel k))
  (A:Option Addr) (m c:Nat) (l:List Int) (hx:a.eval x=.slice A m c) (hr:Rd w A c l) (hm:m=l.length) (hbytes:n+m≤140737488355328) (hbase:base≤w.heap.size)
  (h:∀A' c' w',w'.ownsRow base e 1 (.slice A' (n+m) c') (n+m) (cel (k++l))→Below base w w'→K (a.put o.dst (.slice A' (n+m) c')) w') :
  if Region.wanted o (yielded ops a.tmps)=true then Oper.wp P o a w K Q else E:=by
 have hw:Region.wanted o (yielded ops a.tmps)=true:=by simp [Region.wanted,hgd]
 rw [if_pos hw]
 have hbel:∀{w'},w.grownBy w' v.ownBlock→Below base w w':=fun hg=>(Below.refl _ _).grown hg hbase fun g hg'=>(hown.lt g hg').1
 rcases hr.2.2.2 with ⟨rfl,rfl⟩ | ⟨ad,rfl,hcell⟩
 ·have h0:l=[]:=List.eq_nil_of_length_eq_zero (by have:=hr.le;omega)
  subst h0
  obtain rfl:m=0:=hm
  have hrun:=run_append_owned_none (P:=P) (w:=w) base t o.type e i 1 ht hi v n (cel k) hown
  obtain ⟨A',c',rfl⟩:=own_form hown
  unfold Oper.wp
  simp [execOp,ho,resolve,invoke,builtin,hs,hx,hrun,Result.andThen]
  have:=h A' c' w (by simpa using hown) (hbel (World.grownBy.refl w _))
  simp only [Nat.add_zero] at this
  exact this
 ·obtain ⟨v',w',hr,h2,h3,h4,h5⟩:=run_append_own_at (P:=P) w base t o.type e i (.int .u8 0) 1 1 ht hi hz hsize hby rfl (by decide) v n (cel k) hown ad m c (cel l) (by rw [length_cel];omega)
   (fun j u hj=>by
    simp only [cel,List.getElem?_map,Option.map_eq_some_iff] at hj;obtain ⟨y,hy,rfl⟩:=hj;exact hcell j y hy) (cel_one l) (by unfold maxLen;omega) (by omega) hbase
  obtain ⟨A',c',rfl⟩:=own_form h2
  unfold Oper.wp execOp
  simp only [ho,resolve,invoke,builtin,Sem.run_bind,Sem.run_pure,Result.andThen_ok,List.map_toArray,List.map_cons,List.map_nil,hs,hx,hr]
  exact h A' c' w' (by rw [cel_append];exact h2) (hbel h3)
theorem Tryz.info5:(Tryz.prog.info? 5).map (fun i=>(i.zero,i.size,i.bytes))=some (some (.int .u8 0),1,1):=by kernel_rfl
theorem rd_lit (w:World) (l:List Int) (hb:Byt l) (hl:l.length≤maxLen):Rd (w.alloc (.cells (cel l).toArray 5)) (some ⟨w.heap.size,0,none⟩) l.length l:=by
 have h:=World.ownsRow_lit (base:=w.heap.size) (e:=5) (size:=1) w (cel l).toArray l.length (Nat.le_refl _) hl (by simp [length_cel]);exact (Rd.of_own (by simpa using h) hb).1
theorem byt_of {l:List Int} (h:(l.all fun x=>decide (0≤x)&&decide (x<256))=true):Byt l:=by
 intro x hx;have:=List.all_eq_true.1 h x hx;simpa using this
theorem own_rd {w:World} {A:Option Addr} {base n c e:Nat} {l:List Int} (h:w.ownsRow base e 1 (.slice A n c) n (cel l)) (hb:Byt l):Rd w A c l:=(Rd.of_own h hb).1
theorem below_draws {B:Nat} {a w:World} (h:Below B a w) (q:Nat):Below B a (w.drewN q):=⟨h.os,h.tape,h.output,h.size,h.block⟩
theorem Rd.pre {w:World} {A:Option Addr} {c:Nat} {l:List Int} (h:Rd w A c l) (n:Nat):Rd w A c (l.take n):=by
 refine ⟨byt_take h.1 _,by have:=h.2.1;simp;omega,h.2.2.1,?_⟩;rcases h.2.2.2 with hn | ⟨ad,ha,hc⟩
 ·exact .inl hn
 ·refine .inr ⟨ad,ha,fun i x hx=>?_⟩;rw [List.getElem?_take] at hx;split at hx
  ·exact hc i x hx
  ·cases hx
theorem own_some {w:World} {base e n c:Nat} {A:Option Addr} {xs:List Value} (h:w.ownsRow base e 1 (.slice A n c) n xs) (hn:0<n):∃g,A=some ⟨g,0,none⟩∧base≤g:=by
 rcases h.2 with ⟨_,h0⟩ | ⟨g,cap,cur,hv,hg,_⟩
 ·omega
 ·injection hv with e1 e2 e3;exact ⟨g,e1,hg⟩
theorem add_succ (ad:Addr) (m:Nat):ad.add (m+1)=⟨ad.block,ad.off+(m+1),none⟩:=by unfold Addr.add;rw [if_neg (by omega)]
theorem rd_one (w:World) (x:Int) (h:0≤x∧x<256):Rd (w.alloc (.cells #[.int .u8 x] 5)) (some ⟨w.heap.size,0,none⟩) 1 [x]:=
 rd_lit w [x] (fun y hy=>by simp at hy;subst hy;exact h) (by unfold maxLen;simp)
theorem wpAnyH_swap {P:Program} {md:Region.Mode} {ops:Array Oper} {Q:Exit→Act→World→Prop} {S S':World→Prop} (h:∀w,S' w→S w) :
  ∀(fuel:Nat) (listed:Array Bool) (a:Act) (w:World),wpAnyH P md ops Q S' fuel listed a w→wpAnyH P md ops Q S fuel listed a w
 | 0,_,_,_,hh=>hh
 | fuel+1,_,_,_,hh=>⟨hh.1,fun i hi=>wpOp_mono (fun _ _ h2=>⟨h _ h2.1,wpAnyH_swap h fuel _ _ _ h2.2⟩) (hh.2 i hi)⟩
theorem split_rel (n:Int) (k W:Nat) (h:k<W):(((digs n k++List.replicate (W-k) 0).map (Value.int .u8)).set k (.int .u8 (sh n k % 256)))=(digs n (k+1)++List.replicate (W-(k+1)) 0).map (Value.int .u8):=by
 obtain ⟨m,rfl⟩:∃m,W=k+1+m:=⟨W-(k+1),by omega⟩;rw [digs_snoc];have e1:k+1+m-k=m+1:=by omega
 have e2:k+1+m-(k+1)=m:=by omega
 rw [e1,e2,List.replicate_succ];simp only [List.map_append,List.map_cons,List.append_assoc,List.singleton_append];rw [List.set_append_right _ _ (by simp [length_digs])];simp [length_digs]
theorem split_int (n:Int) (W:Nat) (w:World) (hW:W≤8) :
  Calls Tryz.prog 109 #[.int .i64 n,.int .i64 W] w fun e w'=>e=.returned (.slice (some ⟨w.heap.size,0,none⟩) W W) ∧
   w'.ownsRow w.heap.size 5 1 (.slice (some ⟨w.heap.size,0,none⟩) W W) W ((digs n W).map (Value.int .u8))∧Below w.heap.size w w':=by
 obtain ⟨i0,hi,hz0,hz1,hz2⟩:=info_parts Tryz.info5
 go_enter Tryz.func109,Tryz.ntmps109
 go_wp2_with (at_make;refine wpList_make_full _ rfl _ _ 40 rfl w.heap.size 5 i0 (.int .u8 0) 1 Tryz.underlying40 hi hz0 hz1 _ _ _ _ W rfl rfl rfl rfl ?b2 ?b3 (Nat.le_refl _) ?_)
 case b2=>rw [hz2];omega
 case b3=>unfold maxLen;omega
 intro w0 hown0 hgrow0
 go_wp2
 have hrep:(madeCells #[Value.int .u8 0] W).toList=(List.replicate W 0).map (Value.int .u8):=by
  simp [toList_madeCells_one]
 rw [hrep] at hown0
 clear hrep
 go_loopw [0,11] (fun x i wr=>∃k:Nat,k≤W∧i=.int .i64 k∧x=.int .i64 (sh n k) ∧
   wr.ownsRow w.heap.size 5 1 (.slice (some ⟨w.heap.size,0,none⟩) W W) W ((digs n k++List.replicate (W-k) 0).map (Value.int .u8))∧Below w.heap.size w wr)
  (fun _ i _=>W-(intOf i).toNat)
 case atStart=>exact ⟨0,Nat.zero_le _,rfl,rfl,by simpa [digs] using hown0,(Below.refl _ _).grown hgrow0 (Nat.le_refl _) (fun k h=>by cases h)⟩
 case round =>
  obtain ⟨k,hk,rfl,rfl,hown,hnx⟩:=hrel
  by_cases hlt:k<W
  ·have hfz:=hown.frozenAt k
   have hcell:=hown.cellAt k (by omega)
   obtain ⟨z,hz⟩:∃z,((digs n k++List.replicate (W-k) 0).map (Value.int .u8))[k]?=some z:=⟨_,zg7 (by simp [length_digs];omega)⟩
   rw [hz] at hcell
   have hst:=hown.stored k (.int .u8 (sh n k % 256))
   rw [split_rel n k W hlt] at hst
   clear hz
   have HST:=zhy hst
   clear hst hown
   go_wp2
   go_roundw
   case rel=>exact ⟨k+1,by omega,by go_num,by simp [sh],HST.out.1,hnx.setCell (Nat.le_refl _) _⟩
   case measure=>simp [intOf];omega
  ·obtain rfl:k=W:=by omega
   go_wp2
   go_ret
   exact ⟨rfl,by simpa using hown,hnx⟩
theorem split_int64 (n:Int) (W:Nat) (w:World) (hW:W≤8) :
  Calls Tryz.prog 235 #[.int .i64 n,.int .i64 W] w fun e w'=>e=.returned (.slice (some ⟨w.heap.size,0,none⟩) W W) ∧
   w'.ownsRow w.heap.size 5 1 (.slice (some ⟨w.heap.size,0,none⟩) W W) W ((digs n W).map (Value.int .u8))∧Below w.heap.size w w':=by
 obtain ⟨i0,hi,hz0,hz1,hz2⟩:=info_parts Tryz.info5
 go_enter Tryz.func235,Tryz.ntmps235
 go_wp2_with (at_make;refine wpList_make_full _ rfl _ _ 40 rfl w.heap.size 5 i0 (.int .u8 0) 1 Tryz.underlying40 hi hz0 hz1 _ _ _ _ W rfl rfl rfl rfl ?b2 ?b3 (Nat.le_refl _) ?_)
 case b2=>rw [hz2];omega
 case b3=>unfold maxLen;omega
 intro w0 hown0 hgrow0
 go_wp2
 have hrep:(madeCells #[Value.int .u8 0] W).toList=(List.replicate W 0).map (Value.int .u8):=by
  simp [toList_madeCells_one]
 rw [hrep] at hown0
 clear hrep
 go_loopw [0,11] (fun x i wr=>∃k:Nat,k≤W∧i=.int .i64 k∧x=.int .i64 (sh n k) ∧
   wr.ownsRow w.heap.size 5 1 (.slice (some ⟨w.heap.size,0,none⟩) W W) W ((digs n k++List.replicate (W-k) 0).map (Value.int .u8))∧Below w.heap.size w wr)
  (fun _ i _=>W-(intOf i).toNat)
 case atStart=>exact ⟨0,Nat.zero_le _,rfl,rfl,by simpa [digs] using hown0,(Below.refl _ _).grown hgrow0 (Nat.le_refl _) (fun k h=>by cases h)⟩
 case round =>
  obtain ⟨k,hk,rfl,rfl,hown,hnx⟩:=hrel
  by_cases hlt:k<W
  ·have hfz:=hown.frozenAt k
   have hcell:=hown.cellAt k (by omega)
   obtain ⟨z,hz⟩:∃z,((digs n k++List.replicate (W-k) 0).map (Value.int .u8))[k]?=some z:=⟨_,zg7 (by simp [length_digs];omega)⟩
   rw [hz] at hcell
   have hst:=hown.stored k (.int .u8 (sh n k % 256))
   rw [split_rel n k W hlt] at hst
   clear hz
   have HST:=zhy hst
   clear hst hown
   go_wp2
   go_roundw
   case rel=>exact ⟨k+1,by omega,by go_num,by simp [sh],HST.out.1,hnx.setCell (Nat.le_refl _) _⟩
   case measure=>simp [intOf];omega
  ·obtain rfl:k=W:=by omega
   go_wp2
   go_ret
   exact ⟨rfl,by simpa using hown,hnx⟩
def putE (W n:Int):Int:=if W<1∨8<W then 2 else if n<0∨p256 W.toNat≤n then 11 else 0
def putL (W n:Int):List Int:=if putE W n=0 then digs n W.toNat else []
theorem measured_yes (W:Int) (w:World) (h1:1≤W) (h2:W≤8):Calls Tryz.prog 108 #[.int .i64 W] w fun e w'=>e=.returned (.bool true)∧w=w':=by
 go_enter Tryz.func108,Tryz.ntmps108;go_wp2;go_ret;exact ⟨rfl,rfl⟩
theorem measured_no (W:Int) (w:World) (h:W<1∨8<W):Calls Tryz.prog 108 #[.int .i64 W] w fun e w'=>e=.returned (.bool false)∧w=w':=by
 by_cases h1:1≤W
 ·have h2:¬W≤8:=by omega
  clear h;go_enter Tryz.func108,Tryz.ntmps108;go_wp2;go_ret;exact ⟨rfl,rfl⟩
 ·clear h;go_enter Tryz.func108,Tryz.ntmps108;go_wp2;go_ret;exact ⟨rfl,rfl⟩
theorem shift_all (n:Int) (W:Nat):n / 2 ^ (8*W)=n / p256 W:=by
 rw [Int.pow_mul];rfl
theorem shift_no {n:Int} {W:Nat} (h0:0≤n) (h:n / 2 ^ (8*W)≤0):n<p256 W:=by
 rw [shift_all] at h;have hp:=p256_pos W;have h1:0≤n / p256 W:=Int.ediv_nonneg h0 (Int.le_of_lt hp);have h2:n / p256 W=0:=by omega
 have h3:=Int.emod_lt_of_pos n hp;have h4:=Int.emod_add_mul_ediv n (p256 W);rw [h2] at h4;omega
theorem shift_yes {n:Int} {W:Nat} (h:n<0∨0<n / 2 ^ (8*W)):n<0∨p256 W≤n:=by
 rcases h with h | h
 ·exact .inl h
 ·refine .inr ?_;rw [shift_all] at h;rcases Int.lt_or_le n (p256 W) with h1 | h1
  ·rcases Int.lt_or_le n 0 with h0 | h0
   ·have:=Int.ediv_neg_of_neg_of_pos h0 (p256_pos W);omega
   ·rw [Int.ediv_eq_zero_of_lt h0 h1] at h;omega
  ·exact h1
theorem put_yes {n:Int} {k:Nat} (h1:1≤k) (h8:k≤8) (h0:0≤n) (h:n<p256 k):putE k n=0∧putL k n=digs n k:=by
 have e:putE k n=0:=by
  unfold putE;rw [if_neg (by omega),Int.toNat_natCast,if_neg (by omega)]
 exact ⟨e,by rw [putL,if_pos e,Int.toNat_natCast]⟩
theorem put_wide {n:Int} {k:Nat} (h1:1≤k) (h8:k≤8) (h:n<0∨p256 k≤n):putE k n=11∧putL k n=[]:=by
 have e:putE k n=11:=by
  unfold putE;rw [if_neg (by omega),Int.toNat_natCast,if_pos h]
 exact ⟨e,by rw [putL,if_neg (by rw [e];decide)]⟩
theorem put_any (W n:Int) (w:World) :
  Calls Tryz.prog 65 #[.int .i64 W,.int .i64 n] w fun e w'=>∃A c,e=.returned (.tuple #[.slice A (putL W n).length c,.int .i64 (putE W n)]) ∧
   w'.ownsRow w.heap.size 5 1 (.slice A (putL W n).length c) (putL W n).length (cel (putL W n))∧Below w.heap.size w w':=by
 by_cases hW:W<1∨8<W
 ·have e1:putE W n=2:=by simp [putE,hW]
  have e2:putL W n=[]:=by simp [putL,e1]
  rw [e1,e2]
  clear e1 e2
  go_enter Tryz.func65,Tryz.ntmps65
  go_wp2_with (go_at_call 108;refine (measured_no _ _ hW).mono ?_;rintro e w' ⟨rfl,rfl⟩)
  go_ret2
  exact ⟨none,0,rfl,World.ownsRow_nil _ _ _ _,Below.refl _ _⟩
 ·obtain ⟨k,rfl⟩:∃k:Nat,W=k:=⟨W.toNat,by omega⟩
  have h1:1≤k:=by omega
  have h8:k≤8:=by omega
  clear hW
  by_cases hneg:n<0
  ·have e1:putE k n=11:=by unfold putE;rw [if_neg (by omega),if_pos (.inl hneg)]
   have e2:putL k n=[]:=by simp [putL,e1]
   rw [e1,e2]
   clear e1 e2
   go_enter Tryz.func65,Tryz.ntmps65
   go_wp2_with (go_at_call 108;refine (measured_yes _ _ (by omega) (by omega)).mono ?_;rintro e w' ⟨rfl,rfl⟩)
   go_ret2
   exact ⟨none,0,rfl,World.ownsRow_nil _ _ _ _,Below.refl _ _⟩
  ·go_enter Tryz.func65,Tryz.ntmps65
   go_wp2_with (go_at_call 108;refine (measured_yes _ _ (by omega) (by omega)).mono ?_;rintro e w' ⟨rfl,rfl⟩)
   ·have hw:n<0∨0<n / 2 ^ (8*k):=by assumption
    go_ret2
    obtain ⟨e1,e2⟩:=put_wide h1 h8 (shift_yes hw)
    rw [e1,e2]
    exact ⟨none,0,rfl,World.ownsRow_nil _ _ _ _,Below.refl _ _⟩
   ·have hw:0≤n∧n / 2 ^ (8*k)≤0:=by assumption
    refine (split_int n k _ h8).mono ?_
    rintro e w' ⟨rfl,hown,hb⟩
    go_wp2
    go_ret2
    obtain ⟨e1,e2⟩:=put_yes h1 h8 hw.1 (shift_no hw.1 hw.2)
    rw [e1,e2,length_digs]
    exact ⟨_,_,rfl,hown,hb⟩
theorem signed_any (n:Int) (w:World) :
  Calls Tryz.prog 206 #[.int .i64 n] w fun e w'=>e=.returned (.slice (some ⟨w.heap.size,0,none⟩) 8 8) ∧
   w'.ownsRow w.heap.size 5 1 (.slice (some ⟨w.heap.size,0,none⟩) 8 8) 8 (cel (digs n 8))∧Below w.heap.size w w':=by
 have h:=split_int64 n 8 w (Nat.le_refl _)
 go_enter Tryz.func206,Tryz.ntmps206
 go_wp2_with fail
 refine h.mono ?_
 rintro e w' ⟨rfl,hown,hb⟩
 go_wp2
 go_ret
 exact ⟨rfl,hown,hb⟩
theorem byt_putL (W n:Int):Byt (putL W n):=by
 unfold putL;split
 ·exact byt_digs _ _
 ·intro x hx;cases hx
def cutE (l:List Int) (p n:Int):Int:=if p<0∨l.length<p then 2 else if l.length-p<n then 10 else 0
def cutL (l:List Int) (p n:Int):List Int:=if cutE l p n=0 then (l.drop p.toNat).take n.toNat else []
def cutN (l:List Int) (p n:Int):Int:=if cutE l p n=0 then p+n else 0
theorem cut_arg {l:List Int} {p n:Int} (h:p<0∨l.length<p):cutE l p n=2∧cutL l p n=[]∧cutN l p n=0:=by
 have e:cutE l p n=2:=by rw [cutE,if_pos h]
 exact ⟨e,by rw [cutL,if_neg (by rw [e];decide)],by rw [cutN,if_neg (by rw [e];decide)]⟩
theorem cut_short {l:List Int} {p n:Int} (h1:0≤p) (h2:p≤l.length) (h:l.length-p<n):cutE l p n=10∧cutL l p n=[]∧cutN l p n=0:=by
 have e:cutE l p n=10:=by rw [cutE,if_neg (by omega),if_pos h]
 exact ⟨e,by rw [cutL,if_neg (by rw [e];decide)],by rw [cutN,if_neg (by rw [e];decide)]⟩
theorem cut_yes {l:List Int} {p n:Int} (h1:0≤p) (h2:p≤l.length) (h:n≤l.length-p):cutE l p n=0∧cutL l p n=(l.drop p.toNat).take n.toNat∧cutN l p n=p+n:=by
 have e:cutE l p n=0:=by rw [cutE,if_neg (by omega),if_neg (by omega)]
 exact ⟨e,by rw [cutL,if_pos e],by rw [cutN,if_pos e]⟩
theorem byt_cut {l:List Int} (h:Byt l) (p n:Int):Byt (cutL l p n):=by
 unfold cutL;split
 ·exact byt_take (byt_drop h _) _
 ·intro x hx;cases hx
theorem cut_any (A:Option Addr) (c:Nat) (l:List Int) (p n:Int) (w:World) (hr:Rd w A c l) (hn:0≤n) :
  Calls Tryz.prog 187 #[.slice A l.length c,.int .i64 p,.int .i64 n] w fun e w'=>∃A' c',e=.returned (.tuple #[.slice A' (cutL l p n).length c',.int .i64 (cutN l p n),.int .i64 (cutE l p n)]) ∧
   (∀w2:World,Rd w2 A c l→Rd w2 A' c' (cutL l p n))∧w=w':=by
 have hlen:=hr.len
 have hlc:=hr.le
 have hcap:=hr.cap
 by_cases h0:p<0
 ·obtain ⟨e1,e2,e3⟩:=cut_arg (l:=l) (n:=n) (.inl h0)
  rw [e1,e2,e3]
  clear e1 e2 e3
  go_enter Tryz.func187,Tryz.ntmps187
  go_wp2_with fail
  go_ret3
  exact ⟨none,0,rfl,fun _ _=>Rd.none_ _,rfl⟩
 ·by_cases h2:l.length<p
  ·obtain ⟨e1,e2,e3⟩:=cut_arg (l:=l) (n:=n) (.inr h2)
   rw [e1,e2,e3]
   clear e1 e2 e3
   go_enter Tryz.func187,Tryz.ntmps187
   go_wp2_with fail
   go_ret3
   exact ⟨none,0,rfl,fun _ _=>Rd.none_ _,rfl⟩
  ·by_cases h3:l.length-p<n
   ·obtain ⟨e1,e2,e3⟩:=cut_short (by omega) (by omega) h3
    rw [e1,e2,e3]
    clear e1 e2 e3
    go_enter Tryz.func187,Tryz.ntmps187
    go_wp2_with fail
    go_ret3
    exact ⟨none,0,rfl,fun _ _=>Rd.none_ _,rfl⟩
   ·obtain ⟨a,rfl⟩:∃a:Nat,p=a:=⟨p.toNat,by omega⟩
    obtain ⟨m,rfl⟩:∃m:Nat,n=m:=⟨n.toNat,by omega⟩
    obtain ⟨e1,e2,e3⟩:=cut_yes (l:=l) (p:=a) (n:=m) (by omega) (by omega) (by omega)
    rw [e1,e2,e3]
    clear e1 e2 e3
    have hs:∀w2:World,Rd w2 A c l→Rd w2 (if c=a then A else A.map (·.add a)) (c-a) ((l.drop a).take m):=by
     intro w2 h2;have hs:=h2.sub a (a+m) (by omega) (by omega);have e4:a+m-a=m:=by omega
     rw [e4] at hs;exact hs
    have e5:((l.drop (a:Int).toNat).take (m:Int).toNat).length=m:=by simp;omega
    rw [e5]
    clear e5
    have HS:=zhy hs
    clear hs
    go_enter Tryz.func187,Tryz.ntmps187
    go_wp2_with fail
    all_goals
     go_ret3
     refine ⟨_,_,rfl,?_,rfl⟩
     have hs:=HS.out
     simpa [*] using hs
theorem or_nat (x b:Nat) (hb:b<256):x*256 ||| b=x*256+b:=by
 have h:=Nat.two_pow_add_eq_or_of_lt (i:=8) (b:=b) (by omega) x;rw [show (2:Nat) ^ 8=256 from rfl,Nat.mul_comm] at h;exact h.symm
theorem cast_join (n m:Nat):((n*256+m:Nat):Int)=m+256*n:=by omega
theorem or_u64 {x b:Int} (hx0:0≤x) (hx1:x<72057594037927936) (hb:0≤b∧b<256):bits .or .u64 (x*256) b=b+256*x:=by
 obtain ⟨n,rfl⟩:∃n:Nat,x=n:=⟨x.toNat,by omega⟩;obtain ⟨m,rfl⟩:∃m:Nat,b=m:=⟨b.toNat,by omega⟩;have h:=bits_or_u64_nat (n*256) m (by omega) (by omega);rw [or_nat n m (by omega)] at h;have e:((n*256:Nat):Int)=(n:Int)*256:=by omega
 simp only [e] at h;exact h.trans (cast_join n m)
theorem or_i64 {y b:Int} (hb:0≤b∧b<256):bits .or .i64 (wrap64 (y*256)) b=wrap64 (y*256+b):=by
 obtain ⟨m,rfl⟩:∃m:Nat,b=m:=⟨b.toNat,by omega⟩;show IntKind.i64.wrap ((BitVec.ofInt 64 (wrap64 (y*256)) ||| BitVec.ofInt 64 (m:Int)).toNat:Int)=_
 have e1:(BitVec.ofInt 64 (wrap64 (y*256))).toNat=(y % 72057594037927936).toNat*256:=by
  rw [BitVec.toNat_ofInt];unfold wrap64;have:((2 ^ 64:Nat):Int)=18446744073709551616:=by decide
  rw [this];omega
 have e2:(BitVec.ofInt 64 (m:Int)).toNat=m:=by
  rw [BitVec.ofInt_natCast,BitVec.toNat_ofNat];exact Nat.mod_eq_of_lt (by omega)
 rw [BitVec.toNat_or,e1,e2,or_nat _ _ (by omega),IntKind.wrap_i64];unfold wrap64;omega
theorem wrap_join (z b:Int):wrap64 (wrap64 z*256+b)=wrap64 (b+256*z):=by unfold wrap64;omega
theorem join_u64 (A:Option Addr) (c:Nat) (l:List Int) (w:World) (hr:Rd w A c l) (h8:l.length≤8) :
  Calls Tryz.prog 188 #[.slice A l.length c] w fun e w'=>e=.returned (.int .u64 (num l))∧w=w':=by
 have hlen:=hr.len
 go_enter Tryz.func188,Tryz.ntmps188
 go_wp2_with fail
 go_loop [3,4] (fun n i=>∃k:Nat,k≤l.length∧i=.int .i64 ((k:Int)-1)∧n=.int .u64 (num (l.drop k))) (fun _ i=>(intOf i+1).toNat)
 case atStart=>exact ⟨l.length,Nat.le_refl _,rfl,by rw [List.drop_length];rfl⟩
 case round =>
  obtain ⟨k,hk,rfl,rfl⟩:=hrel
  by_cases h1:1≤k
  ·obtain ⟨ad,rfl,hcell⟩:=hr.at_ (i:=k-1) (by omega)
   have hb:=hr.byte (k-1)
   have hx0:=num_nonneg (byt_drop hr.byt k)
   have hx1:num (l.drop k)<72057594037927936:=by
    have h2:=num_lt (byt_drop hr.byt k);have h3:p256 (l.drop k).length≤p256 7:=p256_le (by rw [List.length_drop];omega);rw [p256_7] at h3;omega
   have hp:=num_pre h1 hk
   have HP:=zhy hp
   clear hp
   have e:((k:Int)-1).toNat=k-1:=by omega
   go_wp2
   go_round
   case rel =>
    exact ⟨k-1,by omega,by rw [show ((k-1:Nat):Int)=(k:Int)-1 from by omega],by rw [or_u64 hx0 hx1 hb,HP.out]⟩
   case measure=>simp [intOf];omega
  ·obtain rfl:k=0:=by omega
   go_wp2
   go_ret
   exact ⟨rfl,rfl⟩
theorem join_i64 (A:Option Addr) (c:Nat) (l:List Int) (w:World) (hr:Rd w A c l) :
  Calls Tryz.prog 255 #[.slice A l.length c] w fun e w'=>e=.returned (.int .i64 (wrap64 (num l)))∧w=w':=by
 have hlen:=hr.len
 go_enter Tryz.func255,Tryz.ntmps255
 go_wp2_with fail
 go_loop [3,4] (fun n i=>∃k:Nat,k≤l.length∧i=.int .i64 ((k:Int)-1)∧n=.int .i64 (wrap64 (num (l.drop k)))) (fun _ i=>(intOf i+1).toNat)
 case atStart=>exact ⟨l.length,Nat.le_refl _,rfl,by rw [List.drop_length];simp [num,wrap64]⟩
 case round =>
  obtain ⟨k,hk,rfl,rfl⟩:=hrel
  by_cases h1:1≤k
  ·obtain ⟨ad,rfl,hcell⟩:=hr.at_ (i:=k-1) (by omega)
   have hb:=hr.byte (k-1)
   have hp:=num_pre h1 hk
   have HP:=zhy hp
   clear hp
   have e:((k:Int)-1).toNat=k-1:=by omega
   go_wp2
   go_round
   case rel =>
    exact ⟨k-1,by omega,by rw [show ((k-1:Nat):Int)=(k:Int)-1 from by omega],by rw [or_i64 hb,HP.out,wrap_join]⟩
   case measure=>simp [intOf];omega
  ·obtain rfl:k=0:=by omega
   go_wp2
   go_ret
   exact ⟨rfl,rfl⟩
theorem settle_int_ok (a1 a2 a3:Addr) (u:FrameMode) (w:World) (h3:w.cell? a3=some (.int .i64 0)) :
  CallsD Tryz.prog 186 #[.pointer (some a1),.pointer (some a2),.pointer (some a3)] u w fun e u' w'=>u'=u∧(e=.returned (.tuple #[])∧w=w'):=by
 go_enter_d Tryz.func186,Tryz.ntmps186
 go_wp2
 go_end0
 exact ⟨rfl,rfl⟩
theorem settle_int_err (a1 a2 a3:Addr) (x1 x2:Value) (e:Int) (u:FrameMode) (w:World) (h1:w.cell? a1=some x1) (h2:w.cell? a2=some x2) (h3:w.cell? a3=some (.int .i64 e)) (f1:w.frozen? a1=false) (f2:w.frozen? a2=false)
  (h12:a1≠a2) (he:(e != 0)=true) :
  CallsD Tryz.prog 186 #[.pointer (some a1),.pointer (some a2),.pointer (some a3)] u w fun e u' w'=>u'=u∧(e=.returned (.tuple #[])∧w'=(w.setCell a1 (.int .i64 0)).setCell a2 (.int .i64 0)):=by
 have h2':(w.setCell a1 (.int .i64 0)).cell? a2=some x2:=by rw [World.cell?_setCell_other _ _ _ _ h12];exact h2
 have f2':(w.setCell a1 (.int .i64 0)).frozen? a2=false:=by simp [f2]
 go_enter_d Tryz.func186,Tryz.ntmps186
 go_wp2
 go_end0
 exact ⟨rfl,rfl⟩
theorem settle_int64_ok (a1 a2 a3:Addr) (u:FrameMode) (w:World) (h3:w.cell? a3=some (.int .i64 0)) :
  CallsD Tryz.prog 254 #[.pointer (some a1),.pointer (some a2),.pointer (some a3)] u w fun e u' w'=>u'=u∧(e=.returned (.tuple #[])∧w=w'):=by
 go_enter_d Tryz.func254,Tryz.ntmps254
 go_wp2
 go_end0
 exact ⟨rfl,rfl⟩
theorem settle_int64_err (a1 a2 a3:Addr) (x1 x2:Value) (e:Int) (u:FrameMode) (w:World) (h1:w.cell? a1=some x1) (h2:w.cell? a2=some x2) (h3:w.cell? a3=some (.int .i64 e)) (f1:w.frozen? a1=false) (f2:w.frozen? a2=false)
  (h12:a1≠a2) (he:(e != 0)=true) :
  CallsD Tryz.prog 254 #[.pointer (some a1),.pointer (some a2),.pointer (some a3)] u w fun e u' w'=>u'=u∧(e=.returned (.tuple #[])∧w'=(w.setCell a1 (.int .i64 0)).setCell a2 (.int .i64 0)):=by
 have h2':(w.setCell a1 (.int .i64 0)).cell? a2=some x2:=by rw [World.cell?_setCell_other _ _ _ _ h12];exact h2
 have f2':(w.setCell a1 (.int .i64 0)).frozen? a2=false:=by simp [f2]
 go_enter_d Tryz.func254,Tryz.ntmps254
 go_wp2
 go_end0
 exact ⟨rfl,rfl⟩
def getE (l:List Int) (p W:Int):Int:=if W<1∨8<W then 2 else if cutE l p W=0 then (if 9223372036854775807<num (cutL l p W) then 11 else 0) else cutE l p W
def getV (l:List Int) (p W:Int):Int:=if getE l p W=0 then num (cutL l p W) else 0
def getN (l:List Int) (p W:Int):Int:=if getE l p W=0 then p+W else 0
def three (w:World) (T:Nat) (v1 v2 v3:Value):World:=((w.alloc (.cells #[v1] T)).alloc (.cells #[v2] 3)).alloc (.cells #[v3] 31)
theorem three_1 (w:World) (T:Nat) (v1 v2 v3:Value):(three w T v1 v2 v3).cell? ⟨w.heap.size,0,none⟩=some v1:=by simp [three,go_sem]
theorem three_2 (w:World) (T:Nat) (v1 v2 v3:Value):(three w T v1 v2 v3).cell? ⟨w.heap.size+1,0,none⟩=some v2:=by simp [three,go_sem]
theorem three_3 (w:World) (T:Nat) (v1 v2 v3:Value):(three w T v1 v2 v3).cell? ⟨w.heap.size+1+1,0,none⟩=some v3:=by simp [three,go_sem]
theorem three_f1 (w:World) (T:Nat) (v1 v2 v3:Value):(three w T v1 v2 v3).frozen? ⟨w.heap.size,0,none⟩=false:=by simp [three,go_sem]
theorem three_f2 (w:World) (T:Nat) (v1 v2 v3:Value):(three w T v1 v2 v3).frozen? ⟨w.heap.size+1,0,none⟩=false:=by simp [three,go_sem]
theorem three_set1 (w:World) (T:Nat) (v1 v2 v3 u:Value):(three w T v1 v2 v3).setCell ⟨w.heap.size,0,none⟩ u=three w T u v2 v3:=by simp [three,go_sem]
theorem three_set2 (w:World) (T:Nat) (v1 v2 v3 u:Value):(three w T v1 v2 v3).setCell ⟨w.heap.size+1,0,none⟩ u=three w T v1 u v3:=by simp [three,go_sem]
theorem three_below (w:World) (T:Nat) (v1 v2 v3:Value):Below w.heap.size w (three w T v1 v2 v3):=by unfold three;go_grown
theorem get_door (tm:Array Value) (w:World) (v x e:Int) (R:Ending→World→Prop) (h6:tm[6]?.getD undef=.pointer (some ⟨w.heap.size,0,none⟩)) (h7:tm[7]?.getD undef=.pointer (some ⟨w.heap.size+1,0,none⟩)) (h8:tm[8]?.getD undef=.pointer (some ⟨w.heap.size+1+1,0,none⟩))
  (hR:R (.returned (.tuple #[.int .i64 (if e=0 then v else 0),.int .i64 (if e=0 then x else 0),.int .i64 e])) (three w 3 (.int .i64 (if e=0 then v else 0)) (.int .i64 (if e=0 then x else 0)) (.int .i64 e))) :
  bodyPostD Tryz.prog Tryz.f138 R Exit.ret { tmps:=tm,defers:=[{ target:=Target.fn (Fn.func 186) #[],args:=#[.pointer (some ⟨w.heap.size,0,none⟩),.pointer (some ⟨w.heap.size+1,0,none⟩),.pointer (some ⟨w.heap.size+1+1,0,none⟩)]}]}
   (three w 3 (.int .i64 v) (.int .i64 x) (.int .i64 e)):=by
 have hres:∀v1 v2 v3:Int,(results Tryz.f138 tm).run Tryz.prog (three w 3 (.int .i64 v1) (.int .i64 v2) (.int .i64 v3))=.ok (.tuple #[.int .i64 v1,.int .i64 v2,.int .i64 v3]) (three w 3 (.int .i64 v1) (.int .i64 v2) (.int .i64 v3)):=by
  intro v1 v2 v3;have c1:=three_1 w 3 (.int .i64 v1) (.int .i64 v2) (.int .i64 v3);have c2:=three_2 w 3 (.int .i64 v1) (.int .i64 v2) (.int .i64 v3);have c3:=three_3 w 3 (.int .i64 v1) (.int .i64 v2) (.int .i64 v3);simp [results,Tryz.results138,go_sem,h6,h7,h8,c1,c2,c3]
 refine leaves_cons (f:=186) (args:=#[.pointer (some ⟨w.heap.size,0,none⟩),.pointer (some ⟨w.heap.size+1,0,none⟩),.pointer (some ⟨w.heap.size+1+1,0,none⟩)]) (by simp) (by simp [go_sem]) ?_
 by_cases he:e=0
 ·subst he
  refine (settle_int_ok _ _ _ .returning _ (three_3 _ _ _ _ _)).mono ?_
  rintro e u' w'' ⟨rfl,rfl,rfl⟩
  exact ⟨_,hres _ _ _,hR⟩
 ·rw [if_neg he,if_neg he] at hR
  refine (settle_int_err _ _ _ _ _ e .returning _ (three_1 _ _ _ _ _) (three_2 _ _ _ _ _) (three_3 _ _ _ _ _) (three_f1 _ _ _ _ _) (three_f2 _ _ _ _ _) (by simp) (by simpa using he)).mono ?_
  rintro e u' w'' ⟨rfl,rfl,rfl⟩
  rw [three_set1,three_set2]
  exact ⟨_,hres _ _ _,hR⟩
theorem cutL_le (l:List Int) (p W:Int) (k:Nat) (h:W≤k):(cutL l p W).length≤k:=by
 unfold cutL;split
 ·simp;omega
 ·simp
theorem get_bad {l:List Int} {p W:Int} (h:W<1∨8<W):getE l p W=2:=by rw [getE,if_pos h]
theorem get_eq {l:List Int} {p W:Int} (h:1≤W∧W≤8):getE l p W=if cutE l p W=0 then (if 9223372036854775807<num (cutL l p W) then 11 else 0) else cutE l p W:=by rw [getE,if_neg (by omega)]
theorem get_big {l:List Int} {p W:Int} (h:1≤W∧W≤8) (hb:9223372036854775807<num (cutL l p W)):getE l p W=11:=by
 rw [get_eq h];by_cases h0:cutE l p W=0
 ·rw [if_pos h0,if_pos hb]
 ·rw [cutL,if_neg h0] at hb;simp [num] at hb
theorem get_small {l:List Int} {p W:Int} (h:1≤W∧W≤8) (hb:num (cutL l p W)≤9223372036854775807):getE l p W=cutE l p W:=by
 rw [get_eq h,if_neg (Int.not_lt.2 hb)];split
 ·rename_i h0;exact h0.symm
 ·rfl
theorem get_any (A:Option Addr) (c:Nat) (l:List Int) (p W:Int) (w:World) (hr:Rd w A c l) :
  Calls Tryz.prog 138 #[.slice A l.length c,.int .i64 p,.int .i64 W] w fun e w'=>e=.returned (.tuple #[.int .i64 (getV l p W),.int .i64 (getN l p W),.int .i64 (getE l p W)])∧Below w.heap.size w w':=by
 have hr2:∀v1 v2 v3:Value,Rd (((w.alloc (.cells #[v1] 3)).alloc (.cells #[v2] 3)).alloc (.cells #[v3] 31)) A c l:=fun v1 v2 v3=>((hr.alloc _).alloc _).alloc _
 have HR:=zhy hr2
 clear hr2
 by_cases hW:W<1∨8<W
 ·go_enter_defers Tryz.func138,Tryz.ntmps138
  go_wp2_with (go_at_call 108;refine (measured_no _ _ hW).mono ?_;rintro e w' ⟨rfl,rfl⟩)
  refine get_door _ w 0 0 2 _ rfl rfl rfl ?_
  refine ⟨?_,three_below _ _ _ _ _⟩
  rw [getV,getN,get_bad hW]
  rfl
 ·have hW':1≤W∧W≤8:=by omega
  clear hW
  have h8:=cutL_le l p W 8 hW'.2
  have h0:=num_nonneg (byt_cut hr.byt p W)
  by_cases hbig:9223372036854775807<num (cutL l p W)
  ·have hE:=get_big hW' hbig
   have HE:=zhy hE
   clear hE
   go_enter_defers Tryz.func138,Tryz.ntmps138
   go_wp2_with fail
   refine (measured_yes _ _ hW'.1 hW'.2).mono ?_
   rintro e w' ⟨rfl,rfl⟩
   go_wp2_with fail
   refine (cut_any A c l p W _ (HR.out _ _ _) (by omega)).mono ?_
   rintro e w' ⟨A',c',rfl,hr',rfl⟩
   have HR':=zhy (hr' _ (HR.out (.int .i64 0) (.int .i64 (cutN l p W)) (.int .i64 (cutE l p W))))
   clear hr'
   go_wp2_with fail
   refine (join_u64 A' c' _ _ HR'.out h8).mono ?_
   rintro e w' ⟨rfl,rfl⟩
   go_wp2_with fail
   refine get_door _ w (wrap64 (num (cutL l p W))) (cutN l p W) 11 _ rfl rfl rfl ?_
   refine ⟨?_,three_below _ _ _ _ _⟩
   rw [getV,getN,HE.out]
   rfl
  ·have hE:=get_small hW' (Int.not_lt.1 hbig)
   have HE:=zhy hE
   clear hE
   go_enter_defers Tryz.func138,Tryz.ntmps138
   go_wp2_with fail
   refine (measured_yes _ _ hW'.1 hW'.2).mono ?_
   rintro e w' ⟨rfl,rfl⟩
   go_wp2_with fail
   refine (cut_any A c l p W _ (HR.out _ _ _) (by omega)).mono ?_
   rintro e w' ⟨A',c',rfl,hr',rfl⟩
   have HR':=zhy (hr' _ (HR.out (.int .i64 0) (.int .i64 (cutN l p W)) (.int .i64 (cutE l p W))))
   clear hr'
   go_wp2_with fail
   refine (join_u64 A' c' _ _ HR'.out h8).mono ?_
   rintro e w' ⟨rfl,rfl⟩
   go_wp2_with fail
   refine get_door _ w (num (cutL l p W)) (cutN l p W) (cutE l p W) _ rfl rfl rfl ?_
   refine ⟨?_,three_below _ _ _ _ _⟩
   rw [getV,getN,HE.out,cutN]
   by_cases h0:cutE l p W=0<;>simp [h0]
theorem get_m (A:Option Addr) (m c:Nat) (l:List Int) (p W:Int) (w:World) (hr:Rd w A c l) (hm:l.length=m) :
  Calls Tryz.prog 138 #[.slice A m c,.int .i64 p,.int .i64 W] w fun e w'=>e=.returned (.tuple #[.int .i64 (getV l p W),.int .i64 (getN l p W),.int .i64 (getE l p W)])∧Below w.heap.size w w':=by
 subst hm;exact get_any A c l p W w hr
theorem get_short {l:List Int} {p W:Int} (h:1≤W∧W≤8) (h0:0≤p) (h1:p≤l.length) (h2:l.length-p<W):getE l p W=10:=by
 have e:=(cut_short h0 h1 h2).1;rw [get_eq h,e];rfl
theorem get_ok {l:List Int} {p W:Int} (h:1≤W∧W≤8) (h0:0≤p) (h1:p≤l.length) (h2:W≤l.length-p) (hb:num ((l.drop p.toNat).take W.toNat)≤9223372036854775807) :
  getE l p W=0∧getV l p W=num ((l.drop p.toNat).take W.toNat)∧getN l p W=p+W:=by
 obtain ⟨e1,e2,_⟩:=cut_yes h0 h1 h2
 have e:getE l p W=0:=by rw [get_eq h,if_pos e1,e2,if_neg (by omega)]
 exact ⟨e,by rw [getV,if_pos e,e2],by rw [getN,if_pos e]⟩
theorem sig_door (tm:Array Value) (w:World) (v x e:Int) (R:Ending→World→Prop) (h4:tm[4]?.getD undef=.pointer (some ⟨w.heap.size,0,none⟩)) (h5:tm[5]?.getD undef=.pointer (some ⟨w.heap.size+1,0,none⟩)) (h6:tm[6]?.getD undef=.pointer (some ⟨w.heap.size+1+1,0,none⟩))
  (hR:R (.returned (.tuple #[.int .i64 (if e=0 then v else 0),.int .i64 (if e=0 then x else 0),.int .i64 e])) (three w 2 (.int .i64 (if e=0 then v else 0)) (.int .i64 (if e=0 then x else 0)) (.int .i64 e))) :
  bodyPostD Tryz.prog Tryz.f243 R Exit.ret { tmps:=tm,defers:=[{ target:=Target.fn (Fn.func 254) #[],args:=#[.pointer (some ⟨w.heap.size,0,none⟩),.pointer (some ⟨w.heap.size+1,0,none⟩),.pointer (some ⟨w.heap.size+1+1,0,none⟩)]}]}
   (three w 2 (.int .i64 v) (.int .i64 x) (.int .i64 e)):=by
 have hres:∀v1 v2 v3:Int,(results Tryz.f243 tm).run Tryz.prog (three w 2 (.int .i64 v1) (.int .i64 v2) (.int .i64 v3))=.ok (.tuple #[.int .i64 v1,.int .i64 v2,.int .i64 v3]) (three w 2 (.int .i64 v1) (.int .i64 v2) (.int .i64 v3)):=by
  intro v1 v2 v3;have c1:=three_1 w 2 (.int .i64 v1) (.int .i64 v2) (.int .i64 v3);have c2:=three_2 w 2 (.int .i64 v1) (.int .i64 v2) (.int .i64 v3);have c3:=three_3 w 2 (.int .i64 v1) (.int .i64 v2) (.int .i64 v3);simp [results,Tryz.results243,go_sem,h4,h5,h6,c1,c2,c3]
 refine leaves_cons (f:=254) (args:=#[.pointer (some ⟨w.heap.size,0,none⟩),.pointer (some ⟨w.heap.size+1,0,none⟩),.pointer (some ⟨w.heap.size+1+1,0,none⟩)]) (by simp) (by simp [go_sem]) ?_
 by_cases he:e=0
 ·subst he
  refine (settle_int64_ok _ _ _ .returning _ (three_3 _ _ _ _ _)).mono ?_
  rintro e u' w'' ⟨rfl,rfl,rfl⟩
  exact ⟨_,hres _ _ _,hR⟩
 ·rw [if_neg he,if_neg he] at hR
  refine (settle_int64_err _ _ _ _ _ e .returning _ (three_1 _ _ _ _ _) (three_2 _ _ _ _ _) (three_3 _ _ _ _ _) (three_f1 _ _ _ _ _) (three_f2 _ _ _ _ _) (by simp) (by simpa using he)).mono ?_
  rintro e u' w'' ⟨rfl,rfl,rfl⟩
  rw [three_set1,three_set2]
  exact ⟨_,hres _ _ _,hR⟩
def sigV (l:List Int) (p:Int):Int:=wrap64 (num (cutL l p 8))
theorem sig_any (A:Option Addr) (c:Nat) (l:List Int) (p:Int) (w:World) (hr:Rd w A c l) :
  Calls Tryz.prog 243 #[.slice A l.length c,.int .i64 p] w fun e w'=>e=.returned (.tuple #[.int .i64 (sigV l p),.int .i64 (cutN l p 8),.int .i64 (cutE l p 8)])∧Below w.heap.size w w':=by
 have hr2:∀v1 v2 v3:Value,Rd (((w.alloc (.cells #[v1] 2)).alloc (.cells #[v2] 3)).alloc (.cells #[v3] 31)) A c l:=fun v1 v2 v3=>((hr.alloc _).alloc _).alloc _
 have HR:=zhy hr2
 clear hr2
 go_enter_defers Tryz.func243,Tryz.ntmps243
 go_wp2_with fail
 refine (cut_any A c l p 8 _ (HR.out _ _ _) (by omega)).mono ?_
 rintro e w' ⟨A',c',rfl,hr',rfl⟩
 have HR':=zhy (hr' _ (HR.out (.int .i64 0) (.int .i64 (cutN l p 8)) (.int .i64 (cutE l p 8))))
 clear hr'
 go_wp2_with fail
 refine (join_i64 A' c' _ _ HR'.out).mono ?_
 rintro e w' ⟨rfl,rfl⟩
 go_wp2_with fail
 refine sig_door _ w (sigV l p) (cutN l p 8) (cutE l p 8) _ rfl rfl rfl ?_
 refine ⟨?_,three_below _ _ _ _ _⟩
 by_cases h0:cutE l p 8=0
 ·rw [if_pos h0,if_pos h0]
 ·rw [if_neg h0,if_neg h0,sigV,cutN,if_neg h0,cutL,if_neg h0]
  simp [num,wrap64]
section
open Ieee
theorem bcell {W w1:World} (hb:Below W.heap.size W w1):(∀b o,b<W.heap.size→w1.cell? ⟨b,o,none⟩=W.cell? ⟨b,o,none⟩)∧(∀b o,b<W.heap.size→w1.frozen? ⟨b,o,none⟩=W.frozen? ⟨b,o,none⟩):=
 ⟨fun b o h=>hb.cell (p:=⟨b,o,none⟩) h,fun b o h=>hb.frozen (p:=⟨b,o,none⟩) h⟩
theorem below1 {w w1:World} {a:Obj} (h:Below (w.alloc a).heap.size (w.alloc a) w1):Below w.heap.size w w1:=((Below.refl _ _).alloc (Nat.le_refl _) _).trans (h.mono (by simp))
theorem below2 {w w1:World} {a b:Obj} (h:Below ((w.alloc a).alloc b).heap.size ((w.alloc a).alloc b) w1):Below w.heap.size w w1:=below1 (below1 h)
theorem below3 {w w1:World} {a b c:Obj} (h:Below (((w.alloc a).alloc b).alloc c).heap.size (((w.alloc a).alloc b).alloc c) w1):Below w.heap.size w w1:=below2 (below1 h)
theorem below_set2 {B:Nat} {w w1:World} {p q:Addr} (h:Below B w w1) (hp:B≤p.block) (hq:B≤q.block) (x y:Value):Below B w ((w1.setCell p x).setCell q y):=(h.setCell hp _).setCell hq _
theorem new1 {w:World} {a:Obj}:Below w.heap.size w (w.alloc a):=below1 (Below.refl _ _)
theorem new3 {w:World} {a b c:Obj}:Below w.heap.size w (((w.alloc a).alloc b).alloc c):=below3 (Below.refl _ _)
theorem below_on {w w1 w2:World} (h:Below w.heap.size w w1) (g:Below w1.heap.size w1 w2):Below w.heap.size w w2:=h.trans (g.mono h.size)
def partB (n:Int):Bool:=decide (-1048576≤n)&&decide (n≤1048576)
def okB (a b:Int):Bool:=partB a&&partB b
theorem partB_iff {n:Int}:partB n=true↔-1048576≤n∧n≤1048576:=by simp [partB]
theorem okB_iff {a b:Int}:okB a b=true↔(-1048576≤a∧a≤1048576)∧-1048576≤b∧b≤1048576:=by simp [okB,partB]
theorem bounded_v (n:Int) (v:Bool) (w:World) (h:partB n=v):Calls Tryz.prog 252 #[.int .i64 n] w fun e w'=>e=.returned (.bool v)∧w=w':=by
 subst h;by_cases h1:-1048576≤n
 ·by_cases h2:n≤1048576
  ·have e:partB n=true:=partB_iff.2 ⟨h1,h2⟩;rw [e];go_enter Tryz.func252,Tryz.ntmps252;clear e;go_wp2_with fail;go_ret;exact ⟨rfl,rfl⟩
  ·have e:partB n=false:=by simp [partB];omega
   rw [e];clear e;have h3:decide (n≤1048576)=false:=by simpa using h2
   go_enter Tryz.func252,Tryz.ntmps252;go_wp2_with fail;go_ret;exact ⟨rfl,rfl⟩
 ·have e:partB n=false:=by simp [partB];omega
  rw [e];clear e;have h3:decide (-1048576≤n)=false:=by simpa using h1
  go_enter Tryz.func252,Tryz.ntmps252;go_wp2_with fail;go_ret;exact ⟨rfl,rfl⟩
theorem may_v (a b:Int) (v:Bool) (w:World) (h:okB a b=v):Calls Tryz.prog 234 #[.agg #[.int .i64 a,.int .i64 b]] w fun e w'=>e=.returned (.bool v)∧Below w.heap.size w w':=by
 unfold okB at h;cases ha:partB a with
 | true =>
  rw [ha,Bool.true_and] at h;have HA:=zhy ha;have HB:=zhy h;clear ha h;go_enter Tryz.func234,Tryz.ntmps234;go_wp2_with fail;refine (bounded_v _ _ _ HA.out).mono ?_;rintro e w' ⟨rfl,rfl⟩;go_wp2_with fail;refine (bounded_v _ _ _ HB.out).mono ?_;rintro e w' ⟨rfl,rfl⟩;go_wp2_with fail;go_ret;exact ⟨rfl,(Below.refl _ _).alloc (Nat.le_refl _) _⟩
 | false =>
  rw [ha,Bool.false_and] at h;subst h;have HA:=zhy ha;clear ha;go_enter Tryz.func234,Tryz.ntmps234;go_wp2_with fail;refine (bounded_v _ _ _ HA.out).mono ?_;rintro e w' ⟨rfl,rfl⟩;go_wp2_with fail;go_ret;exact ⟨rfl,(Below.refl _ _).alloc (Nat.le_refl _) _⟩
theorem new2 {w:World} {a b:Obj}:Below w.heap.size w ((w.alloc a).alloc b):=below2 (Below.refl _ _)
end
end Go.Proofs.YtnjgkkoiamiaaaaGreatDoor
