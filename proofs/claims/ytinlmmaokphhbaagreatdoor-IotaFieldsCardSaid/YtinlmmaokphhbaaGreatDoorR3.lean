import Derived.Test.YtinlmmaokphhbaaGreatDoorR2
import Derived.Test.YtinlmmaokphhbaaGreatDoorTie
import Derived.Test.YtinlmmaokphhbaaGreatDoorCards
import Derived.OpenShut
import Derived.ChangeOld
import Derived.ChangeArms
import Derived.SliceStrings
import Derived.LaidMore
import Derived.Lay
import Derived.Stop.LaidErr
import Derived.Stop.Joined
import Derived.SevenTiedAt
import Derived.Deep.Slices
import Derived.Lib.LaidTab
import Derived.Lib.SmallJoins
import Derived.SizedLaws
namespace Go.Proofs.YtinlmmaokphhbaaGreatDoor
open Go.ChangeShapes Go.WideShapes Go.ChangeAt Go.RowKit Go.Deep
set_option linter.unusedVariables false
set_option maxRecDepth 100000
open Go.Proofs.Tryz
open _root_.List renaming getElem?_take→Qa,getElem?_drop→Qb,getElem?_eq_getElem→Qc,take→Qd,drop→Qe,ofFn→Qf,getElem?_map→Qg
open Go.DataW renaming trod→Qh,trod_int→Qi,weights→Qj,trod_struct→Qk,weightsAll→Ql,trod_slice→Qm
open Go renaming reachBytes→Qn,MemPlace→Qo
open _root_.Nat renaming add_assoc→Qp,strongRecOn→Qq,add_zero→Qr,le_refl→Qs
open Go.World renaming block_lt_of_cell?→Qt,cells?_some→Qu,cell?_spot→Qv
open Go.DataW.agg renaming injEq→Qw
open Go.Addr renaming add_lit→Qx
open _root_.Option renaming map_some→Qy
theorem Zvr:laidOutB prog=true:=by kernel_rfl
theorem own:ownKnob prog.godebug=none:=by kernel_rfl
theorem Zk0:prog.cellsOf 3=1:=by kernel_rfl
theorem Zvh:prog.cellsOf 23=1:=by kernel_rfl
theorem Zk1:prog.cellsOf 27=3:=by kernel_rfl
theorem Zsm {α:Type}{l:List α}(h:l.length=3):∃a b c,l=[a,b,c]:=by
 match l,h with
 | [a,b,c],_=>exact⟨a,b,c,rfl⟩
instance:Inhabited TM:=⟨.node 0 0 []⟩
section
variable {H:Type} {enc:TypeId×Value→H} {W:World} {base:Nat} {sp:Nat→Bool} {hd:Bool}
theorem Zrm:∀(fuel:Nat) (cs:List Value) (x:DataW H×List Qo),Qh enc prog W base sp hd fuel 27 cs=some x→
  ∃(t:TM) (A:Option Addr) (cap:Nat),cs=Zq (t,A,cap)∧Zd W (fun b=>b<W.heap.size) t A cap:=by
 intro fuel;induction fuel using Qq with
 | _ fuel ih=>
  intro cs x h;obtain⟨xs,n,rfl,_,hlen,hxl,hf⟩:=Qk Tryz.underlying27 h;rw[Zk1]at hlen;obtain⟨c0,c1,c2,rfl⟩:=Zsm hlen;obtain⟨y0,y1,y2,rfl⟩:=Zsm (show xs.length=3 from hxl);have h0:Qh enc prog W base sp hd n 3 (Qd (prog.cellsOf 3) (Qe 0 [c0,c1,c2]))=some y0:=hf 0 _ rfl;have h1:Qh enc prog W base sp hd n 3 (Qd (prog.cellsOf 3) (Qe 1 [c0,c1,c2]))=some y1:=hf 1 _ rfl;have h2:Qh enc prog W base sp hd n 23 (Qd (prog.cellsOf 23) (Qe 2 [c0,c1,c2]))=some y2:=hf 2 _ rfl;rw[Zk0]at h0 h1;rw[Zvh]at h2;obtain⟨k,e0,_,_⟩:=Qi Tryz.underlying3 h0;obtain⟨nn,e1,_,_⟩:=Qi Tryz.underlying3 h1;obtain rfl:c0= .int .i64 k:=by simpa using e0
  obtain rfl:c1= .int .i64 nn:=by simpa using e1
  rcases Qm Tryz.underlying23 h2 with ⟨e4,_⟩|⟨ad,len,cap,elems,rest,m,rfl,e4,_,hb,hl,hm,hel,hall,_⟩
  ·obtain rfl:c2= .slice none 0 0:=by simpa using e4
   exact⟨.node k nn [],none,0,rfl,Zd.mk k nn [] none 0 (fun _=>none) (fun _=>0) (Qs _) (by decide) (fun h=>by simp at h) (fun i h=>by simp at h)⟩
  ·obtain rfl:c2= .slice (some ad) len cap:=by simpa using e4
   have one:∀i,i<len→∃p:TM×Option Addr×Nat,(∀r,r<3→W.cell? (ad.add (i*3+r))=(Zq p)[r]?)∧Zd W (fun b=>b<W.heap.size) p.1 p.2.1 p.2.2:=by
    intro i hi;have hx:=hall i hi;rw[Zk1]at hx;rw[Qc (by omega)]at hx;obtain⟨cs',hc,ht⟩:=Option.bind_eq_some_iff.1 hx;obtain⟨_,hcl,hat⟩:=Qu hc;obtain⟨t,A,c,rfl,hn⟩:=ih m (by omega) cs' _ ht;refine⟨(t,A,c),fun r hr=> ?_,hn⟩;have:=hat r hr
    rwa [Go.Deep.add_add]at this
   obtain⟨f,hf⟩:=choose_lt (α:=TM×Option Addr×Nat) (p:=fun i p=>(∀r,r<3→W.cell? (ad.add (i*3+r))=(Zq p)[r]?)∧Zd W (fun b=>b<W.heap.size) p.1 p.2.1 p.2.2) one;have hlen2:(Qf fun i:Fin len=>(f i.val).1).length=len:=by simp
   have hget:∀i (h:i<(Qf fun i:Fin len=>(f i.val).1).length),(Qf fun i:Fin len=>(f i.val).1)[i]=(f i).1:=fun i h=>by simp
   refine⟨.node k nn (Qf fun i:Fin len=>(f i.val).1),some ad,cap,by show _=[_,_,Value.slice (some ad) (TM.l _).length cap];simp[TM.l,TM.k,TM.n], ?_⟩;refine Zd.mk k nn _ (some ad) cap (fun i=>(f i).2.1) (fun i=>(f i).2.2) (by omega) hm (fun h0=> ?_) (fun i h=>by rw[hget i h];exact(hf i (by omega)).2);obtain⟨b,o,spot⟩:=ad;have hc0:=(hf 0 (by omega)).1 0 (by omega);have hspot:spot=none:=by simpa [Addr.add]using Qv hc0
   subst hspot;refine⟨b,o,rfl, ?_,fun i h=> ?_⟩
   ·rw[Qx]at hc0;exact Qt W _ hc0
   ·rw[hget i h];have hx:=fun r hr=>(hf i (by omega)).1 r hr;have x0:=hx 0 (by omega);have x1:=hx 1 (by omega);have x2:=hx 2 (by omega);rw[Qx]at x0 x1 x2;rw[Qr]at x0;exact⟨x0,by rw[Qp,x1];rfl,by rw[Qp,x2];rfl⟩
end
section
variable {H:Type} {enc:TypeId×Value→H} {W:World} {base:Nat} {sp:Nat→Bool} {hd:Bool}
theorem Z24 {fuel:Nat}{cs:List Value}{a b:Int}{p:List Qo}(h:Qh enc prog W base sp hd fuel 131 cs=some (.agg [.lit (.int .i64 a),.lit (.int .i64 b)],p)):cs[0]? =some (.int .i64 a)∧cs[1]? =some (.int .i64 b):=by
 have ht:prog.underlying 131=some (.array 2 3):=Tryz.underlying131;cases fuel with
 | zero=>simp[Qh]at h
 | succ fuel=>
  simp only[Qh,ht,Zk0]at h;split at h
  ·obtain⟨xs,hx,hd1⟩:=Option.map_eq_some_iff.1 h;obtain⟨b0,hb0,hy0⟩:=Lib.mapM_at hx 0 0 (by simp);obtain⟨b1,hb1,hy1⟩:=Lib.mapM_at hx 1 1 (by simp);have hd2:=congrArg Prod.fst hd1;simp only[Qw]at hd2;have e0:=congrArg (·[0]?) hd2;have e1:=congrArg (·[1]?) hd2;simp only[Qg,hb0,hb1,Qy]at e0 e1;obtain⟨z0,hc0,hz0,_⟩:=Qi Tryz.underlying3 hy0;obtain⟨z1,hc1,hz1,_⟩:=Qi Tryz.underlying3 hy1;rw[hz0]at e0;rw[hz1]at e1;simp at e0 e1;subst e0 e1;refine⟨?_, ?_⟩
   ·have:=congrArg (·[0]?) hc0;simpa [Qa,Qb]using this
   ·have:=congrArg (·[0]?) hc1;simpa [Qa,Qb]using this
  ·cases h
theorem Zut {fuel:Nat}{cs:List Value}{a b c d e:Int}{p:List Qo}(h:Qh enc prog W base sp hd fuel 133 cs=some (.agg [.lit (.int .i64 a),.lit (.int .i64 b),.lit (.int .i64 c),.agg [.lit (.int .i64 d),.lit (.int .i64 e)]],p)):
  cs[0]? =some (.int .i64 a)∧cs[1]? =some (.int .i64 b)∧cs[2]? =some (.int .i64 c)∧cs[3]? =some (.int .i64 d)∧cs[4]? =some (.int .i64 e):=by
 obtain⟨xs,n,rfl,hx,_,hl,hf⟩:=Qk (show prog.underlying 133=_ from Tryz.underlying133) h;have c2:prog.cellsOf 131=2:=by kernel_rfl
 have hl4:xs.length=4:=hl;obtain⟨y0,y1,y2,y3,rfl⟩:∃y0 y1 y2 y3,xs=[y0,y1,y2,y3]:=by
  match xs,hl4 with
  | [a,b,c,d],_=>exact⟨a,b,c,d,rfl⟩
 have h0:Qh enc prog W base sp hd n 3 (Qd (prog.cellsOf 3) (Qe 0 cs))=some y0:=hf 0 _ rfl;have h1:Qh enc prog W base sp hd n 3 (Qd (prog.cellsOf 3) (Qe 1 cs))=some y1:=hf 1 _ rfl;have h2:Qh enc prog W base sp hd n 3 (Qd (prog.cellsOf 3) (Qe 2 cs))=some y2:=hf 2 _ rfl;have h3:Qh enc prog W base sp hd n 131 (Qd (prog.cellsOf 131) (Qe 3 cs))=some y3:=hf 3 _ rfl;rw[Zk0]at h0 h1 h2;rw[c2]at h3;have hd1:=congrArg Prod.fst hx;simp only[Qw,List.map_cons,List.map_nil,List.cons.injEq,and_true]at hd1;obtain⟨q0,q1,q2,q3⟩:=hd1;obtain⟨z0,hc0,hz0,_⟩:=Qi Tryz.underlying3 h0;obtain⟨z1,hc1,hz1,_⟩:=Qi Tryz.underlying3 h1;obtain⟨z2,hc2,hz2,_⟩:=Qi Tryz.underlying3 h2;rw[hz0]at q0;rw[hz1]at q1;rw[hz2]at q2;simp at q0 q1 q2;subst q0 q1 q2;obtain⟨y31,y32⟩:=y3;simp only at q3;subst q3;obtain⟨g0,g1⟩:=Z24 h3;refine⟨?_, ?_, ?_, ?_, ?_⟩
 ·have:=congrArg (·[0]?) hc0;simpa [Qa,Qb]using this
 ·have:=congrArg (·[0]?) hc1;simpa [Qa,Qb]using this
 ·have:=congrArg (·[0]?) hc2;simpa [Qa,Qb]using this
 ·simpa [Qa,Qb]using g0
 ·simpa [Qa,Qb]using g1
end
def Z8v (z:List Int):DataW Unit:= .agg [.lit (.int .i64 (z.getD 0 0)),.lit (.int .i64 (z.getD 1 0)),.lit (.int .i64 (z.getD 2 0)),.agg [.lit (.int .i64 (z.getD 3 0)),.lit (.int .i64 (z.getD 4 0))]]
theorem Zs8:prog.globalNamed "scholium/term.shapes" =some 0:=by kernel_rfl
theorem Ztt:(Rows.laid_scholium_term_shapes:DataW Unit)= .agg (Ztu.map Z8v):=by rfl
theorem Zxt {W:World}{rest:List (String×DataW Unit)}(h:laidMet prog (("scholium/term.shapes",Rows.laid_scholium_term_shapes)::rest) W):Zi W:=by
 obtain⟨ps,⟨g',t',cs,fuel,p,q,hg',ht',hvar,hd,_,_⟩,_⟩:=h;obtain rfl:=Option.some.inj (Zs8.symm.trans hg');obtain rfl:=Option.some.inj ((show(prog.globals[0]?).map (·.type)=some 134 by kernel_rfl).symm.trans ht');rw[Ztt]at hd;have ht:prog.underlying 134=some (.array 9 133):=Tryz.underlying134;have c5:prog.cellsOf 133=5:=by kernel_rfl
 have hall:∀i j,i<9→j<5→cs.toList[i*5+j]? =some (.int .i64 (shm i j)):=by
  intro i j hi hj;cases fuel with
  | zero=>simp[Qh]at hd
  | succ fuel=>
   simp only[Qh,ht,c5]at hd;split at hd
   ·obtain⟨xs,hx,hd1⟩:=Option.map_eq_some_iff.1 hd;obtain⟨b,hb,hy⟩:=Lib.mapM_at hx i i (by simp[hi]);have hd2:=congrArg Prod.fst hd1;simp only[Qw]at hd2;have e2:=congrArg (·[i]?) hd2;simp only[Qg,hb,Qy]at e2;have hlen:i<Ztu.length:=by show i<9;exact hi
    rw[Qc hlen]at e2;simp only[Qy,Option.some.injEq]at e2;obtain⟨b1,b2⟩:=b;simp only at e2;subst e2;obtain⟨r0,r1,r2,r3,r4⟩:=Zut hy;have hsm:∀q,shm i q=(Ztu[i]).getD q 0:=fun q=>by
     unfold shm;rw[List.getD_eq_getElem?_getD (l:=Ztu),Qc hlen];rfl
    have hcell:∀q,q<5→((cs.toList.drop (i*5)).take 5)[q]? =cs.toList[i*5+q]? :=fun q hq=>by
     rw[Qa,Qb,if_pos hq]
    rw[←hcell j hj,hsm];have h5:j=0∨j=1∨j=2∨j=3∨j=4:=by omega
    rcases h5 with rfl|rfl|rfl|rfl|rfl
    ·exact r0
    ·exact r1
    ·exact r2
    ·exact r3
    ·exact r4
   ·cases hd
 intro i j hi hj;have h1:=hall i j hi hj;exact World.var?_cell Zs8 hvar (i*5+j)|>.trans (by rw[←Array.getElem?_toList];exact h1)
def Zd2:TM→Bool
 | .node _ _ l=>decide (l.length*40≤140737488351232) && sizedL l
where sizedL:List TM→Bool
 | []=>true
 | t::r=>Zd2 t && sizedL r
theorem Zqc:∀l:List TM,Zd2.sizedL l=l.all Zd2
 | []=>by rw[Zd2.sizedL];rfl
 | t::r=>by rw[Zd2.sizedL,Zqc r,List.all_cons]
theorem Zuv (k n:Int)(l:List TM):Zd2 (.node k n l)=(decide (l.length*40≤140737488351232) && l.all Zd2):=by rw[Zd2,Zqc]
theorem Zd.relabel {w:World}{P:Nat→Prop}{k n k' n':Int}{l:List TM}{A:Option Addr}{cap:Nat}(h:Zd w P (.node k n l) A cap):Zd w P (.node k' n' l) A cap:=by
 cases h with
 | mk k n l A cap F C hl hm hc hn=>exact .mk k' n' l A cap F C hl hm hc hn
abbrev Ze (w:World)(lo hi:Nat)(ts:List TM)(A:Option Addr)(cap:Nat):Prop:=Za w lo hi (.node 0 0 ts) A cap
theorem Zk9 {H:Type}{P:Program}{e:TypeId}:∀{l:List (DataW H)} {d:DataW H},d∈l→∀n∈d.weights P e,n∈Ql P e l
 | d0::l,d,hd,n,hn=>by
  rw[Ql,List.mem_append];rcases List.mem_cons.1 hd with rfl|hd
  ·exact .inl hn
  ·exact .inr (Zk9 hd n hn)
theorem Z6i:prog.bytesOf 27=40:=by kernel_rfl
section
variable {H:Type} {enc:TypeId×Value→H} {W:World} {base:Nat} {sp:Nat→Bool} {hd:Bool}
def Zvd (enc:TypeId×Value→H)(W:World)(base:Nat)(sp:Nat→Bool)(hd:Bool)(m:Nat):Prop:=
 ∀(cs:List Value) (x:DataW H×List Qo),Qh enc prog W base sp hd m 27 cs=some x→(∀n∈x.1.weights prog 27,n≤Qn)→
  ∃(t:TM) (A:Option Addr) (cap:Nat),cs=Zq (t,A,cap)∧Zd W (fun b=>b<W.heap.size) t A cap∧Zd2 t=true
theorem Zrl (fuel:Nat)(one0:∀m,m<fuel→Zvd enc W base sp hd m)(c2:Value)(y2:DataW H×List Qo)(h2:Qh enc prog W base sp hd fuel 23 [c2]=some y2)
    (hw:∀n∈y2.1.weights prog 23,n≤Qn):
    ∃(ts:List TM) (A:Option Addr) (cap:Nat),c2= .slice A ts.length cap∧Zd W (fun b=>b<W.heap.size) (.node 0 0 ts) A cap∧ts.length*40≤140737488351232∧ts.all Zd2=true:=by
  rcases Qm Tryz.underlying23 h2 with ⟨e4,_⟩|⟨ad,len,cap,elems,rest,m,rfl,e4,hy,hb,hl,hm,hel,hall,_⟩
  · obtain rfl:c2= .slice none 0 0:=by simpa using e4
    exact⟨[],none,0,rfl,Zd.mk 0 0 [] none 0 (fun _=>none) (fun _=>0) (Qs _) (by decide) (fun h=>by simp at h) (fun i h=>by simp at h),by simp,rfl⟩
  · obtain rfl:c2= .slice (some ad) len cap:=by simpa using e4
    have hw1:∀n∈(DataW.slice (elems.map (·.1)) (rest.map (·.1))).weights prog 23,n≤Qn:=by rw[hy]at hw;exact hw
    have hw2:(len+rest.length)*40≤Qn:=hw1 _ (by
      rw[Qj,Tryz.underlying23];show _∈((List.map (·.1) elems).length+(List.map (·.1) rest).length)*prog.bytesOf 27::_
      rw[Z6i];simp[hel])
    have hw3:∀d∈elems,∀n∈d.1.weights prog 27,n≤Qn:=fun d hd n hn=>hw1 n (by
      rw[Qj,Tryz.underlying23];refine List.mem_cons_of_mem _ (List.mem_append.2 (.inl ?_));exact Zk9 (List.mem_map.2 ⟨d,hd,rfl⟩) n hn)
    have one:∀i,i<len→∃p:TM×Option Addr×Nat,((∀r,r<3→W.cell? (ad.add (i*3+r))=(Zq p)[r]?)∧Zd W (fun b=>b<W.heap.size) p.1 p.2.1 p.2.2)∧Zd2 p.1=true:=by
      intro i hi;have hx:=hall i hi;rw[Zk1]at hx;rw[Qc (by omega)]at hx;obtain⟨cs',hc,ht⟩:=Option.bind_eq_some_iff.1 hx;obtain⟨_,hcl,hat⟩:=Qu hc;obtain⟨t,A,c,rfl,hn,hs⟩:=one0 m (by omega) cs' _ ht (hw3 _ (List.getElem_mem _));refine⟨(t,A,c),⟨fun r hr=> ?_,hn⟩,hs⟩;have:=hat r hr
      rwa [Go.Deep.add_add]at this
    obtain⟨f,hf⟩:=choose_lt (α:=TM×Option Addr×Nat) (p:=fun i p=>((∀r,r<3→W.cell? (ad.add (i*3+r))=(Zq p)[r]?)∧Zd W (fun b=>b<W.heap.size) p.1 p.2.1 p.2.2)∧Zd2 p.1=true) one;have hget:∀i (h:i<(Qf fun i:Fin len=>(f i.val).1).length),(Qf fun i:Fin len=>(f i.val).1)[i]=(f i).1:=fun i h=>by simp
    refine⟨Qf fun i:Fin len=>(f i.val).1,some ad,cap,by simp, ?_, ?_, ?_⟩
    · refine Zd.mk 0 0 _ (some ad) cap (fun i=>(f i).2.1) (fun i=>(f i).2.2) (by simp;omega) hm (fun h0=> ?_) (fun i h=>by rw[hget i h];exact(hf i (by simpa using h)).1.2);have h0':0<len:=by simpa using h0
      obtain⟨b,o,spot⟩:=ad;have hc0:=(hf 0 h0').1.1 0 (by omega);have hspot:spot=none:=by simpa [Addr.add]using Qv hc0
      subst hspot;refine⟨b,o,rfl, ?_,fun i h=> ?_⟩
      · rw[Qx]at hc0;exact Qt W _ hc0
      · rw[hget i h];have hx:=fun r hr=>(hf i (by simpa using h)).1.1 r hr;have x0:=hx 0 (by omega);have x1:=hx 1 (by omega);have x2:=hx 2 (by omega);rw[Qx]at x0 x1 x2;rw[Qr]at x0;exact⟨x0,by rw[Qp,x1];rfl,by rw[Qp,x2];rfl⟩
    · rw[List.length_ofFn];have:Qn=140737488351232:=rfl;omega
    · rw[List.all_eq_true];intro u hu;rw[List.mem_ofFn]at hu;obtain⟨i,rfl⟩:=hu;exact(hf i.val i.isLt).2
theorem Zxi:∀(fuel:Nat),Zvd enc W base sp hd fuel:=by
 intro fuel;induction fuel using Qq with
 | _ fuel ih=>
  intro cs x h hw;obtain⟨xs,n,rfl,hx,hlen,hxl,hf⟩:=Qk Tryz.underlying27 h;rw[Zk1]at hlen;obtain⟨c0,c1,c2,rfl⟩:=Zsm hlen;obtain⟨y0,y1,y2,rfl⟩:=Zsm (show xs.length=3 from hxl);have h0:Qh enc prog W base sp hd n 3 (Qd (prog.cellsOf 3) (Qe 0 [c0,c1,c2]))=some y0:=hf 0 _ rfl;have h1:Qh enc prog W base sp hd n 3 (Qd (prog.cellsOf 3) (Qe 1 [c0,c1,c2]))=some y1:=hf 1 _ rfl;have h2:Qh enc prog W base sp hd n 23 (Qd (prog.cellsOf 23) (Qe 2 [c0,c1,c2]))=some y2:=hf 2 _ rfl;rw[Zk0]at h0 h1;rw[Zvh]at h2;obtain⟨k,e0,_,_⟩:=Qi Tryz.underlying3 h0;obtain⟨nn,e1,_,_⟩:=Qi Tryz.underlying3 h1;obtain rfl:c0= .int .i64 k:=by simpa using e0
  obtain rfl:c1= .int .i64 nn:=by simpa using e1
  have hw2:∀q∈y2.1.weights prog 23,q≤Qn:=fun q hq=>hw q (by
   rw[hx];show q∈Qj prog 27 (.agg [y0.1,y1.1,y2.1])
   rw[Qj,Tryz.underlying27];exact DataW.weights_mem_each (j:=2) (t:=23) (d:=y2.1) rfl rfl q hq)
  obtain⟨ts,A,cap,rfl,hin,hs1,hs2⟩:=Zrl n (fun m hm=>ih m (by omega)) c2 y2 (by simpa using h2) hw2;exact⟨.node k nn ts,A,cap,rfl,hin.relabel,by rw[Zuv,decide_eq_true hs1,hs2];rfl⟩
end
theorem Z2z {H:Type}{enc:TypeId×Value→H}{W:World}{base:Nat}{sp:Nat→Bool}{hd:Bool}{r:Reach}{b0:Nat}{v:Value}{d:DataW H}{p:List Qo}(hv:Value.okWide prog W r b0 23 v)(h:DataW.Trod enc prog W base sp hd 23 v d p)
    (hw:∀n∈d.weights prog 23,n≤Qn):
    ∃(ts:List TM) (A:Option Addr) (cap:Nat),v= .slice A ts.length cap∧Ze W 0 W.heap.size ts A cap∧ts.length*40≤140737488351232∧ts.all Zd2=true:=by
  obtain⟨a,len,cap,rfl⟩:=okWide_slice Tryz.underlying23 hv;obtain⟨fuel,hf⟩:=h;obtain⟨ts,A,cap',hcs,hn,h1,h2⟩:=Zrl fuel (fun m _=>Zxi m) _ _ hf hw;exact⟨ts,A,cap',hcs,hn.imp (fun _ _ _=>rfl) (fun b hb=>⟨Nat.zero_le _,hb⟩),h1,h2⟩
