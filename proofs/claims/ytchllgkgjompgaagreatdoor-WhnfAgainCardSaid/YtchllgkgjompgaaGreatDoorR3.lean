import Derived.Test.YtchllgkgjompgaaGreatDoorR2
import Derived.Test.YtchllgkgjompgaaGreatDoorTie
import Derived.Test.YtchllgkgjompgaaGreatDoorCards
import Derived.OpenShut
import Derived.ChangeOld
import Derived.ChangeArms
import Derived.SliceStrings
import Derived.LaidMore
import Derived.Lay
import Derived.Stop.LaidErr
import Derived.Stop.Joined
import Derived.SevenTiedAt
import Derived.Deep.Slices
import Derived.Lib.LaidTab
import Derived.Lib.SmallJoins
import Derived.SizedLaws
namespace Go.Proofs.YtchllgkgjompgaaGreatDoor
open Go.ChangeShapes Go.WideShapes Go.ChangeAt Go.RowKit Go.Deep
set_option linter.unusedVariables false
set_option maxRecDepth 100000
open Go.Proofs.Tryz
theorem laidOut:laidOutB prog=true:=by kernel_rfl
theorem own:ownKnob prog.godebug=none:=by kernel_rfl
theorem cells1:prog.cellsOf 3=1:=by kernel_rfl
theorem cells23:prog.cellsOf 23=1:=by kernel_rfl
theorem cells25:prog.cellsOf 25=3:=by kernel_rfl
theorem list3 {α:Type} {l:List α} (h:l.length=3):∃a b c,l=[a,b,c]:=by
 match l,h with
 | [a,b,c],_=>exact⟨a,b,c,rfl⟩
instance:Inhabited TM:=⟨.node 0 0 []⟩
section
variable {H:Type} {enc:TypeId×Value→H} {W:World} {base:Nat} {sp:Nat→Bool} {hd:Bool}
theorem open_term:∀(fuel:Nat) (cs:List Value) (x:DataW H×List MemPlace),DataW.trod enc prog W base sp hd fuel 25 cs=some x→
  ∃(t:TM) (A:Option Addr) (cap:Nat),cs=cellsM (t,A,cap)∧TermIn W (fun b=>b<W.heap.size) t A cap:=by
 intro fuel;induction fuel using Nat.strongRecOn with
 | _ fuel ih=>
  intro cs x h;obtain⟨xs,n,rfl,_,hlen,hxl,hf⟩:=DataW.trod_struct Tryz.underlying25 h;rw[cells25]at hlen;obtain⟨c0,c1,c2,rfl⟩:=list3 hlen;obtain⟨y0,y1,y2,rfl⟩:=list3 (show xs.length=3 from hxl);have h0:DataW.trod enc prog W base sp hd n 3 (List.take (prog.cellsOf 3) (List.drop 0 [c0,c1,c2]))=some y0:=hf 0 _ rfl;have h1:DataW.trod enc prog W base sp hd n 3 (List.take (prog.cellsOf 3) (List.drop 1 [c0,c1,c2]))=some y1:=hf 1 _ rfl;have h2:DataW.trod enc prog W base sp hd n 23 (List.take (prog.cellsOf 23) (List.drop 2 [c0,c1,c2]))=some y2:=hf 2 _ rfl;rw[cells1]at h0 h1;rw[cells23]at h2;obtain⟨k,e0,_,_⟩:=DataW.trod_int Tryz.underlying3 h0;obtain⟨nn,e1,_,_⟩:=DataW.trod_int Tryz.underlying3 h1;obtain rfl:c0= .int .i64 k:=by simpa using e0
  obtain rfl:c1= .int .i64 nn:=by simpa using e1
  rcases DataW.trod_slice Tryz.underlying23 h2 with ⟨e4,_⟩|⟨ad,len,cap,elems,rest,m,rfl,e4,_,hb,hl,hm,hel,hall,_⟩
  ·obtain rfl:c2= .slice none 0 0:=by simpa using e4
   exact⟨.node k nn [],none,0,rfl,TermIn.mk k nn [] none 0 (fun _=>none) (fun _=>0) (Nat.le_refl _) (by decide) (fun h=>by simp at h) (fun i h=>by simp at h)⟩
  ·obtain rfl:c2= .slice (some ad) len cap:=by simpa using e4
   have one:∀i,i<len→∃p:TM×Option Addr×Nat,(∀r,r<3→W.cell? (ad.add (i*3+r))=(cellsM p)[r]?)∧TermIn W (fun b=>b<W.heap.size) p.1 p.2.1 p.2.2:=by
    intro i hi;have hx:=hall i hi;rw[cells25]at hx;rw[List.getElem?_eq_getElem (by omega)]at hx;obtain⟨cs',hc,ht⟩:=Option.bind_eq_some_iff.1 hx;obtain⟨_,hcl,hat⟩:=World.cells?_some hc;obtain⟨t,A,c,rfl,hn⟩:=ih m (by omega) cs' _ ht;refine⟨(t,A,c),fun r hr=> ?_,hn⟩;have:=hat r hr
    rwa [Go.Deep.add_add]at this
   obtain⟨f,hf⟩:=choose_lt (α:=TM×Option Addr×Nat) (p:=fun i p=>(∀r,r<3→W.cell? (ad.add (i*3+r))=(cellsM p)[r]?)∧TermIn W (fun b=>b<W.heap.size) p.1 p.2.1 p.2.2) one;have hlen2:(List.ofFn fun i:Fin len=>(f i.val).1).length=len:=by simp
   have hget:∀i (h:i<(List.ofFn fun i:Fin len=>(f i.val).1).length),(List.ofFn fun i:Fin len=>(f i.val).1)[i]=(f i).1:=fun i h=>by simp
   refine⟨.node k nn (List.ofFn fun i:Fin len=>(f i.val).1),some ad,cap,by show _=[_,_,Value.slice (some ad) (TM.l _).length cap];simp[TM.l,TM.k,TM.n], ?_⟩;refine TermIn.mk k nn _ (some ad) cap (fun i=>(f i).2.1) (fun i=>(f i).2.2) (by omega) hm (fun h0=> ?_) (fun i h=>by rw[hget i h];exact(hf i (by omega)).2);obtain⟨b,o,spot⟩:=ad;have hc0:=(hf 0 (by omega)).1 0 (by omega);have hspot:spot=none:=by simpa [Addr.add]using World.cell?_spot hc0
   subst hspot;refine⟨b,o,rfl, ?_,fun i h=> ?_⟩
   ·rw[Addr.add_lit]at hc0;exact World.block_lt_of_cell? W _ hc0
   ·rw[hget i h];have hx:=fun r hr=>(hf i (by omega)).1 r hr;have x0:=hx 0 (by omega);have x1:=hx 1 (by omega);have x2:=hx 2 (by omega);rw[Addr.add_lit]at x0 x1 x2;rw[Nat.add_zero]at x0;exact⟨x0,by rw[Nat.add_assoc,x1];rfl,by rw[Nat.add_assoc,x2];rfl⟩
end
section
variable {H:Type} {enc:TypeId×Value→H} {W:World} {base:Nat} {sp:Nat→Bool} {hd:Bool}
theorem two_ints {fuel:Nat} {cs:List Value} {a b:Int} {p:List MemPlace} (h:DataW.trod enc prog W base sp hd fuel 179 cs=some (.agg [.lit (.int .i64 a),.lit (.int .i64 b)],p)):cs[0]? =some (.int .i64 a)∧cs[1]? =some (.int .i64 b):=by
 have ht:prog.underlying 179=some (.array 2 3):=Tryz.underlying179;cases fuel with
 | zero=>simp[DataW.trod]at h
 | succ fuel=>
  simp only[DataW.trod,ht,cells1]at h;split at h
  ·obtain⟨xs,hx,hd1⟩:=Option.map_eq_some_iff.1 h;obtain⟨b0,hb0,hy0⟩:=Lib.mapM_at hx 0 0 (by simp);obtain⟨b1,hb1,hy1⟩:=Lib.mapM_at hx 1 1 (by simp);have hd2:=congrArg Prod.fst hd1;simp only[DataW.agg.injEq]at hd2;have e0:=congrArg (·[0]?) hd2;have e1:=congrArg (·[1]?) hd2;simp only[List.getElem?_map,hb0,hb1,Option.map_some]at e0 e1;obtain⟨z0,hc0,hz0,_⟩:=DataW.trod_int Tryz.underlying3 hy0;obtain⟨z1,hc1,hz1,_⟩:=DataW.trod_int Tryz.underlying3 hy1;rw[hz0]at e0;rw[hz1]at e1;simp at e0 e1;subst e0 e1;refine⟨?_, ?_⟩
   ·have:=congrArg (·[0]?) hc0;simpa [List.getElem?_take,List.getElem?_drop]using this
   ·have:=congrArg (·[0]?) hc1;simpa [List.getElem?_take,List.getElem?_drop]using this
  ·cases h
theorem shape_cells {fuel:Nat} {cs:List Value} {a b c d e:Int} {p:List MemPlace} (h:DataW.trod enc prog W base sp hd fuel 181 cs=some (.agg [.lit (.int .i64 a),.lit (.int .i64 b),.lit (.int .i64 c),.agg [.lit (.int .i64 d),.lit (.int .i64 e)]],p)):
  cs[0]? =some (.int .i64 a)∧cs[1]? =some (.int .i64 b)∧cs[2]? =some (.int .i64 c)∧cs[3]? =some (.int .i64 d)∧cs[4]? =some (.int .i64 e):=by
 obtain⟨xs,n,rfl,hx,_,hl,hf⟩:=DataW.trod_struct (show prog.underlying 181=_ from Tryz.underlying181) h;have c2:prog.cellsOf 179=2:=by kernel_rfl
 have hl4:xs.length=4:=hl;obtain⟨y0,y1,y2,y3,rfl⟩:∃y0 y1 y2 y3,xs=[y0,y1,y2,y3]:=by
  match xs,hl4 with
  | [a,b,c,d],_=>exact⟨a,b,c,d,rfl⟩
 have h0:DataW.trod enc prog W base sp hd n 3 (List.take (prog.cellsOf 3) (List.drop 0 cs))=some y0:=hf 0 _ rfl;have h1:DataW.trod enc prog W base sp hd n 3 (List.take (prog.cellsOf 3) (List.drop 1 cs))=some y1:=hf 1 _ rfl;have h2:DataW.trod enc prog W base sp hd n 3 (List.take (prog.cellsOf 3) (List.drop 2 cs))=some y2:=hf 2 _ rfl;have h3:DataW.trod enc prog W base sp hd n 179 (List.take (prog.cellsOf 179) (List.drop 3 cs))=some y3:=hf 3 _ rfl;rw[cells1]at h0 h1 h2;rw[c2]at h3;have hd1:=congrArg Prod.fst hx;simp only[DataW.agg.injEq,List.map_cons,List.map_nil,List.cons.injEq,and_true]at hd1;obtain⟨q0,q1,q2,q3⟩:=hd1;obtain⟨z0,hc0,hz0,_⟩:=DataW.trod_int Tryz.underlying3 h0;obtain⟨z1,hc1,hz1,_⟩:=DataW.trod_int Tryz.underlying3 h1;obtain⟨z2,hc2,hz2,_⟩:=DataW.trod_int Tryz.underlying3 h2;rw[hz0]at q0;rw[hz1]at q1;rw[hz2]at q2;simp at q0 q1 q2;subst q0 q1 q2;obtain⟨y31,y32⟩:=y3;simp only at q3;subst q3;obtain⟨g0,g1⟩:=two_ints h3;refine⟨?_, ?_, ?_, ?_, ?_⟩
 ·have:=congrArg (·[0]?) hc0;simpa [List.getElem?_take,List.getElem?_drop]using this
 ·have:=congrArg (·[0]?) hc1;simpa [List.getElem?_take,List.getElem?_drop]using this
 ·have:=congrArg (·[0]?) hc2;simpa [List.getElem?_take,List.getElem?_drop]using this
 ·simpa [List.getElem?_take,List.getElem?_drop]using g0
 ·simpa [List.getElem?_take,List.getElem?_drop]using g1
end
def shpD (z:List Int):DataW Unit:= .agg [.lit (.int .i64 (z.getD 0 0)),.lit (.int .i64 (z.getD 1 0)),.lit (.int .i64 (z.getD 2 0)),.agg [.lit (.int .i64 (z.getD 3 0)),.lit (.int .i64 (z.getD 4 0))]]
theorem gShapesM:prog.globalNamed "scholium/term.shapes" =some 0:=by kernel_rfl
theorem shapesM_data:(Rows.laid_scholium_term_shapes:DataW Unit)= .agg (shpM.map shpD):=by rfl
theorem shapesM_of {W:World} {rest:List (String×DataW Unit)} (h:laidMet prog (("scholium/term.shapes",Rows.laid_scholium_term_shapes)::rest) W):ShapesM W:=by
 obtain⟨ps,⟨g',t',cs,fuel,p,q,hg',ht',hvar,hd,_,_⟩,_⟩:=h;obtain rfl:=Option.some.inj (gShapesM.symm.trans hg');obtain rfl:=Option.some.inj ((show(prog.globals[0]?).map (·.type)=some 182 by kernel_rfl).symm.trans ht');rw[shapesM_data]at hd;have ht:prog.underlying 182=some (.array 9 181):=Tryz.underlying182;have c5:prog.cellsOf 181=5:=by kernel_rfl
 have hall:∀i j,i<9→j<5→cs.toList[i*5+j]? =some (.int .i64 (shm i j)):=by
  intro i j hi hj;cases fuel with
  | zero=>simp[DataW.trod]at hd
  | succ fuel=>
   simp only[DataW.trod,ht,c5]at hd;split at hd
   ·obtain⟨xs,hx,hd1⟩:=Option.map_eq_some_iff.1 hd;obtain⟨b,hb,hy⟩:=Lib.mapM_at hx i i (by simp[hi]);have hd2:=congrArg Prod.fst hd1;simp only[DataW.agg.injEq]at hd2;have e2:=congrArg (·[i]?) hd2;simp only[List.getElem?_map,hb,Option.map_some]at e2;have hlen:i<shpM.length:=by show i<9;exact hi
    rw[List.getElem?_eq_getElem hlen]at e2;simp only[Option.map_some,Option.some.injEq]at e2;obtain⟨b1,b2⟩:=b;simp only at e2;subst e2;obtain⟨r0,r1,r2,r3,r4⟩:=shape_cells hy;have hsm:∀q,shm i q=(shpM[i]).getD q 0:=fun q=>by
     unfold shm;rw[List.getD_eq_getElem?_getD (l:=shpM),List.getElem?_eq_getElem hlen];rfl
    have hcell:∀q,q<5→((cs.toList.drop (i*5)).take 5)[q]? =cs.toList[i*5+q]? :=fun q hq=>by
     rw[List.getElem?_take,List.getElem?_drop,if_pos hq]
    rw[←hcell j hj,hsm];have h5:j=0∨j=1∨j=2∨j=3∨j=4:=by omega
    rcases h5 with rfl|rfl|rfl|rfl|rfl
    ·exact r0
    ·exact r1
    ·exact r2
    ·exact r3
    ·exact r4
   ·cases hd
 intro i j hi hj;have h1:=hall i j hi hj;exact World.var?_cell gShapesM hvar (i*5+j)|>.trans (by rw[←Array.getElem?_toList];exact h1)
theorem term_in {H:Type} {enc:TypeId×Value→H} {W:World} {base:Nat} {sp:Nat→Bool} {hd:Bool} {r:Reach} {b0:Nat} {v:Value} {d:DataW H} {p:List MemPlace} (hv:Value.okWide prog W r b0 25 v) (h:DataW.Trod enc prog W base sp hd 25 v d p):
  ∃(t:TM) (A:Option Addr) (cap:Nat),v=termV t A cap∧IsTerm W 0 W.heap.size t A cap:=by
 obtain⟨cs,rfl,hsz⟩:=okWide_struct Tryz.underlying25 hv;obtain⟨fuel,hf⟩:=h;obtain⟨t,A,cap,hcs,hn⟩:=open_term fuel _ _ hf;refine⟨t,A,cap, ?_,hn.imp (fun _ _ _=>rfl) (fun b hb=>⟨Nat.zero_le _,hb⟩)⟩;have e:cs.toList=cellsM (t,A,cap):=hcs;have:cs=(cellsM (t,A,cap)).toArray:=by rw[←e]
 rw[this];rfl
abbrev IsTerms (w:World) (lo hi:Nat) (ts:List TM) (A:Option Addr) (cap:Nat):Prop:=IsTerm w lo hi (.node 0 0 ts) A cap
section
variable {H:Type} {enc:TypeId×Value→H} {W:World} {base:Nat} {sp:Nat→Bool} {hd:Bool}
end
end Go.Proofs.YtchllgkgjompgaaGreatDoor
