import Derived.Test.YtchllgkgjompgaaGreatDoorR3
import Derived.Test.YtchllgkgjompgaaGreatDoorR2
import Derived.Test.YtchllgkgjompgaaGreatDoorM2
import Derived.Test.YtchllgkgjompgaaGreatDoorM6
import Derived.Deep.RegionWith
import Derived.Deep.RegionHeld3
import Derived.Test.YtchllgkgjompgaaGreatDoorR1
import Derived.Test.YtchllgkgjompgaaGreatDoorSLib
import Derived.Test.YtchllgkgjompgaaGreatDoorM4
import Derived.Shelf.SlicesQ.Reverse
import Derived.Lib.OwnBridge
import Derived.Deep.RegionLaw
namespace Go.Proofs.YtchllgkgjompgaaGreatDoor
open Go.RowKit Go.Sort Go.Lib
set_option linter.unusedVariables false
set_option maxRecDepth 100000
open Lib(hid)
open Go.Proofs.Tryz
theorem lrR4{n:Nat}:n≤n:=Nat.le_refl n
def headT:TM→TM
 | .node k n l=>if k=5 then headF (.node k n l) l else .node k n l
where headF (d:TM):List TM→TM
 | []=>d
 | t::_=>headT t
def argsT:TM→List TM
 | .node k n l=>if k=5 then argsF l else[]
where argsF:List TM→List TM
 | []=>[]
 | [_]=>[]
 | t::a::_=>argsT t++[a]
theorem headT_app (n:Int) (f a:TM):headT (.node 5 n [f,a])=headT f:=by rw[headT,if_pos rfl,headT.headF]
theorem headT_not {k:Int} (n:Int) (l:List TM) (h:k≠5):headT (.node k n l)= .node k n l:=by rw[headT,if_neg h]
theorem argsT_app (n:Int) (f a:TM):argsT (.node 5 n [f,a])=argsT f++[a]:=by rw[argsT,if_pos rfl,argsT.argsF]
theorem argsT_not {k:Int} (n:Int) (l:List TM) (h:k≠5):argsT (.node k n l)=[]:=by rw[argsT,if_neg h]
def applyT (t:TM) (xs:List TM):TM:=xs.foldl (fun f a=> .node 5 0 [f,a]) t
theorem applyT_take {xs:List TM} {i:Nat} (t:TM) (h:i<xs.length):applyT t (xs.take (i+1))= .node 5 0 [applyT t (xs.take i),xs[i]]:=by
 unfold applyT;rw[take_snocM h,List.foldl_append];rfl
theorem app_parts {n:Int} {l:List TM} (h:tgoodB (.node 5 n l)=true):∃f a,l=[f,a]∧n=0∧tgoodB f=true∧tgoodB a=true:=by
 rw[tgoodB_node,Bool.and_eq_true]at h;obtain⟨_,_,h3,h4,h5,_⟩:=ttop_facts h.1;unfold manyM at h3;unfold mostM at h5;simp at h3 h5;obtain⟨f,a,rfl⟩:∃f a,l=[f,a]:=by
  match l,h3 with
  | [f,a],_=>exact⟨f,a,rfl⟩
 have hh:=h.2;rw[tgoodL_all]at hh;simp at hh;exact⟨f,a,rfl,by omega,hh.1,hh.2⟩
theorem args_depth:∀(t:TM),tgoodB t=true→(argsT t).length≤t.depth:=by
 intro t;induction t using TM.ind with
 | h k n l ih=>
  intro h;by_cases hk:k=5
  ·subst hk;obtain⟨f,a,rfl,rfl,hf,ha⟩:=app_parts h;have:=ih f List.mem_cons_self hf;rw[argsT_app,tdepth_node,depthM_cons,List.length_append];simp;omega
  ·rw[argsT_not n l hk];simp
theorem TermIn.unique {w:World} {P:Nat→Prop} {t:TM} {A:Option Addr} {cap:Nat} (h:TermIn w P t A cap):∀{P':Nat→Prop} {t':TM} {cap':Nat},TermIn w P' t' A cap'→t'.k=t.k→t'.n=t.n→t'.l.length=t.l.length→t'=t:=by
 induction h with
 | mk k n l A cap F C hl hm hc hn ih=>
  intro P' t' cap' h' e1 e2 e3;cases h' with
  | mk k' n' l' _ _ F' C' hl' hm' hc' hn'=>
   simp only[TM.k,TM.n,TM.l]at e1 e2 e3;subst e1 e2;congr 1
   refine List.ext_getElem e3 fun i h1 h2=> ?_;obtain⟨b,o,hA,_,hx⟩:=hc (by omega);obtain⟨b',o',hA',_,hx'⟩:=hc' (by omega);rw[hA]at hA';obtain⟨rfl,rfl⟩:b=b'∧o=o':=by
    injection hA' with hA';injection hA' with q1 q2;exact⟨q1,q2⟩
   obtain⟨x0,x1,x2⟩:=hx i h2;obtain⟨y0,y1,y2⟩:=hx' i h1;rw[x0]at y0;rw[x1]at y1;rw[x2]at y2;have hk:l[i].k=l'[i].k:=by injection y0 with q;injection q with q
   have hq:l[i].n=l'[i].n:=by injection y1 with q;injection q with q
   have h3:F i=F' i∧l[i].l.length=l'[i].l.length:=by injection y2 with q;injection q with q1 q2 q3;exact⟨q1,q2⟩
   have hh:=hn' i h1;rw[←h3.1]at hh;exact ih i h2 hh hk.symm hq.symm h3.2.symm
theorem applied_any (k n:Int) (l:List TM) (lo hi:Nat) (A:Option Addr) (cap:Nat) (w:World) (h:IsTerm w lo hi (.node k n l) A cap) (hhi:hi≤w.heap.size) (hS:ShapesM w) (hg:tgoodB (.node k n l)=true):
  Calls prog 110 #[.agg #[.int .i64 k,.int .i64 n,.slice A l.length cap]] w fun e w'=>e= .returned (.bool (k==5))∧Below w.heap.size w w':=by
 have HW1:=hid (fun o1=>((Below.refl w.heap.size w).alloc lrR4 o1));have ht:ttopB k n l=true:=by rw[tgoodB_node,Bool.and_eq_true]at hg;exact hg.1
 have CF:=hid (fun V (hV:Below w.heap.size w V)=>(formed_any k n l lo hi A cap V (h.kept hV hhi) (by have:=hV.size;omega) (hS.kept hV)).mono fun e w' h=>And.intro (h.1.trans (by rw[ht])) h.2);clear h hS hg ht;by_cases hk:k=5
 ·have e1:(k==5)=true:=by rw[hk];rfl
  rw[e1];clear hk;go_enter func110,ntmps110;go_wp2_with fail;refine(CF.out _ (HW1.out _)).mono ?_;rintro e w1 ⟨rfl,hb1⟩;go_wp2_with fail;go_ret;exact⟨rfl,(HW1.out _).trans (hb1.mono (by simp))⟩
 ·have e1:(k==5)=false:=by simpa using hk
  rw[e1];clear hk;go_enter func110,ntmps110;go_wp2_with fail;go_ret;exact⟨rfl,HW1.out _⟩
theorem Bk.same {w:World} {g:Nat} {e e':TypeId} {cs cs':Array Value} (h:Bk w g e cs) (h':Bk w g e' cs'):cs=cs':=by
 have h1:w.heap[g]? =_:=h;have h2:w.heap[g]? =_:=h';rw[h1]at h2;injection h2 with h2;injection h2
theorem box_term {w:World} {g lo hi:Nat} {u v:TM} {A B:Option Addr} {c d:Nat} (h1:Bk w g 25 #[.int .i64 u.k,.int .i64 u.n,.slice A u.l.length c]) (h2:IsTerm w lo hi u A c)
    (h3:Bk w g 25 #[.int .i64 v.k,.int .i64 v.n,.slice B v.l.length d]) (h4:IsTerm w lo hi v B d):v=u:=by
  have e:=congrArg Array.toList (h1.same h3);simp only[List.cons.injEq,Value.int.injEq,Value.slice.injEq,true_and,and_true]at e;obtain⟨e1,e2,e3,e4,e5⟩:=e;subst e3;exact TermIn.unique h2 h4 e1.symm e2.symm e4.symm
theorem rowS_cells {w:World} {base:Nat} {a:Option Addr} {c:Nat} {ps:List (TM×Option Addr×Nat)} {P:Nat→Prop} (h:TermRow w base 25 (.slice a ps.length c) ps P) (h0:0<ps.length):
  ∃g,a=some ⟨g,0,none⟩∧base≤g∧g<w.heap.size∧ ¬ P g∧∀j r (hj:j<ps.length),r<3→w.cell? ⟨g,j*3+r,none⟩=(cellsM ps[j])[r]? :=by
 obtain⟨g,c',hv,_,_⟩:=h.row.form h0;injection hv with hv _ _;subst hv;have hb:=h.row.lt g rfl;refine⟨g,rfl,hb.1,hb.2,fun hp=>(h.far g hp).2 rfl,fun j r hj hr=> ?_⟩;exact(h.row.cellAt (j*3+r) (by omega)).trans (flatM_at ps j r hj hr)
theorem cellsM_len (p:TM×Option Addr×Nat):(cellsM p).length=3:=rfl
theorem rowS_holds {w:World} {base:Nat} {a:Option Addr} {c:Nat} {ps:List (TM×Option Addr×Nat)} {P:Nat→Prop} (h:TermRow w base 25 (.slice a ps.length c) ps P) {g:Nat} (ha:a=some ⟨g,0,none⟩)
    (hc:∀j r (hj:j<ps.length),r<3→w.cell? ⟨g,j*3+r,none⟩=(cellsM ps[j])[r]?):HoldsK cellsM 3 w g 0 ps.toArray:=by
  intro t ht;rw[size_flatK]at ht;have ht2:t<ps.length*3:=by simpa using ht
  have hj:t/3<ps.length:=by omega
  rw[get_flatK _ _ _ _ ht,Nat.zero_add];have h1:=hc (t/3) (t % 3) hj (by omega);have e:t/3*3+t % 3=t:=by omega
  rw[e]at h1;refine⟨?_,own_cold h.row g (by rw[ha];rfl) t⟩;rw[h1];have h2:t % 3<(cellsM ps[t/3]).length:=by rw[cellsM_len];omega
  rw[List.getElem?_eq_getElem h2,getElem!_pos ps.toArray (t/3) (by simpa using hj)];simp only[List.getElem_toArray,id];rw[getElem!_pos (cellsM ps[t/3]) (t % 3) h2]
def RowT (w:World) (P:Nat→Prop) (ts:List TM) (A:Option Addr) (d:Nat):Prop:=
 ∃(F:Nat→Option Addr) (C:Nat→Nat),ts.length≤d∧d≤maxLen∧(0<ts.length→∃b,A=some ⟨b,0,none⟩∧b<w.heap.size∧ ¬ P b∧(∀j,j<ts.length*3→w.frozen? ⟨b,j,none⟩=false)∧∀i (h:i<ts.length),Cells3 w b (0+i*3) ts[i] (F i) (C i))∧
  ∀i (h:i<ts.length),TermIn w (fun b=>P b∧b<w.heap.size) ts[i] (F i) (C i)
theorem RowT.list {w:World} {P:Nat→Prop} {ts:List TM} {A:Option Addr} {d:Nat} (h:RowT w P ts A d):TermIn w (fun b=>(P b∨A=some ⟨b,0,none⟩)∧b<w.heap.size) (.node 0 0 ts) A d:=by
 obtain⟨F,C,h1,h2,h3,h4⟩:=h;refine TermIn.mk 0 0 ts A d F C h1 h2 (fun h0=> ?_) (fun i hi=>(h4 i hi).imp (fun _ _ _=>rfl) (fun b hb=>⟨.inl hb.1,hb.2⟩));obtain⟨b,hA,hb, -, -,hc⟩:=h3 h0;exact⟨b,0,hA,⟨.inr hA,hb⟩,hc⟩
theorem revT_any {w:World} {base:Nat} {a:Option Addr} {c:Nat} {ps:List (TM×Option Addr×Nat)} {P:Nat→Prop} (h:TermRow w base 25 (.slice a ps.length c) ps P) (hb:base≤w.heap.size) (hl:ps.length≤8192):
  Calls prog 111 #[.slice a ps.length c] w fun e w'=>e= .returned (.tuple #[])∧RowT w' P (ps.map (·.1)).reverse a c∧Below base w w':=by
 obtain⟨b1,b2⟩:=(h.parent (lo:=0) (Nat.zero_le _) (fun _ _=>Nat.zero_le _) 0 0).bounds;rw[List.length_map]at b1;by_cases h0:ps.length=0
 ·obtain rfl:=List.eq_nil_of_length_eq_zero h0;refine(AnyQ.slices_Reverse_empty Tryz.laysReverse a c w).mono ?_;rintro e w' ⟨rfl,rfl⟩;exact⟨rfl,⟨fun _=>none,fun _=>0,by simp,b2,fun h=>by simp at h,fun i h=>by simp at h⟩,Below.refl _ _⟩
 ·obtain⟨g,ha,g1,g2,g3,g4⟩:=rowS_cells h (by omega);have hH:=rowS_holds h ha g4;subst ha;have hsz:ps.toArray.size=ps.length:=by simp
  have hr:=AnyQ.slices_Reverse Tryz.laysReverse 3 (fun w=>Tryz.isAgg25 w) (fun w=>Tryz.sizeOf25 w) cellsM cellsM_len cellsM_one g 0 c ps.toArray w hH (by omega);rw[hsz]at hr;refine hr.mono ?_;rintro e w' ⟨rfl,q,rfl⟩;have hH2:HoldsK cellsM 3 (putRowK cellsM 3 (Sort.ahead w q) g 0 ps.toArray.reverse) g 0 ps.toArray.reverse:=holdsK_putRowK (enc:=cellsM) (k:=3) (w:=Sort.ahead w q) (blk:=g) (off:=0) (d0:=ps.toArray) (d:=ps.toArray.reverse) (h0:=holdsK_ahead (enc:=cellsM) (k:=3) (w:=w) (n:=q) (blk:=g) (off:=0) (d:=ps.toArray) (h:=hH)) (hs:=by simp);have hsz2:(putRowK cellsM 3 (Sort.ahead w q) g 0 ps.toArray.reverse).heap.size=w.heap.size:=by simp[putRowK,putRow,mapBlock,Sort.ahead]
  have hoth:∀b o,b≠g→(putRowK cellsM 3 (Sort.ahead w q) g 0 ps.toArray.reverse).cell? ⟨b,o,none⟩=w.cell? ⟨b,o,none⟩:=fun b o hb=>cell?_putRowK_other (enc:=cellsM) (k:=3) (w:=Sort.ahead w q) (blk:=g) (off:=0) (d:=ps.toArray.reverse) (a:=⟨b,o,none⟩) (h:=hb);refine⟨rfl, ?_,Lib.below_putRow (enc:=id) (Below.refl base w) g1⟩;obtain⟨W,hW⟩:∃W,putRowK cellsM 3 (Sort.ahead w q) g 0 ps.toArray.reverse=W:=⟨_,rfl⟩;rw[hW]at hH2 hsz2 hoth⊢;have hrl:(ps.map (·.1)).reverse.length=ps.length:=by simp
  have hget:∀i (hi:i<ps.length),(ps.map (·.1)).reverse[i]'(by rw[hrl];exact hi)=(ps[ps.length - 1 - i]'(by omega)).1:=fun i hi=>by
   rw[List.getElem_reverse,List.getElem_map];simp
  refine⟨fun i=>(ps[ps.length - 1 - i]?.map fun p=>p.2.1).getD none,fun i=>(ps[ps.length - 1 - i]?.map fun p=>p.2.2).getD 0,by rw[hrl];exact b1,b2,fun _=>⟨g,rfl,by omega,g3,fun j hj=> ?_,fun i hi=> ?_⟩,fun i hi=> ?_⟩
  ·have h1:=(hH2 j (by rw[size_flatK];rw[hrl]at hj;simpa using hj)).2
   rwa [Nat.zero_add]at h1
  ·have hi':i<ps.length:=by rw[hrl]at hi;exact hi
   have hx:∀r,r<3→W.cell? ⟨g,i*3+r,none⟩=(cellsM (ps[ps.length - 1 - i]'(by omega)))[r]? :=fun r hr=>by
    have ht:i*3+r<ps.toArray.reverse.size*3:=by simp;omega
    have h1:=(hH2 (i*3+r) (by rw[size_flatK];exact ht)).1;rw[get_flatK _ _ _ _ ht,Nat.zero_add]at h1;have e1:(i*3+r)/3=i:=by omega
    have e2:(i*3+r) % 3=r:=by omega
    rw[e1,e2,getElem!_pos ps.toArray.reverse i (by simpa using hi')]at h1;rw[h1];have h2:r<(cellsM (ps[ps.length - 1 - i]'(by omega))).length:=by rw[cellsM_len];exact hr
    rw[List.getElem?_eq_getElem h2];simp only[Array.getElem_reverse,List.getElem_toArray,id,List.size_toArray];rw[getElem!_pos _ r h2]
   rw[hget i hi'];dsimp only
   rw[List.getElem?_eq_getElem (show ps.length - 1 - i<ps.length by omega)];have x0:=hx 0 (by omega);rw[Nat.add_zero]at x0;exact⟨by rw[Nat.zero_add,x0];rfl,by rw[Nat.zero_add,hx 1 (by omega)];rfl,by rw[Nat.zero_add,hx 2 (by omega)];rfl⟩
  ·have hi':i<ps.length:=by rw[hrl]at hi;exact hi
   rw[hget i hi'];dsimp only
   rw[List.getElem?_eq_getElem (show ps.length - 1 - i<ps.length by omega)];exact(h.node _ (List.getElem_mem _)).imp (fun b o hq=>hoth b o (fun e=>g3 (e ▸ hq))) (fun b hq=>⟨hq,by have:=(h.far b hq).1;omega⟩)
theorem rev_any {w:World} {base:Nat} {a:Option Addr} {c:Nat} {ps:List (TM×Option Addr×Nat)} {P:Nat→Prop} (h:TermRow w base 25 (.slice a ps.length c) ps P) (hb:base≤w.heap.size) (hl:ps.length≤8192):
    Calls prog 111 #[.slice a ps.length c] w fun e w'=>e= .returned (.tuple #[])∧TermIn w' (fun b=>(P b∨a=some ⟨b,0,none⟩)∧b<w'.heap.size) (.node 0 0 (ps.map (·.1)).reverse) a c∧Below base w w':=
  (revT_any h hb hl).mono fun _ _ h=>⟨h.1,h.2.1.list,h.2.2⟩
theorem TermIn.isT {w:World} {Q:Nat→Prop} {B:Nat} {t:TM} {A:Option Addr} {cap:Nat} (h:TermIn w Q t A cap) (hQ:∀b,Q b→b<B):IsTerm w 0 B t A cap:=h.imp (fun _ _ _=>rfl) (fun b hb=>⟨Nat.zero_le _,hQ b hb⟩)
theorem TermIn.keptQ {w w':World} {Q:Nat→Prop} {B:Nat} {t:TM} {A:Option Addr} {cap:Nat} (h:TermIn w Q t A cap) (hb:Below B w w') (hQ:∀b,Q b→b<B):TermIn w' Q t A cap:=h.imp (fun b o hq=>hb.cell (p:=⟨b,o,none⟩) (hQ b hq)) (fun _ h=>h)
theorem box_termQ {w:World} {g:Nat} {Q:Nat→Prop} {u v:TM} {A B:Option Addr} {c d:Nat} (h1:Bk w g 25 #[.int .i64 u.k,.int .i64 u.n,.slice A u.l.length c]) (h2:TermIn w Q u A c)
    (h3:Bk w g 25 #[.int .i64 v.k,.int .i64 v.n,.slice B v.l.length d]) (h4:TermIn w Q v B d):v=u:=by
  have e:=congrArg Array.toList (h1.same h3);simp only[List.cons.injEq,Value.int.injEq,Value.slice.injEq,true_and,and_true]at e;obtain⟨e1,e2,e3,e4,e5⟩:=e;subst e3;exact TermIn.unique h2 h4 e1.symm e2.symm e4.symm
def SpineRel (t:TM) (w:World) (Q:Nat→Prop) (sv:Value) (wr:World):Prop:=
 ∃(u:TM) (A:Option Addr) (c:Nat) (a3:Option Addr) (c3:Nat) (ps:List (TM×Option Addr×Nat)),sv= .slice a3 ps.length c3∧Below w.heap.size w wr∧Bk wr w.heap.size 25 #[.int .i64 u.k,.int .i64 u.n,.slice A u.l.length c]∧Bk wr (w.heap.size+1) 25 #[.int .i64 0,.int .i64 0,.slice none 0 0]∧
  TermRow wr (w.heap.size+2) 25 (.slice a3 ps.length c3) ps Q∧TermIn wr Q u A c∧tgoodB u=true∧headT u=headT t∧argsT t=argsT u++(ps.map (·.1)).reverse
def GivesSp (t:TM) (w:World) (e:Ending) (w':World):Prop:=
 ∃A c B d,e= .returned (.tuple #[termV (headT t) A c,.slice B (argsT t).length d])∧IsTerm w' 0 w'.heap.size (headT t) A c∧IsTerms w' 0 w'.heap.size (argsT t) B d∧Below w.heap.size w w'
def GivesSpP (lo hi:Nat) (t:TM) (w:World) (e:Ending) (w':World):Prop:=
 ∃A c B d,e= .returned (.tuple #[termV (headT t) A c,.slice B (argsT t).length d])∧IsTerm w' 0 w'.heap.size (headT t) A c∧TermIn w' (fun b=>((lo≤b∧b<hi)∨w.heap.size≤b)∧b<w'.heap.size) (.node 0 0 (argsT t)) B d∧Below w.heap.size w w'
def GivesSpQ (Q:Nat→Prop) (t:TM) (w:World) (e:Ending) (w':World):Prop:=
 ∃A c B d,e= .returned (.tuple #[termV (headT t) A c,.slice B (argsT t).length d])∧IsTerm w' 0 w'.heap.size (headT t) A c∧RowT w' Q (argsT t) B d∧(∀b,B=some ⟨b,0,none⟩→w.heap.size≤b)∧TermIn w' Q (headT t) A c∧Below w.heap.size w w'
def GivesSpR (lo hi:Nat) (t:TM) (w:World) (e:Ending) (w':World):Prop:=
 ∃A c B d,e= .returned (.tuple #[termV (headT t) A c,.slice B (argsT t).length d])∧IsTerm w' 0 w'.heap.size (headT t) A c∧RowT w' (fun b=>lo≤b∧b<hi) (argsT t) B d∧(∀b,B=some ⟨b,0,none⟩→w.heap.size≤b)∧IsTerm w' lo hi (headT t) A c∧Below w.heap.size w w'
theorem GivesSpR.part {lo hi:Nat} {t:TM} {w w':World} {e:Ending} (h:GivesSpR lo hi t w e w'):GivesSpP lo hi t w e w':=by
 obtain⟨A,c,B,d,h1,h2,h3,h4,_,h5⟩:=h;exact⟨A,c,B,d,h1,h2,h3.list.imp (fun _ _ _=>rfl) (fun b hb=>⟨hb.1.elim .inl (fun e=> .inr (h4 b e)),hb.2⟩),h5⟩
theorem GivesSpP.plain {lo hi:Nat} {t:TM} {w w':World} {e:Ending} (h:GivesSpP lo hi t w e w'):GivesSp t w e w':=by
 obtain⟨A,c,B,d,h1,h2,h3,h4⟩:=h;exact⟨A,c,B,d,h1,h2,h3.imp (fun _ _ _=>rfl) (fun b hb=>⟨Nat.zero_le _,hb.2⟩),h4⟩
theorem RowT.three {w:World} {P:Nat→Prop} {ts:List TM} {A:Option Addr} {d g:Nat} (h:RowT w P ts A d) (hg:g<w.heap.size) (hP: ¬ P g) (hA:∀b,A=some ⟨b,0,none⟩→b≠g) (u0 u1 u2:Value):RowT (((w.setCell ⟨g,0,none⟩ u0).setCell ⟨g,1,none⟩ u1).setCell ⟨g,2,none⟩ u2) P ts A d:=by
 obtain⟨F,C,h1,h2,h3,h4⟩:=h;have hz:(((w.setCell ⟨g,0,none⟩ u0).setCell ⟨g,1,none⟩ u1).setCell ⟨g,2,none⟩ u2).heap.size=w.heap.size:=size_three _ _ _ _ _;have hne:∀b o q,b≠g→(⟨g,q,none⟩:Addr)≠⟨b,o,none⟩:=fun b o q hb e=>by injection e with e1;exact hb e1.symm
 have hc:∀b o,b≠g→(((w.setCell ⟨g,0,none⟩ u0).setCell ⟨g,1,none⟩ u1).setCell ⟨g,2,none⟩ u2).cell? ⟨b,o,none⟩=w.cell? ⟨b,o,none⟩:=fun b o hb=>by
  rw[World.cell?_setCell_other _ _ _ _ (hne b o 2 hb),World.cell?_setCell_other _ _ _ _ (hne b o 1 hb),World.cell?_setCell_other _ _ _ _ (hne b o 0 hb)]
 have hf:∀b o,b≠g→(((w.setCell ⟨g,0,none⟩ u0).setCell ⟨g,1,none⟩ u1).setCell ⟨g,2,none⟩ u2).frozen? ⟨b,o,none⟩=w.frozen? ⟨b,o,none⟩:=fun b o hb=>by
  unfold World.frozen?;rw[Below.heap_setCell _ ⟨g,2,none⟩ u2 b (fun e=>hb e),Below.heap_setCell _ ⟨g,1,none⟩ u1 b (fun e=>hb e),Below.heap_setCell _ ⟨g,0,none⟩ u0 b (fun e=>hb e)]
 refine⟨F,C,h1,h2,fun h0=> ?_,fun i hi=>(h4 i hi).imp (fun b o hb=>hc b o (fun e=>hP (e ▸ hb.1))) (fun b hb=>⟨hb.1,by rw[hz];exact hb.2⟩)⟩;obtain⟨b,hA',hb,hnp,hfr,hcc⟩:=h3 h0;have hbg:=hA b hA';refine⟨b,hA',by rw[hz];exact hb,hnp,fun j hj=>by rw[hf b j hbg];exact hfr j hj,fun i hi=> ?_⟩;obtain⟨c0,c1,c2⟩:=hcc i hi;exact⟨by rw[hc _ _ hbg];exact c0,by rw[hc _ _ hbg];exact c1,by rw[hc _ _ hbg];exact c2⟩
theorem RowT.kept {w w':World} {P:Nat→Prop} {ts:List TM} {A:Option Addr} {d:Nat} (h:RowT w P ts A d) (hz:w.heap.size≤w'.heap.size) (hk:∀b,(P b∨A=some ⟨b,0,none⟩)→b<w.heap.size→(∀o,w'.cell? ⟨b,o,none⟩=w.cell? ⟨b,o,none⟩)∧(∀o,w'.frozen? ⟨b,o,none⟩=w.frozen? ⟨b,o,none⟩)):RowT w' P ts A d:=by
 obtain⟨F,C,h1,h2,h3,h4⟩:=h;refine⟨F,C,h1,h2,fun h0=> ?_,fun i hi=>(h4 i hi).imp (fun b o hb=>(hk b (.inl hb.1) hb.2).1 o) (fun b hb=>⟨hb.1,Nat.lt_of_lt_of_le hb.2 hz⟩)⟩;obtain⟨b,hA',hb,hnp,hfr,hcc⟩:=h3 h0;obtain⟨k1,k2⟩:=hk b (.inr hA') hb;refine⟨b,hA',Nat.lt_of_lt_of_le hb hz,hnp,fun j hj=>by rw[k2];exact hfr j hj,fun i hi=> ?_⟩;obtain⟨c0,c1,c2⟩:=hcc i hi;exact⟨by rw[k1];exact c0,by rw[k1];exact c1,by rw[k1];exact c2⟩
theorem RowT.below {w w':World} {P:Nat→Prop} {ts:List TM} {A:Option Addr} {d:Nat} (h:RowT w P ts A d) (hw:Below w.heap.size w w'):RowT w' P ts A d:=
 h.kept hw.size (fun b _ hb=>⟨fun o=>hw.cell (p:=⟨b,o,none⟩) hb,fun o=>by unfold World.frozen?;rw[hw.block b hb]⟩)
theorem RowT.five {w:World} {P:Nat→Prop} {ts:List TM} {A:Option Addr} {d g:Nat} (h:RowT w P ts A d) (hP: ¬ P g) (hA:∀b,A=some ⟨b,0,none⟩→b≠g) (u0 u1 u2 u3 u4:Value):RowT (((((w.setCell ⟨g,0,none⟩ u0).setCell ⟨g,1,none⟩ u1).setCell ⟨g,2,none⟩ u2).setCell ⟨g,3,none⟩ u3).setCell ⟨g,4,none⟩ u4).drew P ts A d:=by
 have hone:∀(V:World) (q:Nat) (u:Value),RowT V P ts A d→RowT (V.setCell ⟨g,q,none⟩ u) P ts A d:=fun V q u hv=>hv.kept (by simp[World.setCell]) (fun b hb _=>by
  have hbg:b≠g:=fun e=>by
   rcases hb with hb|hb
   ·exact hP (e ▸ hb)
   ·exact hA b hb e
  refine⟨fun o=>World.cell?_setCell_other _ _ _ _ (fun e=>by injection e with e1;exact hbg e1.symm),fun o=> ?_⟩;unfold World.frozen?;rw[Below.heap_setCell V ⟨g,q,none⟩ u b (fun e=>hbg e)])
 have h5:=hone _ 4 u4 (hone _ 3 u3 (hone _ 2 u2 (hone _ 1 u1 (hone w 0 u0 h))));obtain⟨W,hW⟩:∃W,((((w.setCell ⟨g,0,none⟩ u0).setCell ⟨g,1,none⟩ u1).setCell ⟨g,2,none⟩ u2).setCell ⟨g,3,none⟩ u3).setCell ⟨g,4,none⟩ u4=W:=⟨_,rfl⟩;rw[hW]at h5⊢;exact h5.kept (w':=W.drew) lrR4 (fun b _ _=>⟨fun o=>rfl,fun o=>rfl⟩)
set_option maxHeartbeats 4000000 in
theorem spineQ_any (t:TM) (Q:Nat→Prop) (A:Option Addr) (cap:Nat) (w:World) (h:TermIn w Q t A cap) (hhi:∀b,Q b→b<w.heap.size) (hS:ShapesM w) (hg:tgoodB t=true) (hsz:t.size≤8192) (hdp:t.depth≤1000):
    Calls prog 78 #[termV t A cap] w (GivesSpQ Q t w):=by
  obtain⟨i0,hi0,hz0,hz1,hz2⟩:=info_parts infoM;have hc:topN t.size≤8192:=by unfold topN;omega
  have HC:=hid (fun V (hV:Below w.heap.size w V)=>tsize_any t 0 w.heap.size A cap V ((h.isT hhi).kept hV lrR4) hV.size);have hcd:decide ((8192:Int)<((topN t.size:Nat):Int))=false:=by simp;omega
  have HT:=hid h;have HG:=hid hg;have HHI:=hid hhi;have HS:=hid hS;have HLN:=hid (Nat.le_trans (args_depth t hg) hdp);clear h hg hhi hS hsz hdp hc;unfold termV;unfold termV at HC;have HWA:=hid (fun o1 o2=>((Below.refl w.heap.size w).alloc lrR4 o1).alloc (by simp) o2);go_enter func78,ntmps78;go_wp2_with fail;refine(HC.out _ (HWA.out _ _)).mono ?_;rintro e w1 ⟨rfl,hb1⟩;have hB1:=(HWA.out _ _).trans (hb1.mono (by simp;omega));have HB1:=hid hB1;have HK1:=hid (show Bk w1 w.heap.size 25 #[.int .i64 t.k,.int .i64 t.n,.slice A t.l.length cap]from((Bk.new w 25 _).alloc _).below hb1 (by simp;omega));have HK2:=hid (show Bk w1 (w.heap.size+1) 25 #[.int .i64 0,.int .i64 0,.slice none 0 0]from(Bk.last (w.alloc (.cells #[.int .i64 t.k,.int .i64 t.n,.slice A t.l.length cap] 25)) 25 _ (by simp)).below hb1 (by simp));have HZ1:=hid (show w.heap.size+2≤w1.heap.size from by have:=hb1.size;simp at this;omega);clear HWA HC hB1 hb1;go_wp2_with fail;go_loopw [4] (SpineRel t w Q) (fun _ wr=>(@Classical.epsilon TM ⟨.node 0 0 []⟩ (fun u=>∃A c,Bk wr w.heap.size 25 #[.int .i64 u.k,.int .i64 u.n,.slice A u.l.length c]∧TermIn wr Q u A c)).depth)
  case atStart=>
    have hh:=HHI.out;have hz:=HZ1.out;exact⟨t,A,cap,none,0,[],rfl,HB1.out,HK1.out,HK2.out,⟨World.ownsRow_nil _ _ _ _,fun b hb=>⟨by have:=hh b hb;omega,by simp[Value.ownBlock]⟩,fun _ h=>by cases h⟩,HT.out.keptQ HB1.out hh,HG.out,rfl,by simp⟩
  case round=>
    obtain⟨u,A1,c1,a3,c3,ps,rfl,hB,b1,b2,hrow,hu,hgu,hhd,har⟩:=hrel;have hz:=hB.size;have HB1:=hid b1;have HB2:=hid b2;have HU:=hid hu;have HBB:=hid hB;have HHD:=hid hhd;have HAR:=hid har;have HROW:=hid hrow;have hlt2:=b2.lt;obtain⟨k,n,l⟩:=u;have CAP:=hid (fun V (hV:Below wr.heap.size wr V)=>applied_any k n l 0 w.heap.size A1 c1 V ((hu.isT HHI.out).kept hV hz) (by have:=hV.size;omega) ((HS.out.kept hB).kept hV) hgu);have hdep:∀(wr':World) (v:TM) (B:Option Addr) (d:Nat),Bk wr' w.heap.size 25 #[.int .i64 v.k,.int .i64 v.n,.slice B v.l.length d]→TermIn wr' Q v B d→
        (@Classical.epsilon TM ⟨.node 0 0 []⟩ (fun u=>∃A c,Bk wr' w.heap.size 25 #[.int .i64 u.k,.int .i64 u.n,.slice A u.l.length c]∧TermIn wr' Q u A c))=v:=fun wr' v B d h1 h2=>by
      obtain⟨A',c',q1,q2⟩:=Classical.epsilon_spec (p:=fun u=>∃A c,Bk wr' w.heap.size 25 #[.int .i64 u.k,.int .i64 u.n,.slice A u.l.length c]∧TermIn wr' Q u A c) ⟨v,B,d,h1,h2⟩;exact box_termQ h1 h2 q1 q2
    have HDEP:=hid hdep;obtain⟨y0,y1,y2,yl⟩:=(TBox.of b1:TBox wr w.heap.size k n (.slice A1 l.length c1));clear b1 b2 hu hhd har hdep hrow;by_cases hk:k=5
    · subst hk;obtain⟨f,a,rfl,rfl,hf,ha⟩:=app_parts hgu;obtain⟨bk,o,F,C,hA,hb1,hx,hnode⟩:=TermIn.at_ HU.out 0 (by simp);obtain⟨bk2,o2,G,D,hA2,_,hy,hnode2⟩:=TermIn.at_ HU.out 1 (by simp);subst hA;obtain⟨rfl,rfl⟩:bk=bk2∧o=o2:=by
        injection hA2 with q;injection q with q1 q2;exact⟨q1,q2⟩
      simp only[List.getElem_cons_zero,List.getElem_cons_succ,Nat.zero_mul,Nat.add_zero,Nat.one_mul]at hx hy hnode hnode2;have HX:=hid hx;have HY:=hid hy;have HF:=hid hf;have HNO:=hid hnode;have HNO2:=hid hnode2;have e1:((5:Int)==5)=true:=rfl;simp only[List.length_cons,List.length_nil,Nat.zero_add,Nat.reduceAdd]at y2 CAP;clear hx hy hnode hnode2 hgu hf ha hA2;go_wp2_with fail;refine(CAP.out _ (Below.refl _ _)).mono ?_;rintro e w2 ⟨rfl,hb2⟩;have hbk9:bk<w.heap.size:=HHI.out bk hb1;have hbw:bk<wr.heap.size:=by omega
      have hbw2:bk<w2.heap.size:=by have:=hb2.size;omega
      have K1:=HB1.out.below hb2 (by omega);have HK:=hid K1;have HK2':=hid (HB2.out.below hb2 (by omega));have HBW:=hid (HBB.out.trans (hb2.mono hz));have HROW2:=hid (show TermRow w2 (w.heap.size+2) 25 (.slice a3 ps.length c3) ps Q from HROW.out.below hb2);have HNOA:=hid (HNO.out.keptQ hb2 (fun b hb=>by have:=HHI.out b hb;omega));have HNOB:=hid (HNO2.out.keptQ hb2 (fun b hb=>by have:=HHI.out b hb;omega));obtain⟨x0,x1,x2⟩:=HX.out.kept hb2 hbw;obtain⟨z0,z1,z2⟩:=HY.out.kept hb2 hbw;have HZA:=hid (And.intro x0 (And.intro x1 (And.intro x2 (And.intro z0 (And.intro z1 z2)))));have d0:w2.cell? ⟨w.heap.size,0,none⟩=some (.int .i64 5):=K1.cell 0;have d1:w2.cell? ⟨w.heap.size,1,none⟩=some (.int .i64 0):=K1.cell 1;have d2:w2.cell? ⟨w.heap.size,2,none⟩=some (.slice (some ⟨bk,o,none⟩) 2 c1):=K1.cell 2;have HXX:=hid (And.intro hbw2 (And.intro x0 (And.intro x1 (And.intro x2 HK2'.out))));have hpl:ps.length≤1000:=by
        have h1:=congrArg List.length HAR.out;rw[List.length_append,List.length_reverse,List.length_map]at h1;have h2:=HLN.out;omega
      have hz5:=hb2.size;have HH2:=hid (show headT f=headT t by rw[←HHD.out,headT_app]);have HA2:=hid (show argsT t=argsT f++((ps++[(a,G,D)]).map (·.1)).reverse by rw[HAR.out,argsT_app];simp);have HLESS:=hid (show f.depth<(TM.node 5 0 [f,a]).depth by rw[tdepth_node,depthM_cons];omega);have HU0:=hid (HDEP.out wr (.node 5 0 [f,a]) _ c1 HB1.out HU.out);have HFIN:Hid (∀(v4:Value) (w4:World),AppTo (w2.alloc (.cells #[.int .i64 a.k,.int .i64 a.n,.slice G a.l.length D] 25)) (w.heap.size+2) 25 3 (.slice a3 ps.length c3) (ps.length+1) (flatM ps++cellsM (a,G,D)) v4 w4→
          ∃a4 c4,v4= .slice a4 (ps++[(a,G,D)]).length c4∧Bk w4 w.heap.size 25 #[.int .i64 5,.int .i64 0,.slice (some ⟨bk,o,none⟩) 2 c1]∧
          (w4.cell? ⟨bk,o,none⟩=some (.int .i64 f.k)∧w4.cell? ⟨bk,o+1,none⟩=some (.int .i64 f.n)∧w4.cell? ⟨bk,o+2,none⟩=some (.slice F f.l.length C))∧
          Hid (SpineRel t w Q (.slice a4 (ps++[(a,G,D)]).length c4) (((w4.setCell ⟨w.heap.size,0,none⟩ (.int .i64 f.k)).setCell ⟨w.heap.size,1,none⟩ (.int .i64 f.n)).setCell ⟨w.heap.size,2,none⟩ (.slice F f.l.length C))∧(@Classical.epsilon TM ⟨.node 0 0 []⟩ (fun u=>∃A c,Bk (((w4.setCell ⟨w.heap.size,0,none⟩ (.int .i64 f.k)).setCell ⟨w.heap.size,1,none⟩ (.int .i64 f.n)).setCell ⟨w.heap.size,2,none⟩ (.slice F f.l.length C)) w.heap.size 25 #[.int .i64 u.k,.int .i64 u.n,.slice A u.l.length c]∧TermIn (((w4.setCell ⟨w.heap.size,0,none⟩ (.int .i64 f.k)).setCell ⟨w.heap.size,1,none⟩ (.int .i64 f.n)).setCell ⟨w.heap.size,2,none⟩ (.slice F f.l.length C)) Q u A c)).depth<(@Classical.epsilon TM ⟨.node 0 0 []⟩ (fun u=>∃A c,Bk wr w.heap.size 25 #[.int .i64 u.k,.int .i64 u.n,.slice A u.l.length c]∧TermIn wr Q u A c)).depth)):=hid (by
        intro v4 w4 ha4;have hrw:=HROW2.out.alloc (.cells #[.int .i64 a.k,.int .i64 a.n,.slice G a.l.length D] 25);have hlt0:=hrw.row.lt;have hfar:=hrw.far;have hhi:=HHI.out;have hne:∀g,g<w.heap.size+2→some g≠(Value.slice a3 ps.length c3).ownBlock:=fun g hg e=>by have:=(hlt0 g e.symm).1;omega
        have hsa:(w2.alloc (.cells #[.int .i64 a.k,.int .i64 a.n,.slice G a.l.length D] 25)).heap.size=w2.heap.size+1:=by simp
        have K1:Bk w4 w.heap.size 25 _:=(HK.out.alloc (.cells #[.int .i64 a.k,.int .i64 a.n,.slice G a.l.length D] 25)).grown ha4.2.1 (hne _ (by omega));have K2:Bk w4 (w.heap.size+1) 25 _:=(HXX.out.2.2.2.2.alloc (.cells #[.int .i64 a.k,.int .i64 a.n,.slice G a.l.length D] 25)).grown ha4.2.1 (hne _ (by omega));have hbx:=HXX.out;have hB4:Below w.heap.size w w4:=(HBW.out.alloc (by omega) (.cells #[.int .i64 a.k,.int .i64 a.n,.slice G a.l.length D] 25)).grown ha4.2.1 (by omega) (fun g e=>by have:=(hlt0 g e).1;omega);have hcell:∀b o,b<w2.heap.size→some b≠(Value.slice a3 ps.length c3).ownBlock→w4.cell? ⟨b,o,none⟩=w2.cell? ⟨b,o,none⟩:=fun b o hb h1=>
          (ha4.2.1.cell_far ⟨b,o,none⟩ (by show b<_;omega) h1).trans ((Below.refl w2.heap.size w2).alloc lrR4 (.cells #[.int .i64 a.k,.int .i64 a.n,.slice G a.l.length D] 25)|>.cell (p:=⟨b,o,none⟩) hb)
        obtain⟨a4,c4,rfl⟩:=own_sliceM ha4.1;have hf4:TermIn w4 Q f F C:=HNOA.out.imp (fun b o h1=>hcell b o (by have:=hhi b h1;omega) (hne b (by have:=hhi b h1;omega))) (fun _ h=>h);have hp:=hrw.push (Pn:=Q) (p:=(a,G,D)) (HNOB.out.keptQ ((Below.refl w2.heap.size w2).alloc lrR4 (.cells #[.int .i64 a.k,.int .i64 a.n,.slice G a.l.length D] 25)) (fun b hb=>by have:=hhi b hb;omega)) (fun b hb=>⟨by have:=hhi b hb;simp;omega,fun e=>hne b (by have:=hhi b hb;omega) e.symm⟩) ha4.1 ha4.2.1 ha4.2.2;have hp2:TermRow w4 (w.heap.size+2) 25 (.slice a4 (ps++[(a,G,D)]).length c4) (ps++[(a,G,D)]) Q:=by
          have e:(ps++[(a,G,D)]).length=ps.length+1:=by simp
          rw[e];exact⟨hp.row,fun b hb=>hp.far b (.inl hb),fun p hp'=>(hp.node p hp').imp (fun _ _ _=>rfl) (fun b hb=>hb.elim id id)⟩
        have hlt4:=hp2.row.lt;have hq:(Value.slice a4 (ps++[(a,G,D)]).length c4).ownBlock=none∨(Value.slice a4 (ps++[(a,G,D)]).length c4).ownBlock≠some w.heap.size:=by
          refine .inr fun e=> ?_;have:=(hlt4 _ e).1;omega
        have hq2:∀b,Q b→some b≠some w.heap.size:=fun b hb e=>by injection e with e;have:=hhi b hb;omega
        have hp3:=((hp2.over (grown_set w4 w.heap.size 0 (.int .i64 f.k)) hq hq2).over (grown_set _ w.heap.size 1 (.int .i64 f.n)) hq hq2).over (grown_set _ w.heap.size 2 (.slice F f.l.length C)) hq hq2;have KB:Bk (((w4.setCell ⟨w.heap.size,0,none⟩ (.int .i64 f.k)).setCell ⟨w.heap.size,1,none⟩ (.int .i64 f.n)).setCell ⟨w.heap.size,2,none⟩ (.slice F f.l.length C)) w.heap.size 25 #[.int .i64 f.k,.int .i64 f.n,.slice F f.l.length C]:=((K1.at_ 0 (.int .i64 f.k)).at_ 1 (.int .i64 f.n)).at_ 2 (.slice F f.l.length C);have KT:TermIn (((w4.setCell ⟨w.heap.size,0,none⟩ (.int .i64 f.k)).setCell ⟨w.heap.size,1,none⟩ (.int .i64 f.n)).setCell ⟨w.heap.size,2,none⟩ (.slice F f.l.length C)) Q f F C:=TermIn.three hf4 (fun b hb e=>by have:=hhi b hb;omega) _ _ _;refine⟨a4,c4,by simp,K1,⟨(hcell _ _ hbx.1 (hne _ (by omega))).trans hbx.2.1,(hcell _ _ hbx.1 (hne _ (by omega))).trans hbx.2.2.1,(hcell _ _ hbx.1 (hne _ (by omega))).trans hbx.2.2.2.1⟩,⟨f,F,C,a4,c4,ps++[(a,G,D)],rfl, ?_,KB, ?_,hp3,KT,HF.out,HH2.out,HA2.out⟩, ?_⟩
        · exact((hB4.setCell (by simp) _).setCell (by simp) _).setCell (by simp) _
        · exact((K2.far (by simp) _).far (by simp) _).far (by simp) _
        · rw[HU0.out,HDEP.out (((w4.setCell ⟨w.heap.size,0,none⟩ (.int .i64 f.k)).setCell ⟨w.heap.size,1,none⟩ (.int .i64 f.n)).setCell ⟨w.heap.size,2,none⟩ (.slice F f.l.length C)) f F C KB KT];exact HLESS.out)
      have HSRC:=hid (show Src (w2.alloc (.cells #[.int .i64 a.k,.int .i64 a.n,.slice G a.l.length D] 25)) 3 (some ⟨w2.heap.size,0,none⟩) 1 (cellsM (a,G,D))from src_at _ _ _ rfl rfl);clear K1 HAR HHD HU HDEP HBB HX HY HB1 HB2 HU0 HLESS HNO HNO2 e1;go_wp2_with (at_builtin;refine wpList_app rfl (.tmp 11) (.tmp 16) 23 rfl (w.heap.size+2) 25 i0 (.agg #[.int .i64 0,.int .i64 0,.slice none 0 0]) 3 40 Tryz.underlying23 hi0 hz0 hz1 hz2 rfl (by decide) (.slice a3 ps.length c3) ps.length (flatM ps) rfl (HROW2.out.alloc _).row (some ⟨w2.heap.size,0,none⟩) 1 1 (cellsM (a,G,D)) rfl HSRC.out (cellsM_one _) (by unfold maxLen;omega) (by omega) (by have:=HBW.out.size;simp;omega) ?_)
      rintro v4 w4 ha4;obtain⟨a4,c4,rfl,K4,⟨x0,x1,x2⟩,HR⟩:=HFIN.out _ _ ha4;have hfz:∀q,w4.frozen? ⟨w.heap.size,q,none⟩=false:=fun q=>K4.cold q;have d0:w4.cell? ⟨w.heap.size,0,none⟩=some (.int .i64 5):=K4.cell 0;have d1:w4.cell? ⟨w.heap.size,1,none⟩=some (.int .i64 0):=K4.cell 1;have d2:w4.cell? ⟨w.heap.size,2,none⟩=some (.slice (some ⟨bk,o,none⟩) 2 c1):=K4.cell 2;clear ha4 K4 HFIN;go_wp2_with fail;go_roundw
      case rel=>exact HR.out.1
      case measure=>exact HR.out.2
    · have e1:(k==5)=false:=by simpa using hk
      have hpl:ps.length≤1000:=by
        have h1:=congrArg List.length HAR.out;rw[List.length_append,List.length_reverse,List.length_map]at h1;have h2:=HLN.out;omega
      have HEQ:=hid (show headT t= .node k n l by rw[←HHD.out,headT_not n l hk]);have HAQ:=hid (show argsT t=(ps.map (·.1)).reverse by rw[HAR.out,argsT_not n l hk];rfl);have hlq:(argsT t).length=ps.length:=by rw[HAQ.out];simp
      have HLQ:=hid hlq;clear hk hgu HAR HHD HDEP hlq;go_wp2_with fail;refine(CAP.out _ (Below.refl _ _)).mono ?_;rintro e w2 ⟨rfl,hb2⟩;have hzz:=hb2.size;have K1:=HB1.out.below hb2 (by omega);have K2:=HB2.out.below hb2 (by omega);have HROW2:=hid (HROW.out.below hb2);have HCR:=hid (fun V (hV:Below w2.heap.size w2 V)=>revT_any (HROW2.out.below hV) (show w.heap.size+2≤V.heap.size from by have:=hV.size;omega) (by omega));have HAF:Hid (∀(V w3:World),Below w2.heap.size w2 V→RowT w3 Q (ps.map (·.1)).reverse a3 c3→Below (w.heap.size+2) V w3→
          Bk w3 w.heap.size 25 #[.int .i64 k,.int .i64 n,.slice A1 l.length c1]∧Bk w3 (w.heap.size+1) 25 #[.int .i64 0,.int .i64 0,.slice none 0 0]∧
          Hid (GivesSpQ Q t w (.returned (.tuple #[.agg #[.int .i64 k,.int .i64 n,.slice A1 l.length c1],.slice a3 ps.length c3])) (((w3.setCell ⟨w.heap.size+1,0,none⟩ (.int .i64 k)).setCell ⟨w.heap.size+1,1,none⟩ (.int .i64 n)).setCell ⟨w.heap.size+1,2,none⟩ (.slice A1 l.length c1)))):=hid (by
        intro V w3 hV hl3 hb3;have hhi:=HHI.out;have hVz:=hV.size;have hz3:=hb3.size;have hlt0:=HROW2.out.row.lt;have hbb:Below (w.heap.size+2) wr w3:=(hb2.mono (by omega)).trans ((hV.mono (by omega)).trans hb3);have J1:Bk w3 w.heap.size 25 _:=HB1.out.below hbb (by omega);have J2:Bk w3 (w.heap.size+1) 25 _:=HB2.out.below hbb (by omega);have hu3:TermIn w3 Q (.node k n l) A1 c1:=HU.out.keptQ hbb (fun b hb=>by have:=hhi b hb;omega);refine⟨J1,J2, ?_⟩;have hlw:∀b,a3=some ⟨b,0,none⟩→b≠w.heap.size+1:=fun b e hb=>by
          subst e;have:=(hlt0 b rfl).1;omega
        refine⟨A1,c1,a3,c3,by rw[HEQ.out,HLQ.out];rfl, ?_, ?_, ?_, ?_,(((HBB.out.trans (hbb.mono (by omega))).setCell (by simp) _).setCell (by simp) _).setCell (by simp) _⟩
        · rw[HEQ.out];exact(TermIn.three hu3 (fun b hb e=>by have:=hhi b hb;omega) _ _ _).imp (fun _ _ _=>rfl) (fun b hb=>⟨Nat.zero_le _,by rw[size_three];have:=hhi b hb;omega⟩)
        · rw[HAQ.out];exact hl3.three (by omega) (fun hq=>by have:=hhi _ hq;omega) (fun b e=>hlw b e) _ _ _
        · intro b h1;subst h1;have:=(hlt0 b rfl).1;omega
        · rw[HEQ.out];exact TermIn.three hu3 (fun b hb e=>by have:=hhi b hb;omega) _ _ _)
      clear K1 K2 HB1 HB2 HU HBB hb2 HROW y0 y1 y2 yl CAP HEQ HAQ HLQ HHI HT HG HS HK1 HK2 HZ1;go_wp2_with fail;refine(HCR.out _ (by first|exact Below.refl _ _|exact(Below.refl _ _).drew)).mono ?_;rintro e w3 ⟨rfl,hl3,hb3⟩;obtain⟨J1,J2,HR⟩:=HAF.out _ w3 (by first|exact Below.refl _ _|exact(Below.refl _ _).drew) hl3 hb3;have hfz:∀q,w3.frozen? ⟨w.heap.size+1,q,none⟩=false:=fun q=>J2.cold q;have d0:w3.cell? ⟨w.heap.size+1,0,none⟩=some (.int .i64 0):=J2.cell 0;have d1:w3.cell? ⟨w.heap.size+1,1,none⟩=some (.int .i64 0):=J2.cell 1;have d2:w3.cell? ⟨w.heap.size+1,2,none⟩=some (.slice none 0 0):=J2.cell 2;have q0:w3.cell? ⟨w.heap.size,0,none⟩=some (.int .i64 k):=J1.cell 0;have q1:w3.cell? ⟨w.heap.size,1,none⟩=some (.int .i64 n):=J1.cell 1;have q2:w3.cell? ⟨w.heap.size,2,none⟩=some (.slice A1 l.length c1):=J1.cell 2;have B5:=((J2.at_ 0 (.int .i64 k)).at_ 1 (.int .i64 n)).at_ 2 (.slice A1 l.length c1);have HS0:=hid (B5.cell 0);have HS1:=hid (B5.cell 1);have HS2:=hid (B5.cell 2);clear J1 J2 B5 HCR HAF hl3 hb3;go_wp2_with fail;refine bodyPost_ret (v:= .tuple #[.agg #[.int .i64 k,.int .i64 n,.slice A1 l.length c1],.slice a3 ps.length c3]) (by simp[results,results78,go_sem,HS0.out,HS1.out,HS2.out]) rfl ?_;exact HR.out
theorem spineR_any (t:TM) (lo hi:Nat) (A:Option Addr) (cap:Nat) (w:World) (h:IsTerm w lo hi t A cap) (hhi:hi≤w.heap.size) (hS:ShapesM w) (hg:tgoodB t=true) (hsz:t.size≤8192) (hdp:t.depth≤1000):
  Calls prog 78 #[termV t A cap] w (GivesSpR lo hi t w):=spineQ_any t (fun b=>lo≤b∧b<hi) A cap w h (fun b hb=>Nat.lt_of_lt_of_le hb.2 hhi) hS hg hsz hdp
theorem spineP_any (t:TM) (lo hi:Nat) (A:Option Addr) (cap:Nat) (w:World) (h:IsTerm w lo hi t A cap) (hhi:hi≤w.heap.size) (hS:ShapesM w) (hg:tgoodB t=true) (hsz:t.size≤8192) (hdp:t.depth≤1000):
  Calls prog 78 #[termV t A cap] w (GivesSpP lo hi t w):=(spineR_any t lo hi A cap w h hhi hS hg hsz hdp).mono fun _ _ h=>h.part
theorem spine_any (t:TM) (lo hi:Nat) (A:Option Addr) (cap:Nat) (w:World) (h:IsTerm w lo hi t A cap) (hhi:hi≤w.heap.size) (hS:ShapesM w) (hg:tgoodB t=true) (hsz:t.size≤8192) (hdp:t.depth≤1000):
  Calls prog 78 #[termV t A cap] w (GivesSp t w):=(spineP_any t lo hi A cap w h hhi hS hg hsz hdp).mono fun _ _ h=>h.plain
end Go.Proofs.YtchllgkgjompgaaGreatDoor
