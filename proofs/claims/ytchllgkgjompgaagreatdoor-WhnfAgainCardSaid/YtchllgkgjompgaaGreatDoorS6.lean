import Derived.Test.YtchllgkgjompgaaGreatDoorS5
import Derived.Test.YtchllgkgjompgaaGreatDoorM9
import Derived.Test.YtchllgkgjompgaaGreatDoorR4
import Derived.LoopTactic
import Derived.Test.YtchllgkgjompgaaGreatDoorM4
import Derived.Deep.RegionLaw
import Derived.Deep.RegionHeld3
import Derived.BigQuiet
namespace Go.Proofs.YtchllgkgjompgaaGreatDoor
set_option maxHeartbeats 4000000
set_option maxRecDepth 100000
open Go.RowKit
set_option linter.unusedVariables false
open Lib(hid)
open Go.Proofs.Tryz
theorem varB_at {t:TM} {bs j:Nat} (h:j<(argsT t).length):varB t bs j=(decide ((argsT t)[j].k=1) && decide ((argsT t)[j].n=(bs:Int) - 1 - (j:Int))):=by
 unfold varB;rw[List.getElem?_eq_getElem h]
theorem eqf_same (f:TM→TM→Bool) (l l':List TM) (A A':Option Addr) (cap cap' lo hi lo' hi':Nat) (w:World) (hl:l.length≤maxLen) (hl':l'.length≤maxLen) (hn:TermsAt w lo hi A l) (hn':TermsAt w lo' hi' A' l') (hhi:hi≤w.heap.size) (hhi':hi'≤w.heap.size) (ht:TestTT w 191 f l l'):
  Calls prog 192 #[.slice A l.length cap,.slice A' l'.length cap',.func (.func 191) #[] #[]] w fun e w'=>e= .returned (.bool (pairsM f l l'))∧Below w.heap.size w w':=by
 have HN:=hid hn;have HN':=hid hn';have HT:=hid ht;unfold maxLen at hl hl';clear hn hn' ht;by_cases hlen:l.length=l'.length
 ·rw[pairsM_eq hlen];have HLEN:=hid hlen;have t0:((l.length:Int) !=(l'.length:Int))=false:=by simp;omega
  clear hlen;go_enter func192,ntmps192;go_wp2_with fail;go_loopw [17] (fun iv wr=>∃i:Nat,i≤l.length∧iv= .int .i64 i∧Below w.heap.size w wr∧Hid (allB (pairTm f l l') i=true)) (fun iv _=>l.length - (intOf iv).toNat)
  case atStart=>exact⟨0,Nat.zero_le _,rfl,Below.refl _ _,hid rfl⟩
  case round=>
   obtain⟨i,hi1,rfl,hB,HQ⟩:=hrel;have hz:=hB.size;by_cases hil:i<l.length
   ·have hil':i<l'.length:=by have:=HLEN.out;omega
    obtain⟨b,o,F,C,rfl,hb1,hb2,hx,hnode⟩:=(HN.out i hil).kept hB hhi;obtain⟨x0,x1,x2⟩:=hx;obtain⟨b',o',F',C',rfl,hb1',hb2',hx',hnode'⟩:=(HN'.out i hil').kept hB hhi';obtain⟨y0,y1,y2⟩:=hx';have hlt:b<wr.heap.size:=by omega
    have hlt':b'<wr.heap.size:=by omega
    have HR:=hid (HT.out i hil hil' lo hi lo' hi' F F' C C');have hall:Hid (allB (pairTm f l l') (i+1)=f l[i] l'[i]):=hid (by rw[allB,HQ.out,Bool.true_and,pairTm_of f hil hil']);have hno:Hid (f l[i] l'[i]=false→allB (pairTm f l l') l.length=false):=hid (fun h=>allB_noM hil (by rw[pairTm_of f hil hil'];exact h));obtain⟨v,hv⟩:∃v,f l[i] l'[i]=v:=⟨_,rfl⟩;rw[hv]at HR hall hno;clear hv HT HN HN';have hi0':(i:Int)<(l.length:Int):=by omega
    have hi0'':(i:Int)<(l'.length:Int):=by omega
    go_wp2_with fail;refine(HR.out _ ((hB.alloc hz _).alloc (by simp;omega) _) ((hnode.alloc (by omega) _).alloc (by simp;omega) _) ((hnode'.alloc (by omega) _).alloc (by simp;omega) _) (by simp;omega) (by simp;omega)).mono ?_;rintro e w1 ⟨rfl,hb⟩;have HB1:=hid (((hB.alloc hz _).alloc (by simp;omega) _).trans (hb.mono (by simp;omega)));clear hb;cases v with
    | true=>
     go_wp2_with fail;go_roundw
     case rel=>exact⟨i+1,by omega,rfl,HB1.out,hall⟩
     case measure=>simp[intOf];omega
    | false=>
     have HN2:=hid (hno.out rfl);clear hno;go_wp2_with fail;go_ret;exact⟨by rw[HN2.out];rfl,HB1.out⟩
   ·obtain rfl:i=l.length:=by omega
    clear HT HN HN';go_wp2_with fail;go_ret;exact⟨by rw[HQ.out];rfl,hB⟩
 ·rw[pairsM_len hlen];have t0:((l.length:Int) !=(l'.length:Int))=true:=by simp;omega
  clear hlen HT HN HN';go_enter func192,ntmps192;go_wp2_with fail;go_ret;exact⟨rfl,Below.refl _ _⟩
theorem same_const {u:TM} {d:Int} (hs:shapedB u=true):tsameB u (.node 6 d [])=(decide (u.k=6) && decide (u.n=d)):=by
 obtain⟨k,n,l⟩:=u;unfold tsameB;rw[hs,Bool.true_and,alikeT_node];show(decide (k=6) && (decide (n=d) && pairsM alikeT l []))=(decide (k=6) && decide (n=d))
 by_cases hk:k=6
 ·subst hk;have h:=(ttop_facts (by
   have hg:=(shapedB_true.1 hs).2.2;rw[tgoodB_node,Bool.and_eq_true]at hg;exact hg.1)).2.2.1
  have:l=[]:=List.length_eq_zero_iff.1 (h.trans rfl);subst this;rw[show pairsM alikeT [] []=true from rfl,Bool.and_true]
 ·rw[decide_eq_false hk];rfl
theorem same_var {u:TM} {m:Int} (hs:shapedB u=true):tsameB u (.node 1 m [])=(decide (u.k=1) && decide (u.n=m)):=by
 obtain⟨k,n,l⟩:=u;unfold tsameB;rw[hs,Bool.true_and,alikeT_node];show(decide (k=1) && (decide (n=m) && pairsM alikeT l []))=(decide (k=1) && decide (n=m))
 by_cases hk:k=1
 ·subst hk;have h:=(ttop_facts (by
   have hg:=(shapedB_true.1 hs).2.2;rw[tgoodB_node,Bool.and_eq_true]at hg;exact hg.1)).2.2.1
  have:l=[]:=List.length_eq_zero_iff.1 (h.trans rfl);subst this;rw[show pairsM alikeT [] []=true from rfl,Bool.and_true]
 ·rw[decide_eq_false hk];rfl
theorem head_args_shaped:∀{t:TM},shapedB t=true→shapedB (headT t)=true∧∀u∈argsT t,shapedB u=true:=by
 intro t;induction t using TM.ind with
 | h k n l ih=>
  intro hs;by_cases hk:k=5
  ·subst hk;obtain⟨f,a,rfl,rfl,hf,ha⟩:=app_parts (shapedB_true.1 hs).2.2;have sf:=shaped_part List.mem_cons_self hs;have sa:=shaped_part (List.mem_cons_of_mem _ List.mem_cons_self) hs;obtain⟨h1,h2⟩:=ih f (by simp) sf;rw[headT_app,argsT_app];refine⟨h1,fun u hu=> ?_⟩;rcases List.mem_append.1 hu with hu|hu
   ·exact h2 u hu
   ·rw[List.mem_singleton.1 hu];exact sa
  ·rw[headT_not n l hk,argsT_not n l hk];exact⟨hs,fun u hu=>by cases hu⟩
theorem pairs_vars {t:TM} {ps bs:Nat} (hs:shapedB t=true) (h1:ps≤(argsT t).length) (h2:ps≤bs):pairsM tsameB ((argsT t).take ps) ((varsT bs).take ps)=allB (varB t bs) ps:=by
 have l1:((argsT t).take ps).length=ps:=by rw[List.length_take];omega
 have l2:((varsT bs).take ps).length=ps:=by rw[List.length_take,varsT_len];omega
 rw[pairsM_eq (by rw[l1,l2]),l1];have:∀n,n≤ps→allB (pairTm tsameB ((argsT t).take ps) ((varsT bs).take ps)) n=allB (varB t bs) n:=by
  intro n;induction n with
  | zero=>intro _;rfl
  | succ n ih=>
   intro hn;rw[allB,allB,ih (by omega)];congr 1
   rw[pairTm_of _ (by rw[l1];omega) (by rw[l2];omega),List.getElem_take,List.getElem_take,varB_at (by omega)];have e:(varsT bs)[n]'(by rw[varsT_len];omega)= .node 1 ((bs:Int) - 1 - (n:Int)) []:=by
    simp only[varsT,List.getElem_map,List.getElem_range];congr 1
    omega
   rw[e,same_var ((head_args_shaped hs).2 _ (List.getElem_mem _))]
 exact this ps (Nat.le_refl _)
def IndIs (b:Bool) (ts:List TM) (w:World) (e:Ending) (w':World):Prop:=∃A n c,e= .returned (.tuple #[.slice A n c,.bool b])∧(b=true→n=ts.length∧IsTerms w' 0 w'.heap.size ts A c)∧Below w.heap.size w w'
theorem IsTerms.take {w:World} {lo hi:Nat} {ts:List TM} {A:Option Addr} {c:Nat} (h:IsTerms w lo hi ts A c) (n:Nat):IsTerms w lo hi (ts.take n) A c:=by
 cases h with
 | mk k m l A cap F C hl hm hc hn=>
  refine TermIn.mk _ _ _ A _ F C (by rw[List.length_take];omega) hm (fun h0=> ?_) (fun i hi0=> ?_)
  ·rw[List.length_take]at h0;obtain⟨b,o,e,hb,hx⟩:=hc (by omega);refine⟨b,o,e,hb,fun i hi0=> ?_⟩;rw[List.getElem_take];exact hx i (by rw[List.length_take]at hi0;omega)
  ·rw[List.getElem_take];exact hn i (by rw[List.length_take]at hi0;omega)
theorem IsTerms.drop {w:World} {lo hi b o:Nat} {ts:List TM} {c:Nat} (h:IsTerms w lo hi ts (some ⟨b,o,none⟩) c) (n:Nat) (hn':n≤ts.length):IsTerms w lo hi (ts.drop n) (some ⟨b,o+n*3,none⟩) (c - n):=by
 cases h with
 | mk k m l A cap F C hl hm hc hn=>
  refine TermIn.mk _ _ _ _ _ (fun i=>F (n+i)) (fun i=>C (n+i)) (by rw[List.length_drop];omega) (by omega) (fun h0=> ?_) (fun i hi0=> ?_)
  ·rw[List.length_drop]at h0;obtain⟨b',o',e,hb,hx⟩:=hc (by omega);injection e with e;injection e with e1 e2;subst e1 e2;refine⟨b,o+n*3,rfl,hb,fun i hi0=> ?_⟩;rw[List.getElem_drop,Nat.add_assoc,←Nat.add_mul];exact hx (n+i) (by rw[List.length_drop]at hi0;omega)
  ·rw[List.getElem_drop];exact hn (n+i) (by rw[List.length_drop]at hi0;omega)
theorem IsTerms.rest {w:World} {lo hi:Nat} {ts:List TM} {A:Option Addr} {c n:Nat} (h:IsTerms w lo hi ts A c) (hn:n≤ts.length):IsTerms w lo hi (ts.drop n) (if c=n then A else A.map (·.add (n*3))) (c - n):=by
 obtain⟨hl,hm⟩:=h.bounds;by_cases h0:n<ts.length
 ·obtain⟨b,o,F,C,hA, -⟩:=h.sub 0 (by omega);subst hA;rw[if_neg (by omega)];rw[Option.map_some,Addr.add_lit];exact h.drop n hn
 ·rw[List.drop_eq_nil_of_le (by omega)];exact TermIn.mk _ _ [] _ _ (fun _=>none) (fun _=>0) (Nat.zero_le _) (by omega) (fun q=>by simp at q) (fun i q=>by simp at q)
theorem TermIn.drop {w:World} {P:Nat→Prop} {b o:Nat} {ts:List TM} {c:Nat} (h:TermIn w P (.node 0 0 ts) (some ⟨b,o,none⟩) c) (n:Nat) (hn':n≤ts.length):TermIn w P (.node 0 0 (ts.drop n)) (some ⟨b,o+n*3,none⟩) (c - n):=by
 cases h with
 | mk k m l A cap F C hl hm hc hn=>
  refine TermIn.mk _ _ _ _ _ (fun i=>F (n+i)) (fun i=>C (n+i)) (by rw[List.length_drop];omega) (by omega) (fun h0=> ?_) (fun i hi0=> ?_)
  ·rw[List.length_drop]at h0;obtain⟨b',o',e,hb,hx⟩:=hc (by omega);injection e with e;injection e with e1 e2;subst e1 e2;refine⟨b,o+n*3,rfl,hb,fun i hi0=> ?_⟩;rw[List.getElem_drop,Nat.add_assoc,←Nat.add_mul];exact hx (n+i) (by rw[List.length_drop]at hi0;omega)
  ·rw[List.getElem_drop];exact hn (n+i) (by rw[List.length_drop]at hi0;omega)
theorem TermIn.rest {w:World} {P:Nat→Prop} {ts:List TM} {A:Option Addr} {c n:Nat} (h:TermIn w P (.node 0 0 ts) A c) (hn:n≤ts.length):TermIn w P (.node 0 0 (ts.drop n)) (if c=n then A else A.map (·.add (n*3))) (c - n):=by
 obtain⟨hl,hm⟩:=h.bounds;by_cases h0:n<ts.length
 ·obtain⟨b,o,F,C,hA, -⟩:=h.at_ 0 (by omega);subst hA;rw[if_neg (by omega)];rw[Option.map_some,Addr.add_lit];exact h.drop n hn
 ·rw[List.drop_eq_nil_of_le (by omega)];exact TermIn.mk _ _ [] _ _ (fun _=>none) (fun _=>0) (Nat.zero_le _) (by omega) (fun q=>by simp at q) (fun i q=>by simp at q)
def IndIsP (P:Nat→Prop) (b:Bool) (ts:List TM) (w:World) (e:Ending) (w':World):Prop:=∃A n c,e= .returned (.tuple #[.slice A n c,.bool b])∧(b=true→n=ts.length∧TermIn w' (fun b=>(P b∨w.heap.size≤b)∧b<w'.heap.size) (.node 0 0 ts) A c)∧Below w.heap.size w w'
theorem IndIsP.plain {P:Nat→Prop} {b:Bool} {ts:List TM} {w w':World} {e:Ending} (h:IndIsP P b ts w e w'):IndIs b ts w e w':=by
 obtain⟨A,n,c,h1,h2,h3⟩:=h;exact⟨A,n,c,h1,fun hb=>⟨(h2 hb).1,(h2 hb).2.imp (fun _ _ _=>rfl) (fun b hb=>⟨Nat.zero_le _,hb.2⟩)⟩,h3⟩
structure BoxE (w:World) (g:Nat) (x:ET) (p:EP):Prop where
 c0:w.cell? ⟨g,0,none⟩=some (.int .i64 x.k)
 c1:w.cell? ⟨g,1,none⟩=some (.string x.s)
 c2:w.cell? ⟨g,2,none⟩=some (.int .i64 x.t.k)
 c3:w.cell? ⟨g,3,none⟩=some (.int .i64 x.t.n)
 c4:w.cell? ⟨g,4,none⟩=some (.slice p.T x.t.l.length p.tc)
 c5:w.cell? ⟨g,5,none⟩=some (.int .i64 x.b.k)
 c6:w.cell? ⟨g,6,none⟩=some (.int .i64 x.b.n)
 c7:w.cell? ⟨g,7,none⟩=some (.slice p.B x.b.l.length p.bc)
 c8:w.cell? ⟨g,8,none⟩=some (.int .i64 x.f)
 c9:w.cell? ⟨g,9,none⟩=some (.int .i64 x.p)
 c10:w.cell? ⟨g,10,none⟩=some (.int .i64 x.a)
 c11:w.cell? ⟨g,11,none⟩=some (.int .i64 x.i)
 c12:w.cell? ⟨g,12,none⟩=some (.int .i64 x.v)
 c13:w.cell? ⟨g,13,none⟩=some (.slice p.C x.c.length p.cc)
 c14:w.cell? ⟨g,14,none⟩=some (.slice p.D x.d.length p.dc)
theorem Bk.boxE {w:World} {g:Nat} {e:TypeId} {x:ET} {p:EP} (h:Bk w g e (entC x p)):BoxE w g x p:=
 ⟨h.cell 0,h.cell 1,h.cell 2,h.cell 3,h.cell 4,h.cell 5,h.cell 6,h.cell 7,h.cell 8,h.cell 9,h.cell 10,h.cell 11,h.cell 12,h.cell 13,h.cell 14⟩
theorem whole_cases (t:TM):(shapedB t=true∧pisN t≤24∧wholeX t=(telT t,benT t,0))∨((shapedB t && decide (pisN t≤24))=false∧∃c,wholeX t=([],.node 0 0 [],c)∧(c=5∨c=2)):=by
 cases hs:shapedB t with
 | false=>exact .inr ⟨rfl,5,whole_no hs,.inl rfl⟩
 | true=>
  by_cases h:pisN t≤24
  ·exact .inl ⟨rfl,h,whole_few hs h⟩
  ·exact .inr ⟨by rw[decide_eq_false h];rfl,2,whole_many hs (by omega),.inr rfl⟩
theorem beh_next {l:List ET} {i:Nat} {c:List Int} {k:Int} (h:behB l i ((i+1:Nat):Int) c k=true) (hc:c.length=1):∃h:i+1<l.length,l[i+1].k=k:=by
 unfold behB at h;rw[hc]at h;have h1:=allB_true.1 h 0 (by omega);unfold behQ at h1;rw[List.getElem?_eq_getElem (by omega)]at h1;simp only[placeOk,Bool.and_eq_true,decide_eq_true_eq]at h1;obtain⟨e1,e2,_⟩:=h1;obtain⟨m,e3,hm,hk⟩:=isB_true e2;have:m=i+1:=by omega
 subst this;exact⟨hm,hk⟩
theorem rec_any (l:List ET) (A:Option Addr) (cap i:Nat) (hi:i<l.length) (lo hh:Nat) (w:World) (hl:l.length≤600) (hn:EntsAt w lo hh A l) (hhh:hh≤w.heap.size) (hS:ShapesM w)
    (ha:0≤l[i].a∧l[i].a≤24) (hb:behB l i ((i+1:Nat):Int) l[i].c 2=true):
    Calls prog 208 #[.slice A l.length cap,.int .i64 i] w fun e w'=>e= .returned (.bool (recB l i l[i]))∧Below w.heap.size w w':=by
  obtain⟨b,o,p,hA,hb1,hb2,hx,hent⟩:=hn i hi;have HNX:=hid (fun(hc:l[i].c.length=1)=>beh_next hb hc);have HN:=hid hn;have HBE:=hid (fun V (hV:Below w.heap.size w V)=>behind_any l A p.D cap p.dc i ((i+2:Nat):Int) 4 l[i].d lo hh lo hh V hl (hn.kept hV hhh) (hent.hd.kept hV hhh) (Nat.le_trans hent.ld hent.md) (by omega));have hdl:=Nat.le_trans hent.ld hent.md;have hcl:=Nat.le_trans hent.lc hent.mc;have HSS:=hid (fun V (hV:Below w.heap.size w V)=>hS.kept hV);obtain⟨z,hz⟩:∃z,recB l i l[i]=z:=⟨_,rfl⟩;rw[hz];unfold recB cntB fewB at hz;obtain⟨bd,hbd⟩:∃r,behB l i ((i:Int)+2) l[i].d 4=r:=⟨_,rfl⟩;rw[hbd]at hz;rw[show(((i+2:Nat):Int))=(i:Int)+2 by omega,hbd]at HBE;clear hbd hb;obtain⟨x,hxx⟩:∃x,l[i]=x:=⟨_,rfl⟩;rw[hxx]at hx hz HNX HBE hdl hcl ha;obtain⟨x0,x1,x2,x3,x4,x5,x6,x7,x8,x9,x10,x11,x12,x13,x14⟩:=hx;subst hA;have hbw:b<w.heap.size:=by omega
  have hi0':(i:Int)<(l.length:Int):=by omega
  have hi1:(i:Int)<600:=by omega
  unfold maxLen at hdl hcl;have hdl':(x.d.length:Int)≤9223372036854775807:=by omega
  have HZ:=hid hz;have HB1:=hid (show Below w.heap.size w (w.alloc (.cells (entC x p) 43))from(Below.refl _ _).alloc (Nat.le_refl _) _);have KB:=hid (fun V (hV:Below (w.alloc (.cells (entC x p) 43)).heap.size (w.alloc (.cells (entC x p) 43)) V)=>(show BoxE V w.heap.size x p from((Bk.new w 43 (entC x p)).below hV (by simp)).boxE));have hll:=hl;clear hz hxx hent hn hdl hcl hS hl hb1;obtain⟨ha0,ha24⟩:=ha;unfold entC at HB1 KB;by_cases h1:x.i=0
  case neg=>
    have t0:(x.i !=0)=true:=by simpa using h1
    obtain rfl:z=false:=by rw[←HZ.out,decide_eq_false h1];rfl
    clear h1;go_enter func208,ntmps208;go_wp2_with fail;go_ret;exact⟨rfl,HB1.out⟩
  have t0:(x.i !=0)=false:=by simpa using h1
  by_cases h2:x.c.length=1
  case neg=>
    have t1:((x.c.length:Int) !=1)=true:=by simp;omega
    obtain rfl:z=false:=by rw[←HZ.out,decide_eq_false h2];simp
    clear h1 h2;go_enter func208,ntmps208;go_wp2_with fail;go_ret;exact⟨rfl,HB1.out⟩
  have t1:((x.c.length:Int) !=1)=false:=by simp;omega
  obtain⟨hi2,_⟩:=HNX.out h2;obtain⟨b',o',p',hA',_,_,hy,henty⟩:=HN.out (i+1) hi2;obtain⟨rfl,rfl⟩:b=b'∧o=o':=by
    injection hA' with q;injection q with q1 q2;exact⟨q1,q2⟩
  have y2:=hy.c2;have y3:=hy.c3;have y4:=hy.c4;have hz2:=HZ.out;rw[decide_eq_true h1,decide_eq_true h2,List.getElem?_eq_getElem hi2]at hz2;simp only[Bool.true_and]at hz2;obtain⟨y,hyy⟩:∃y,l[i+1]=y:=⟨_,rfl⟩;have hyt:=henty.ht;rw[hyy]at y2 y3 y4 hz2 hyt;have CW:=hid (fun V (hV:Below w.heap.size w V)=>whole_any y.t p'.T p'.tc V ((hyt.kept hV hhh).wide (Nat.zero_le _) (by have:=hV.size;omega)) (HSS.out V hV));have HTF:=hid (fun(h:shapedB y.t=true)=>(tel_facts h).1);have HWC:=hid (whole_cases y.t);have wr1:IntKind.i64.wrap ((i:Int)+1)=((i+1:Nat):Int):=by rw[IntWalk.i64_in _ (by omega)];omega
  have wr2:IntKind.i64.wrap ((i:Int)+2)=(i:Int)+2:=IntWalk.i64_in _ (by omega);have hi2':((i+1:Nat):Int)<(l.length:Int):=by omega
  have HZ2:=hid hz2;obtain⟨R,hR⟩:∃R,wholeX y.t=R:=⟨_,rfl⟩;unfold GivesS at CW;rw[hR]at CW HWC;unfold termV at CW;clear hz2 hyy henty hyt hy h1 h2 hA' hR HZ HNX HN;go_enter func208,ntmps208;go_wp2_with fail;refine(CW.out _ HB1.out).mono ?_;rintro e w1 ⟨A1,c1,B1,d1,rfl, -, -,hb1⟩;have HBX:=hid (HB1.out.trans (hb1.mono (by simp)));obtain⟨c0,c1',c2,c3,c4,c5,c6,c7,c8,c9,c10,c11,c12,c13,c14⟩:=KB.out _ hb1;have hsz1:w.heap.size<w1.heap.size:=by have:=hb1.size;simp at this;omega
  have HBA:=hid (fun o=>HBX.out.alloc HBX.out.size o);clear hb1 CW x0 x1 x2 x3 x4 x5 x6 x7 x8 x9 x10 x11 x12 x13 x14 y2 y3 y4;rcases HWC.out with ⟨hs,h24,hR⟩|⟨hno,c,hR,hc⟩
  · subst hR;have hlt:=HTF.out hs;have HZ3:Hid ((decide ((pisN y.t:Int)=x.a+(x.d.length:Int)) && bd)=z):=hid (by
      have:=HZ2.out;rw[hs,decide_eq_true h24]at this;simpa using this)
    simp only[hlt]at*;obtain⟨m,hm⟩:∃m,pisN y.t=m:=⟨_,rfl⟩;rw[hm]at h24 HZ3⊢;have w3':IntKind.i64.wrap ((m:Int) - x.a)=(m:Int) - x.a:=IntWalk.i64_in _ (by omega);clear hm hlt hs HZ2 HTF;by_cases h3:(m:Int)=x.a+(x.d.length:Int)
    · have t3:((x.d.length:Int)==(m:Int) - x.a)=true:=by simp;omega
      obtain rfl:bd=z:=by rw[←HZ3.out,decide_eq_true h3];rfl
      clear h3 HZ3;go_wp2_with fail;refine(HBE.out _ (HBA.out _)).mono ?_;rintro e w2 ⟨rfl,rfl⟩;go_wp2_with fail;go_ret;exact⟨rfl,HBA.out _⟩
    · have t3:((x.d.length:Int)==(m:Int) - x.a)=false:=by simp;omega
      obtain rfl:z=false:=by rw[←HZ3.out,decide_eq_false h3];rfl
      clear h3 HZ3;go_wp2_with fail;go_ret;exact⟨rfl,HBA.out _⟩
  · subst hR;obtain rfl:z=false:=by
      rw[←HZ2.out];cases hs:shapedB y.t with
      | false=>rfl
      | true=>rw[hs]at hno;simp at hno;rw[decide_eq_false (show ¬ pisN y.t≤24 by omega)];simp
    have tc:(c==0)=false:=by rcases hc with rfl|rfl<;>rfl
    clear hno hc HZ2;go_wp2_with fail;go_ret;exact⟨rfl,HBA.out _⟩
end Go.Proofs.YtchllgkgjompgaaGreatDoor
