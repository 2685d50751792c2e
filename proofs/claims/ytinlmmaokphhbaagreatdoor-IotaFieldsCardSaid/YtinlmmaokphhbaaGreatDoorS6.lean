import Derived.Test.YtinlmmaokphhbaaGreatDoorS5
import Derived.Test.YtinlmmaokphhbaaGreatDoorM9
import Derived.Test.YtinlmmaokphhbaaGreatDoorR4
import Derived.LoopTactic
import Derived.Test.YtinlmmaokphhbaaGreatDoorM4
import Derived.Deep.RegionLaw
import Derived.Deep.RegionHeld3
import Derived.BigQuiet
namespace Go.Proofs.YtinlmmaokphhbaaGreatDoor
set_option maxHeartbeats 4000000
set_option maxRecDepth 100000
open Go.RowKit
set_option linter.unusedVariables false
open Lib(hid)
open Go.Proofs.Tryz
open _root_.List renaming length_drop→Qa,length_take→Qb,getElem_take→Qc,getElem_drop→Qd,getElem?_eq_getElem→Qe,drop_eq_nil_of_le→Qf,mem_cons_self→Qg
open _root_.Nat renaming zero_le→Qh,le_refl→Qi,le_trans→Qj,add_assoc→Qk,add_mul→Ql
open _root_.Bool renaming true_and→Qm,and_eq_true→Qn,and_true→Qo
open Go.IntWalk renaming i64_in→Qp
theorem Zis{p:Prop}[Decidable p](h:¬p):decide p=false:=decide_eq_false h
theorem Zrq {w w':World}{e:Ending}{lo hi:Nat}{a:Option Addr}{c:Nat}{ts:List TM}{ps:List (TM×Option Addr×Nat)}(he:e= .returned (.slice a ps.length c))(hr:Zk w' w.heap.size 27 (.slice a ps.length c) ps (fun b=>lo≤b∧b<hi))(hp:ps.map (·.1)=ts)(hb:Below w.heap.size w w'):Zbj ts w e w':=by
 subst hp;refine⟨a,c,by rw[he,List.length_map], ?_,hb⟩;exact(hr.parentV (Q:=fun _=>True) (fun _ _=>trivial) (fun _ _=>trivial) 0 0).imp (fun _ _ _=>rfl) (fun b hb=>⟨Qh _,hb.2⟩)
theorem Zwe (t:TM)(lo hi:Nat)(A:Option Addr)(cap:Nat)(w:World)(h:Za w lo hi t A cap)(hhi:hi≤w.heap.size)(hs:Zb t=true):
    Calls prog 67 #[Zc t A cap] w (Zbj (Jc t) w):=
  (Z05 t lo hi A cap w h hhi (Zh.1 hs).2.2 (by have:=(Zh.1 hs).2.1;omega)).mono fun e w' ⟨a,c,ps,he,hr,hp,hb⟩=>Zrq he hr hp hb
theorem Zv4 {t:TM}{bs j:Nat}(h:j<(Jc t).length):Zns t bs j=(decide ((Jc t)[j].k=1) && decide ((Jc t)[j].n=(bs:Int) - 1 - (j:Int))):=by
 unfold Zns;rw[Qe h]
theorem Zq3 (t:TM)(d:Int)(ps mo bs lo hi:Nat)(A:Option Addr)(cap:Nat)(w:World)(h:Za w lo hi t A cap)(hhi:hi≤w.heap.size)(hs:Zb t=true)(hps:ps≤1000)(hmo:mo≤1000)(hbs:bs≤1000):
  Calls prog 35 #[Zc t A cap,.int .i64 d,.int .i64 ps,.int .i64 mo,.int .i64 bs] w fun e w'=>e= .returned (.bool (Zbu t d ps mo bs))∧Below w.heap.size w w':=by
 have HWB:=hid (show Below w.heap.size w (w.alloc (.cells #[.int .i64 t.k,.int .i64 t.n,.slice A t.l.length cap] 27))from(Below.refl _ _).alloc (Qi _) _);have KB:=hid (fun V (hV:Below (w.alloc (.cells #[.int .i64 t.k,.int .i64 t.n,.slice A t.l.length cap] 27)).heap.size (w.alloc (.cells #[.int .i64 t.k,.int .i64 t.n,.slice A t.l.length cap] 27)) V)=>(show Bk V w.heap.size 27 #[.int .i64 t.k,.int .i64 t.n,.slice A t.l.length cap]from(Bk.new w 27 _).below hV (by simp)));have CA:=hid (Zwe t lo hi A cap (w.alloc (.cells #[.int .i64 t.k,.int .i64 t.n,.slice A t.l.length cap] 27)) (h.kept HWB.out hhi) (by simp;omega) hs);have CH:=hid (fun V (hV:Below w.heap.size w V)=>Z0n t lo hi A cap V (h.kept hV hhi) (by have:=hV.size;omega) (Zh.1 hs).2.2);obtain⟨z,hz⟩:∃z,Zbu t d ps mo bs=z:=⟨_,rfl⟩;rw[hz];unfold Zbu at hz;obtain⟨hd,hhd⟩:∃u,Zaw t=u:=⟨_,rfl⟩;rw[hhd]at CH hz;have HVA:=hid (fun j h=>Zv4 (t:=t) (bs:=bs) (j:=j) h);have HAL:=hid (Qj (Zg5 t (Zh.1 hs).2.2) (Zh.1 hs).2.1);obtain⟨V,hV⟩:∃V,Zns t bs=V:=⟨_,rfl⟩;rw[hV]at hz HVA;obtain⟨l,hl⟩:∃l,Jc t=l:=⟨_,rfl⟩;have HVA':Hid (∀j (h:j<l.length),V j=(decide (l[j].k=1) && decide (l[j].n=(bs:Int) - 1 - (j:Int)))):=by subst hl;exact HVA
 rw[hl]at CA hz HAL;have HZ:=hid hz;have hps':(ps:Int)≤1000:=by omega
 have hmo':(mo:Int)≤1000:=by omega
 have hbs':(bs:Int)≤1000:=by omega
 have wr1:IntKind.i64.wrap ((ps:Int)+(mo:Int))=(ps:Int)+(mo:Int):=Qp _ (by omega);unfold Zc at CA CH⊢;clear h hhi hs hps hmo hbs hz hhd hV hl HVA;go_enter func35,ntmps35;go_wp2_with fail;refine CA.out.mono ?_;rintro e w1 ⟨A1,c1,rfl,hrow,hb1⟩;have HB1:=hid (HWB.out.trans (hb1.mono (by simp)));have HROW:=hid hrow;have k1:=KB.out _ hb1;have hc0:w1.cell? ⟨w.heap.size,0,none⟩=some (.int .i64 t.k):=k1.cell 0;have hc1:w1.cell? ⟨w.heap.size,1,none⟩=some (.int .i64 t.n):=k1.cell 1;have hc2:w1.cell? ⟨w.heap.size,2,none⟩=some (.slice A t.l.length cap):=k1.cell 2;clear hb1 k1 CA hrow KB;go_wp2_with fail;refine(CH.out _ HB1.out).mono ?_;rintro e w2 ⟨A2,c2,rfl, -,hb2⟩;have HB2:=hid (HB1.out.trans (hb2.mono HB1.out.size));have HROW2:=hid (HROW.out.kept hb2 (Qi _));have HZ12:=hid hb2.size;clear hb2 CH HROW hc0 hc1 hc2;obtain⟨hk,hkk⟩:∃k,hd.k=k:=⟨_,rfl⟩;obtain⟨hn,hnn⟩:∃k,hd.n=k:=⟨_,rfl⟩;have HZ3:Hid ((decide (hk=6) && (decide (hn=d) && (decide (l.length=ps+mo) && Zv V ps)))=z):=by subst hkk hnn;exact HZ
 unfold Zc;rw[hkk,hnn];clear HZ hkk hnn;have HZ:=HZ3;clear HZ3;have HB2a:=hid (fun o=>HB2.out.alloc HB2.out.size o);by_cases e1:hk=6
 case neg=>
  have t0:(hk !=6)=true:=by simpa using e1
  obtain rfl:z=false:=by rw[←HZ.out,Zis e1];rfl
  clear e1;go_wp2_with fail;go_ret;exact⟨rfl,HB2a.out _⟩
 have t0:(hk !=6)=false:=by simpa using e1
 by_cases e2:hn=d
 case neg=>
  have t1:(hn !=d)=true:=by simpa using e2
  obtain rfl:z=false:=by rw[←HZ.out,Zis e2];simp
  clear e1 e2;go_wp2_with fail;go_ret;exact⟨rfl,HB2a.out _⟩
 have t1:(hn !=d)=false:=by simpa using e2
 have hll:(l.length:Int)≤128:=by have:=HAL.out;omega
 by_cases e3:l.length=ps+mo
 case neg=>
  have t2:((l.length:Int) !=(ps:Int)+(mo:Int))=true:=by simp;omega
  obtain rfl:z=false:=by rw[←HZ.out,Zis e3];simp
  clear e1 e2 e3;go_wp2_with fail;go_ret;exact⟨rfl,HB2a.out _⟩
 have t2:((l.length:Int) !=(ps:Int)+(mo:Int))=false:=by simp;omega
 have HZ':=hid (show Zv V ps=z by rw[←HZ.out,decide_eq_true e1,decide_eq_true e2,decide_eq_true e3];simp);have HPL:=hid (show ps≤l.length by omega);clear e1 e2 e3 HZ;go_wp2_with fail;go_loopw [13] (fun iv wr=>∃i:Nat,i≤ps∧iv= .int .i64 i∧Below w.heap.size w wr∧Below w2.heap.size w2 wr∧Hid (Zv V i=true)) (fun iv _=>ps - (intOf iv).toNat)
 case atStart=>exact⟨0,Qh _,rfl,HB2a.out _,(Below.refl _ _).alloc (Qi _) _,hid rfl⟩
 case round=>
  obtain⟨i,hi1,rfl,hB,hB2,HQ⟩:=hrel;by_cases hil:i<ps
  ·have hill:i<l.length:=by have:=HPL.out;omega
   obtain⟨b,o,F,C,hA,q1,q2,hx, -⟩:=HROW2.out.sub i hill;have hs12:=HZ12.out;have hs2:=hB2.size;obtain⟨x0,x1, -⟩:=hx.kept hB2 (by omega);subst hA;have hno:Hid (V i=false→z=false):=hid (fun h=>by rw[←HZ'.out];exact Zdj hil h);have hyes:Hid (V i=true→Zv V (i+1)=true):=hid (fun h=>by rw[Zv,HQ.out,h];rfl);rw[HVA'.out i hill]at hno hyes;obtain⟨u,hu⟩:∃u,l[i]=u:=⟨_,rfl⟩;rw[hu]at x0 x1 hno hyes;have hbw:b<wr.heap.size:=by omega
   have hi0':(i:Int)<(ps:Int):=by omega
   have hi0'':(i:Int)<(l.length:Int):=by omega
   have wr2:IntKind.i64.wrap ((bs:Int) - 1)=(bs:Int) - 1:=Qp _ (by omega);have wr3:IntKind.i64.wrap ((bs:Int) - 1 - (i:Int))=(bs:Int) - 1 - (i:Int):=Qp _ (by omega);have HBB:=hid hB;have HBB2:=hid hB2;clear hu hx hill;by_cases e4:u.k=1
   case neg=>
    have t3:(u.k !=1)=true:=by simpa using e4
    obtain rfl:z=false:=hno.out (by rw[Zis e4];rfl);clear e4 hno hyes;go_wp2_with fail;go_ret;exact⟨rfl,HBB.out⟩
   have t3:(u.k !=1)=false:=by simpa using e4
   by_cases e5:u.n=(bs:Int) - 1 - (i:Int)
   case neg=>
    have t4:(u.n !=(bs:Int) - 1 - (i:Int))=true:=by simpa using e5
    obtain rfl:z=false:=hno.out (by rw[Zis e5];simp);clear e4 e5 hno hyes;go_wp2_with fail;go_ret;exact⟨rfl,HBB.out⟩
   have t4:(u.n !=(bs:Int) - 1 - (i:Int))=false:=by simpa using e5
   have HY:=hid (hyes.out (by rw[decide_eq_true e4,decide_eq_true e5];rfl));clear e4 e5 hno hyes;go_wp2_with fail;go_roundw
   case rel=>exact⟨i+1,by omega,by go_num,HBB.out,HBB2.out,hid HY.out⟩
   case measure=>simp[intOf];omega
  ·obtain rfl:i=ps:=by omega
   obtain rfl:z=true:=by rw[←HZ'.out];exact HQ.out
   go_wp2_with fail;go_ret;exact⟨rfl,hB⟩
theorem Z1h (f:TM→TM→Bool)(l l':List TM)(A A':Option Addr)(cap cap' lo hi lo' hi':Nat)(w:World)(hl:l.length≤maxLen)(hl':l'.length≤maxLen)(hn:Zaf w lo hi A l)(hn':Zaf w lo' hi' A' l')(hhi:hi≤w.heap.size)(hhi':hi'≤w.heap.size)(ht:Zmn w 111 f l l'):
  Calls prog 112 #[.slice A l.length cap,.slice A' l'.length cap',.func (.func 111) #[] #[]] w fun e w'=>e= .returned (.bool (Zci f l l'))∧Below w.heap.size w w':=by
 have HN:=hid hn;have HN':=hid hn';have HT:=hid ht;unfold maxLen at hl hl';clear hn hn' ht;by_cases hlen:l.length=l'.length
 ·rw[Zgz hlen];have HLEN:=hid hlen;have t0:((l.length:Int) !=(l'.length:Int))=false:=by simp;omega
  clear hlen;go_enter func112,ntmps112;go_wp2_with fail;go_loopw [17] (fun iv wr=>∃i:Nat,i≤l.length∧iv= .int .i64 i∧Below w.heap.size w wr∧Hid (Zv (Zcw f l l') i=true)) (fun iv _=>l.length - (intOf iv).toNat)
  case atStart=>exact⟨0,Qh _,rfl,Below.refl _ _,hid rfl⟩
  case round=>
   obtain⟨i,hi1,rfl,hB,HQ⟩:=hrel;have hz:=hB.size;by_cases hil:i<l.length
   ·have hil':i<l'.length:=by have:=HLEN.out;omega
    obtain⟨b,o,F,C,rfl,hb1,hb2,hx,hnode⟩:=(HN.out i hil).kept hB hhi;obtain⟨x0,x1,x2⟩:=hx;obtain⟨b',o',F',C',rfl,hb1',hb2',hx',hnode'⟩:=(HN'.out i hil').kept hB hhi';obtain⟨y0,y1,y2⟩:=hx';have hlt:b<wr.heap.size:=by omega
    have hlt':b'<wr.heap.size:=by omega
    have HR:=hid (HT.out i hil hil' lo hi lo' hi' F F' C C');have hall:Hid (Zv (Zcw f l l') (i+1)=f l[i] l'[i]):=hid (by rw[Zv,HQ.out,Qm,Zd0 f hil hil']);have hno:Hid (f l[i] l'[i]=false→Zv (Zcw f l l') l.length=false):=hid (fun h=>Zdj hil (by rw[Zd0 f hil hil'];exact h));obtain⟨v,hv⟩:∃v,f l[i] l'[i]=v:=⟨_,rfl⟩;rw[hv]at HR hall hno;clear hv HT HN HN';have hi0':(i:Int)<(l.length:Int):=by omega
    have hi0'':(i:Int)<(l'.length:Int):=by omega
    go_wp2_with fail;refine(HR.out _ ((hB.alloc hz _).alloc (by simp;omega) _) ((hnode.alloc (by omega) _).alloc (by simp;omega) _) ((hnode'.alloc (by omega) _).alloc (by simp;omega) _) (by simp;omega) (by simp;omega)).mono ?_;rintro e w1 ⟨rfl,hb⟩;have HB1:=hid (((hB.alloc hz _).alloc (by simp;omega) _).trans (hb.mono (by simp;omega)));clear hb;cases v with
    | true=>
     go_wp2_with fail;go_roundw
     case rel=>exact⟨i+1,by omega,rfl,HB1.out,hall⟩
     case measure=>simp[intOf];omega
    | false=>
     have HN2:=hid (hno.out rfl);clear hno;go_wp2_with fail;go_ret;exact⟨by rw[HN2.out];rfl,HB1.out⟩
   ·obtain rfl:i=l.length:=by omega
    clear HT HN HN';go_wp2_with fail;go_ret;exact⟨by rw[HQ.out];rfl,hB⟩
 ·rw[Zjb hlen];have t0:((l.length:Int) !=(l'.length:Int))=true:=by simp;omega
  clear hlen HT HN HN';go_enter func112,ntmps112;go_wp2_with fail;go_ret;exact⟨rfl,Below.refl _ _⟩
theorem Zxq {u:TM}{d:Int}(hs:Zb u=true):Zfu u (.node 6 d [])=(decide (u.k=6) && decide (u.n=d)):=by
 obtain⟨k,n,l⟩:=u;unfold Zfu;rw[hs,Qm,Ze3];show(decide (k=6) && (decide (n=d) && Zci Jw l []))=(decide (k=6) && decide (n=d))
 by_cases hk:k=6
 ·subst hk;have h:=(Jo (by
   have hg:=(Zh.1 hs).2.2;rw[Zo,Qn]at hg;exact hg.1)).2.2.1
  have:l=[]:=List.length_eq_zero_iff.1 (h.trans rfl);subst this;rw[show Zci Jw [] []=true from rfl,Qo]
 ·rw[Zis hk];rfl
theorem Z2s {u:TM}{m:Int}(hs:Zb u=true):Zfu u (.node 1 m [])=(decide (u.k=1) && decide (u.n=m)):=by
 obtain⟨k,n,l⟩:=u;unfold Zfu;rw[hs,Qm,Ze3];show(decide (k=1) && (decide (n=m) && Zci Jw l []))=(decide (k=1) && decide (n=m))
 by_cases hk:k=1
 ·subst hk;have h:=(Jo (by
   have hg:=(Zh.1 hs).2.2;rw[Zo,Qn]at hg;exact hg.1)).2.2.1
  have:l=[]:=List.length_eq_zero_iff.1 (h.trans rfl);subst this;rw[show Zci Jw [] []=true from rfl,Qo]
 ·rw[Zis hk];rfl
theorem Zgo:∀{t:TM},Zb t=true→Zb (Zaw t)=true∧∀u∈Jc t,Zb u=true:=by
 intro t;induction t using TM.ind with
 | h k n l ih=>
  intro hs;by_cases hk:k=5
  ·subst hk;obtain⟨f,a,rfl,rfl,hf,ha⟩:=Zh9 (Zh.1 hs).2.2;have sf:=Zh2 Qg hs;have sa:=Zh2 (List.mem_cons_of_mem _ Qg) hs;obtain⟨h1,h2⟩:=ih f (by simp) sf;rw[Zm1,Zj5];refine⟨h1,fun u hu=> ?_⟩;rcases List.mem_append.1 hu with hu|hu
   ·exact h2 u hu
   ·rw[List.mem_singleton.1 hu];exact sa
  ·rw[Zm2 n l hk,Zj6 n l hk];exact⟨hs,fun u hu=>by cases hu⟩
theorem Zxj {t:TM}{ps bs:Nat}(hs:Zb t=true)(h1:ps≤(Jc t).length)(h2:ps≤bs):Zci Zfu ((Jc t).take ps) ((Z7 bs).take ps)=Zv (Zns t bs) ps:=by
 have l1:((Jc t).take ps).length=ps:=by rw[Qb];omega
 have l2:((Z7 bs).take ps).length=ps:=by rw[Qb,Zar];omega
 rw[Zgz (by rw[l1,l2]),l1];have:∀n,n≤ps→Zv (Zcw Zfu ((Jc t).take ps) ((Z7 bs).take ps)) n=Zv (Zns t bs) n:=by
  intro n;induction n with
  | zero=>intro _;rfl
  | succ n ih=>
   intro hn;rw[Zv,Zv,ih (by omega)];congr 1
   rw[Zd0 _ (by rw[l1];omega) (by rw[l2];omega),Qc,Qc,Zv4 (by omega)];have e:(Z7 bs)[n]'(by rw[Zar];omega)= .node 1 ((bs:Int) - 1 - (n:Int)) []:=by
    simp only[Z7,List.getElem_map,List.getElem_range];congr 1
    omega
   rw[e,Z2s ((Zgo hs).2 _ (List.getElem_mem _))]
 exact this ps (Qi _)
def Zv8 (b:Bool)(ts:List TM)(w:World)(e:Ending)(w':World):Prop:=∃A n c,e= .returned (.tuple #[.slice A n c,.bool b])∧(b=true→n=ts.length∧Ze w' 0 w'.heap.size ts A c)∧Below w.heap.size w w'
theorem Ze.take {w:World}{lo hi:Nat}{ts:List TM}{A:Option Addr}{c:Nat}(h:Ze w lo hi ts A c)(n:Nat):Ze w lo hi (ts.take n) A c:=by
 cases h with
 | mk k m l A cap F C hl hm hc hn=>
  refine Zd.mk _ _ _ A _ F C (by rw[Qb];omega) hm (fun h0=> ?_) (fun i hi0=> ?_)
  ·rw[Qb]at h0;obtain⟨b,o,e,hb,hx⟩:=hc (by omega);refine⟨b,o,e,hb,fun i hi0=> ?_⟩;rw[Qc];exact hx i (by rw[Qb]at hi0;omega)
  ·rw[Qc];exact hn i (by rw[Qb]at hi0;omega)
theorem Ze.drop {w:World}{lo hi b o:Nat}{ts:List TM}{c:Nat}(h:Ze w lo hi ts (some ⟨b,o,none⟩) c)(n:Nat)(hn':n≤ts.length):Ze w lo hi (ts.drop n) (some ⟨b,o+n*3,none⟩) (c - n):=by
 cases h with
 | mk k m l A cap F C hl hm hc hn=>
  refine Zd.mk _ _ _ _ _ (fun i=>F (n+i)) (fun i=>C (n+i)) (by rw[Qa];omega) (by omega) (fun h0=> ?_) (fun i hi0=> ?_)
  ·rw[Qa]at h0;obtain⟨b',o',e,hb,hx⟩:=hc (by omega);injection e with e;injection e with e1 e2;subst e1 e2;refine⟨b,o+n*3,rfl,hb,fun i hi0=> ?_⟩;rw[Qd,Qk,←Ql];exact hx (n+i) (by rw[Qa]at hi0;omega)
  ·rw[Qd];exact hn (n+i) (by rw[Qa]at hi0;omega)
theorem Ze.rest {w:World}{lo hi:Nat}{ts:List TM}{A:Option Addr}{c n:Nat}(h:Ze w lo hi ts A c)(hn:n≤ts.length):Ze w lo hi (ts.drop n) (if c=n then A else A.map (·.add (n*3))) (c - n):=by
 obtain⟨hl,hm⟩:=h.bounds;by_cases h0:n<ts.length
 ·obtain⟨b,o,F,C,hA, -⟩:=h.sub 0 (by omega);subst hA;rw[if_neg (by omega)];rw[Option.map_some,Addr.add_lit];exact h.drop n hn
 ·rw[Qf (by omega)];exact Zd.mk _ _ [] _ _ (fun _=>none) (fun _=>0) (Qh _) (by omega) (fun q=>by simp at q) (fun i q=>by simp at q)
theorem Zd.drop {w:World}{P:Nat→Prop}{b o:Nat}{ts:List TM}{c:Nat}(h:Zd w P (.node 0 0 ts) (some ⟨b,o,none⟩) c)(n:Nat)(hn':n≤ts.length):Zd w P (.node 0 0 (ts.drop n)) (some ⟨b,o+n*3,none⟩) (c - n):=by
 cases h with
 | mk k m l A cap F C hl hm hc hn=>
  refine Zd.mk _ _ _ _ _ (fun i=>F (n+i)) (fun i=>C (n+i)) (by rw[Qa];omega) (by omega) (fun h0=> ?_) (fun i hi0=> ?_)
  ·rw[Qa]at h0;obtain⟨b',o',e,hb,hx⟩:=hc (by omega);injection e with e;injection e with e1 e2;subst e1 e2;refine⟨b,o+n*3,rfl,hb,fun i hi0=> ?_⟩;rw[Qd,Qk,←Ql];exact hx (n+i) (by rw[Qa]at hi0;omega)
  ·rw[Qd];exact hn (n+i) (by rw[Qa]at hi0;omega)
theorem Zd.rest {w:World}{P:Nat→Prop}{ts:List TM}{A:Option Addr}{c n:Nat}(h:Zd w P (.node 0 0 ts) A c)(hn:n≤ts.length):Zd w P (.node 0 0 (ts.drop n)) (if c=n then A else A.map (·.add (n*3))) (c - n):=by
 obtain⟨hl,hm⟩:=h.bounds;by_cases h0:n<ts.length
 ·obtain⟨b,o,F,C,hA, -⟩:=h.at_ 0 (by omega);subst hA;rw[if_neg (by omega)];rw[Option.map_some,Addr.add_lit];exact h.drop n hn
 ·rw[Qf (by omega)];exact Zd.mk _ _ [] _ _ (fun _=>none) (fun _=>0) (Qh _) (by omega) (fun q=>by simp at q) (fun i q=>by simp at q)
def Zml (P:Nat→Prop)(b:Bool)(ts:List TM)(w:World)(e:Ending)(w':World):Prop:=∃A n c,e= .returned (.tuple #[.slice A n c,.bool b])∧(b=true→n=ts.length∧Zd w' (fun b=>(P b∨w.heap.size≤b)∧b<w'.heap.size) (.node 0 0 ts) A c)∧Below w.heap.size w w'
theorem Zml.plain {P:Nat→Prop}{b:Bool}{ts:List TM}{w w':World}{e:Ending}(h:Zml P b ts w e w'):Zv8 b ts w e w':=by
 obtain⟨A,n,c,h1,h2,h3⟩:=h;exact⟨A,n,c,h1,fun hb=>⟨(h2 hb).1,(h2 hb).2.imp (fun _ _ _=>rfl) (fun b hb=>⟨Qh _,hb.2⟩)⟩,h3⟩
structure Zlb (w:World) (g:Nat) (x:ET) (p:EP):Prop where
 c0:w.cell? ⟨g,0,none⟩=some (.int .i64 x.k)
 c1:w.cell? ⟨g,1,none⟩=some (.string x.s)
 c2:w.cell? ⟨g,2,none⟩=some (.int .i64 x.t.k)
 c3:w.cell? ⟨g,3,none⟩=some (.int .i64 x.t.n)
 c4:w.cell? ⟨g,4,none⟩=some (.slice p.T x.t.l.length p.tc)
 c5:w.cell? ⟨g,5,none⟩=some (.int .i64 x.b.k)
 c6:w.cell? ⟨g,6,none⟩=some (.int .i64 x.b.n)
 c7:w.cell? ⟨g,7,none⟩=some (.slice p.B x.b.l.length p.bc)
 c8:w.cell? ⟨g,8,none⟩=some (.int .i64 x.f)
 c9:w.cell? ⟨g,9,none⟩=some (.int .i64 x.p)
 c10:w.cell? ⟨g,10,none⟩=some (.int .i64 x.a)
 c11:w.cell? ⟨g,11,none⟩=some (.int .i64 x.i)
 c12:w.cell? ⟨g,12,none⟩=some (.int .i64 x.v)
 c13:w.cell? ⟨g,13,none⟩=some (.slice p.C x.c.length p.cc)
 c14:w.cell? ⟨g,14,none⟩=some (.slice p.D x.d.length p.dc)
theorem Bk.boxE {w:World}{g:Nat}{e:TypeId}{x:ET}{p:EP}(h:Bk w g e (Z1 x p)):Zlb w g x p:=
 ⟨h.cell 0,h.cell 1,h.cell 2,h.cell 3,h.cell 4,h.cell 5,h.cell 6,h.cell 7,h.cell 8,h.cell 9,h.cell 10,h.cell 11,h.cell 12,h.cell 13,h.cell 14⟩
theorem Zoq (t:TM):(Zb t=true∧Zz t≤24∧Ze1 t=(Jq t,Zaj t,0))∨((Zb t && decide (Zz t≤24))=false∧∃c,Ze1 t=([],.node 0 0 [],c)∧(c=5∨c=2)):=by
 cases hs:Zb t with
 | false=>exact .inr ⟨rfl,5,Zt4 hs,.inl rfl⟩
 | true=>
  by_cases h:Zz t≤24
  ·exact .inl ⟨rfl,h,Znt hs h⟩
  ·exact .inr ⟨by rw[Zis h];rfl,2,Zqe hs (by omega),.inr rfl⟩
theorem Zos {l:List ET}{i:Nat}{c:List Int}{k:Int}(h:Zc1 l i ((i+1:Nat):Int) c k=true)(hc:c.length=1):∃h:i+1<l.length,l[i+1].k=k:=by
 unfold Zc1 at h;rw[hc]at h;have h1:=Zay.1 h 0 (by omega);unfold Ze8 at h1;rw[Qe (by omega)]at h1;simp only[Zf4,Qn,decide_eq_true_eq]at h1;obtain⟨e1,e2,_⟩:=h1;obtain⟨m,e3,hm,hk⟩:=Zat e2;have:m=i+1:=by omega
 subst this;exact⟨hm,hk⟩
theorem Z5r (l:List ET)(A:Option Addr)(cap i:Nat)(hi:i<l.length)(lo hh:Nat)(w:World)(hl:l.length≤600)(hn:Zr w lo hh A l)(hhh:hh≤w.heap.size)(hS:Zi w)
    (ha:0≤l[i].a∧l[i].a≤24) (hb:Zc1 l i ((i+1:Nat):Int) l[i].c 2=true):
    Calls prog 128 #[.slice A l.length cap,.int .i64 i] w fun e w'=>e= .returned (.bool (Zng l i l[i]))∧Below w.heap.size w w':=by
  obtain⟨b,o,p,hA,hb1,hb2,hx,hent⟩:=hn i hi;have HNX:=hid (fun(hc:l[i].c.length=1)=>Zos hb hc);have HN:=hid hn;have HBE:=hid (fun V (hV:Below w.heap.size w V)=>Zpt l A p.D cap p.dc i ((i+2:Nat):Int) 4 l[i].d lo hh lo hh V hl (hn.kept hV hhh) (hent.hd.kept hV hhh) (Qj hent.ld hent.md) (by omega));have hdl:=Qj hent.ld hent.md;have hcl:=Qj hent.lc hent.mc;have HSS:=hid (fun V (hV:Below w.heap.size w V)=>hS.kept hV);obtain⟨z,hz⟩:∃z,Zng l i l[i]=z:=⟨_,rfl⟩;rw[hz];unfold Zng Ziq Z1k at hz;obtain⟨bd,hbd⟩:∃r,Zc1 l i ((i:Int)+2) l[i].d 4=r:=⟨_,rfl⟩;rw[hbd]at hz;rw[show(((i+2:Nat):Int))=(i:Int)+2 by omega,hbd]at HBE;clear hbd hb;obtain⟨x,hxx⟩:∃x,l[i]=x:=⟨_,rfl⟩;rw[hxx]at hx hz HNX HBE hdl hcl ha;obtain⟨x0,x1,x2,x3,x4,x5,x6,x7,x8,x9,x10,x11,x12,x13,x14⟩:=hx;subst hA;have hbw:b<w.heap.size:=by omega
  have hi0':(i:Int)<(l.length:Int):=by omega
  have hi1:(i:Int)<600:=by omega
  unfold maxLen at hdl hcl;have hdl':(x.d.length:Int)≤9223372036854775807:=by omega
  have HZ:=hid hz;have HB1:=hid (show Below w.heap.size w (w.alloc (.cells (Z1 x p) 36))from(Below.refl _ _).alloc (Qi _) _);have KB:=hid (fun V (hV:Below (w.alloc (.cells (Z1 x p) 36)).heap.size (w.alloc (.cells (Z1 x p) 36)) V)=>(show Zlb V w.heap.size x p from((Bk.new w 36 (Z1 x p)).below hV (by simp)).boxE));have hll:=hl;clear hz hxx hent hn hdl hcl hS hl hb1;obtain⟨ha0,ha24⟩:=ha;unfold Z1 at HB1 KB;by_cases h1:x.i=0
  case neg=>
    have t0:(x.i !=0)=true:=by simpa using h1
    obtain rfl:z=false:=by rw[←HZ.out,Zis h1];rfl
    clear h1;go_enter func128,ntmps128;go_wp2_with fail;go_ret;exact⟨rfl,HB1.out⟩
  have t0:(x.i !=0)=false:=by simpa using h1
  by_cases h2:x.c.length=1
  case neg=>
    have t1:((x.c.length:Int) !=1)=true:=by simp;omega
    obtain rfl:z=false:=by rw[←HZ.out,Zis h2];simp
    clear h1 h2;go_enter func128,ntmps128;go_wp2_with fail;go_ret;exact⟨rfl,HB1.out⟩
  have t1:((x.c.length:Int) !=1)=false:=by simp;omega
  obtain⟨hi2,_⟩:=HNX.out h2;obtain⟨b',o',p',hA',_,_,hy,henty⟩:=HN.out (i+1) hi2;obtain⟨rfl,rfl⟩:b=b'∧o=o':=by
    injection hA' with q;injection q with q1 q2;exact⟨q1,q2⟩
  have y2:=hy.c2;have y3:=hy.c3;have y4:=hy.c4;have hz2:=HZ.out;rw[decide_eq_true h1,decide_eq_true h2,Qe hi2]at hz2;simp only[Qm]at hz2;obtain⟨y,hyy⟩:∃y,l[i+1]=y:=⟨_,rfl⟩;have hyt:=henty.ht;rw[hyy]at y2 y3 y4 hz2 hyt;have CW:=hid (fun V (hV:Below w.heap.size w V)=>Zkk y.t p'.T p'.tc V ((hyt.kept hV hhh).wide (Qh _) (by have:=hV.size;omega)) (HSS.out V hV));have HTF:=hid (fun(h:Zb y.t=true)=>(Zcy h).1);have HWC:=hid (Zoq y.t);have wr1:IntKind.i64.wrap ((i:Int)+1)=((i+1:Nat):Int):=by rw[Qp _ (by omega)];omega
  have wr2:IntKind.i64.wrap ((i:Int)+2)=(i:Int)+2:=Qp _ (by omega);have hi2':((i+1:Nat):Int)<(l.length:Int):=by omega
  have HZ2:=hid hz2;obtain⟨R,hR⟩:∃R,Ze1 y.t=R:=⟨_,rfl⟩;unfold Zbk at CW;rw[hR]at CW HWC;unfold Zc at CW;clear hz2 hyy henty hyt hy h1 h2 hA' hR HZ HNX HN;go_enter func128,ntmps128;go_wp2_with fail;refine(CW.out _ HB1.out).mono ?_;rintro e w1 ⟨A1,c1,B1,d1,rfl, -, -,hb1⟩;have HBX:=hid (HB1.out.trans (hb1.mono (by simp)));obtain⟨c0,c1',c2,c3,c4,c5,c6,c7,c8,c9,c10,c11,c12,c13,c14⟩:=KB.out _ hb1;have hsz1:w.heap.size<w1.heap.size:=by have:=hb1.size;simp at this;omega
  have HBA:=hid (fun o=>HBX.out.alloc HBX.out.size o);clear hb1 CW x0 x1 x2 x3 x4 x5 x6 x7 x8 x9 x10 x11 x12 x13 x14 y2 y3 y4;rcases HWC.out with ⟨hs,h24,hR⟩|⟨hno,c,hR,hc⟩
  · subst hR;have hlt:=HTF.out hs;have HZ3:Hid ((decide ((Zz y.t:Int)=x.a+(x.d.length:Int)) && bd)=z):=hid (by
      have:=HZ2.out;rw[hs,decide_eq_true h24]at this;simpa using this)
    simp only[hlt]at*;obtain⟨m,hm⟩:∃m,Zz y.t=m:=⟨_,rfl⟩;rw[hm]at h24 HZ3⊢;have w3':IntKind.i64.wrap ((m:Int) - x.a)=(m:Int) - x.a:=Qp _ (by omega);clear hm hlt hs HZ2 HTF;by_cases h3:(m:Int)=x.a+(x.d.length:Int)
    · have t3:((x.d.length:Int)==(m:Int) - x.a)=true:=by simp;omega
      obtain rfl:bd=z:=by rw[←HZ3.out,decide_eq_true h3];rfl
      clear h3 HZ3;go_wp2_with fail;refine(HBE.out _ (HBA.out _)).mono ?_;rintro e w2 ⟨rfl,rfl⟩;go_wp2_with fail;go_ret;exact⟨rfl,HBA.out _⟩
    · have t3:((x.d.length:Int)==(m:Int) - x.a)=false:=by simp;omega
      obtain rfl:z=false:=by rw[←HZ3.out,Zis h3];rfl
      clear h3 HZ3;go_wp2_with fail;go_ret;exact⟨rfl,HBA.out _⟩
  · subst hR;obtain rfl:z=false:=by
      rw[←HZ2.out];cases hs:Zb y.t with
      | false=>rfl
      | true=>rw[hs]at hno;simp at hno;rw[Zis (show ¬ Zz y.t≤24 by omega)];simp
    have tc:(c==0)=false:=by rcases hc with rfl|rfl<;>rfl
    clear hno hc HZ2;go_wp2_with fail;go_ret;exact⟨rfl,HBA.out _⟩
