import Derived.Test.YtchllgkgjompgaaGreatDoorS1
import Derived.Test.YtchllgkgjompgaaGreatDoorSgClosed
import Derived.Test.YtchllgkgjompgaaGreatDoorM8
import Derived.Test.YtchllgkgjompgaaGreatDoorM9
import Derived.Test.YtchllgkgjompgaaGreatDoorR4
import Derived.Test.YtchllgkgjompgaaGreatDoorA3
import Derived.RegionTactic
import Derived.LoopTactic
namespace Go.Proofs.YtchllgkgjompgaaGreatDoor
open Go.RowKit
set_option linter.unusedVariables false
set_option maxRecDepth 100000
open Lib(hid)
def telT (t:TM):List TM:=((takeT (pisN t) t).map (·.1)).getD []
def benT (t:TM):TM:=((takeT (pisN t) t).map (·.2)).getD t
theorem tel_not {t:TM} (h:t.k≠3):telT t=[]∧benT t=t:=by
 unfold telT benT;rw[pisN_not h];exact⟨rfl,rfl⟩
theorem take_pis:∀{t:TM},tgoodB t=true→takeT (pisN t) t=some (telT t,benT t):=by
 intro t;induction t using TM.ind with
 | h k n l ih=>
  intro hg;by_cases hk:k=3
  ·obtain⟨n',a,b,e,ha,hb⟩:=pi_parts hg hk;injection e with e1 e2 e3;subst e1 e2 e3;have h1:=ih b (by simp) hb;unfold telT benT;rw[pisN_pi,takeT_pi,h1];rfl
  ·unfold telT benT;rw[pisN_not (t:= .node k n l) hk];rfl
theorem tel_pi {n:Int} {a b:TM} (hb:tgoodB b=true):telT (.node 3 n [a,b])=a::telT b∧benT (.node 3 n [a,b])=benT b:=by
 have h1:=take_pis hb;unfold telT benT;rw[pisN_pi,takeT_pi,h1];exact⟨rfl,rfl⟩
theorem tel_facts:∀{t:TM},shapedB t=true→(telT t).length=pisN t∧(benT t).k≠3∧shapedB (benT t)=true∧∀u∈telT t,shapedB u=true:=by
 intro t;induction t using TM.ind with
 | h k n l ih=>
  intro hs;have hg:=(shapedB_true.1 hs).2.2;by_cases hk:k=3
  ·obtain⟨n',a,b,e,ha,hb⟩:=pi_parts hg hk;injection e with e1 e2 e3;subst e1 e2 e3;obtain⟨sa,sb⟩:=pi_shaped hs;obtain⟨h1,h2,h3,h4⟩:=ih b (by simp) sb;obtain⟨q1,q2⟩:=tel_pi (n:=n) (a:=a) hb;rw[q1,q2];refine⟨by rw[List.length_cons,h1,pisN_pi],h2,h3,fun u hu=> ?_⟩;rcases List.mem_cons.1 hu with rfl|hu
   ·exact sa
   ·exact h4 u hu
  ·obtain⟨q1,q2⟩:=tel_not (t:= .node k n l) hk;rw[q1,q2];exact⟨by rw[pisN_not (t:= .node k n l) hk];rfl,hk,hs,fun u hu=>by cases hu⟩
theorem take_some:∀{t:TM} {m:Nat},shapedB t=true→m≤pisN t→∃u,takeT m t=some ((telT t).take m,u):=by
 intro t;induction t using TM.ind with
 | h k n l ih=>
  intro m hs hm;have hg:=(shapedB_true.1 hs).2.2;cases m with
  | zero=>exact⟨_,rfl⟩
  | succ m=>
   by_cases hk:k=3
   ·obtain⟨n',a,b,e,ha,hb⟩:=pi_parts hg hk;injection e with e1 e2 e3;subst e1 e2 e3;rw[pisN_pi]at hm;obtain⟨u,hu⟩:=ih b (by simp) (pi_shaped hs).2 (m:=m) (by omega);exact⟨u,by rw[takeT_pi,hu,(tel_pi hb).1];rfl⟩
   ·rw[pisN_not (t:= .node k n l) hk]at hm;omega
theorem take_none:∀{t:TM} {m:Nat},tgoodB t=true→pisN t<m→takeT m t=none:=by
 intro t;induction t using TM.ind with
 | h k n l ih=>
  intro m hg hm;cases m with
  | zero=>omega
  | succ m=>
   by_cases hk:k=3
   ·obtain⟨n',a,b,e,ha,hb⟩:=pi_parts hg hk;injection e with e1 e2 e3;subst e1 e2 e3;rw[pisN_pi]at hm;rw[takeT_pi,ih b (by simp) hb (m:=m) (by omega)];rfl
   ·exact takeT_not hk
theorem split_few {t:TM} {m:Nat} (hs:shapedB t=true) (h1:m≤24) (h2:m≤pisN t):∃u,splitX t (m:Int)=((telT t).take m,u,0)∧takeT m t=some ((telT t).take m,u):=by
 obtain⟨u,hu⟩:=take_some hs h2;exact⟨u,split_some hs h1 hu,hu⟩
theorem split_many {t:TM} {m:Nat} (hs:shapedB t=true) (h1:m≤24) (h2:pisN t<m):splitX t (m:Int)=([],.node 0 0 [],6):=
 split_none hs h1 (take_none (shapedB_true.1 hs).2.2 h2)
theorem whole_few {t:TM} (hs:shapedB t=true) (h1:pisN t≤24):wholeX t=(telT t,benT t,0):=by
 rw[whole_yes hs];exact split_some hs h1 (take_pis (shapedB_true.1 hs).2.2)
theorem whole_many {t:TM} (hs:shapedB t=true) (h1:24<pisN t):wholeX t=([],.node 0 0 [],2):=by
 rw[whole_yes hs];exact split_long (by rw[hs,decide_eq_true (show(0:Int)≤(pisN t:Int)by omega)];rfl) (by omega)
def varB (t:TM) (bs j:Nat):Bool:=match (argsT t)[j]? with|some u=>decide (u.k=1) && decide (u.n=(bs:Int) - 1 - (j:Int))|none=>false
def appB (t:TM) (d:Int) (ps mo bs:Nat):Bool:=decide ((headT t).k=6) && (decide ((headT t).n=d) && (decide ((argsT t).length=ps+mo) && allB (varB t bs) ps))
def placeOk (l:List ET) (i first kind n:Int) (q:Nat):Bool:=
 decide (n=first+(q:Int)) && (isB l n kind && match l[n.toNat]? with|some y=>decide (y.f=i) && decide (y.p=(q:Int))|none=>false)
def behQ (l:List ET) (i first:Int) (places:List Int) (kind:Int) (q:Nat):Bool:=match places[q]? with|some n=>placeOk l i first kind n q|none=>false
def behB (l:List ET) (i first:Int) (places:List Int) (kind:Int):Bool:=allB (behQ l i first places kind) places.length
def sortB (x:ET):Bool:=decide ((splitX x.t (x.a+x.i)).2.2=0) && (decide ((splitX x.t (x.a+x.i)).2.1.k=2) && decide ((splitX x.t (x.a+x.i)).2.1.n=x.v))
def cntB (l:List ET) (i:Nat) (x:ET):Bool:=match l[i+1]? with|some y=>shapedB y.t && decide ((pisN y.t:Int)=x.a+(x.d.length:Int))|none=>false
def fewB (l:List ET) (i:Nat):Bool:=match l[i+1]? with|some y=>decide (pisN y.t≤24)|none=>false
def recB (l:List ET) (i:Nat) (x:ET):Bool:=decide (x.i=0) && (decide (x.c.length=1) && ((cntB l i x && fewB l i) && behB l i (i+2) x.d 4))
def famB (l:List ET) (i:Nat) (x:ET):Bool:=
 decide (0≤x.a) && (decide (0≤x.i) && (decide (x.a+x.i≤24) && (decide (x.c.length≤16) && (sortB x && (behB l i (i+1) x.c 2 && (decide (x.d.length=0)||recB l i x))))))
def famAt (l:List ET) (x:ET):Option ET:=if 0≤x.f then l[x.f.toNat]? else none
def conB (l:List ET) (i:Nat) (x:ET):Bool:=isB (l.take i) x.f 1 && match famAt l x with
 | some y=>y.c.contains (i:Int) && (decide (x.a=y.a) && (decide (pisN x.t≤24) && (decide (x.a≤(pisN x.t:Int)) && appB (benT x.t) x.f x.a.toNat y.i.toNat (pisN x.t))))
 | none=>false
def fldT (x:ET):TM:=((telT x.t)[x.a.toNat]?).getD (.node 0 0 [])
def fldB (l:List ET) (i:Nat) (x:ET):Bool:=isB (l.take i) x.f 1 && match famAt l x with
 | some y=>y.d.contains (i:Int) && (decide (x.a=y.a) && (decide (x.a+1≤24) && (decide (x.a+1≤(pisN x.t:Int)) && appB (fldT x) x.f x.a.toNat y.i.toNat x.a.toNat)))
 | none=>false
def FamOk (l:List ET) (i:Nat):Prop:=∀j (h:j<l.length),j<i→l[j].k=1→0≤l[j].a∧0≤l[j].i∧l[j].a+l[j].i≤24
theorem beh_room {l:List ET} {i first kind:Int} {places:List Int} {q:Nat} (hl:l.length≤600) (hf:0≤first∧first≤1000) (h:allB (behQ l i first places kind) q=true) (hq:q≤places.length):first+(q:Int)≤1700:=by
 cases q with
 | zero=>omega
 | succ q=>
  have h1:=allB_true.1 h q (by omega);unfold behQ at h1;rw[List.getElem?_eq_getElem (by omega)]at h1;simp only[placeOk,Bool.and_eq_true,decide_eq_true_eq]at h1;obtain⟨e1,e2,_⟩:=h1;obtain⟨m,e3,hm,_⟩:=isB_true e2;omega
set_option maxHeartbeats 4000000 in
theorem behind_any (l:List ET) (A P:Option Addr) (cap pc:Nat) (i first kind:Int) (places:List Int) (lo hi lo' hi':Nat) (w:World) (hl:l.length≤600) (hn:EntsAt w lo hi A l) (hp:IntRow w lo' hi' P places) (hpl:places.length≤maxLen) (hf:0≤first∧first≤1000):
  Calls Tryz.prog 207 #[.slice A l.length cap,.int .i64 i,.int .i64 first,.slice P places.length pc,.int .i64 kind] w fun e w'=>e= .returned (.bool (behB l i first places kind))∧w=w':=by
 have HP:=hid hp;have HN:=hid hn;have HIS:=hid (fun n=>isOf_any l A cap lo hi n kind w (by unfold maxLen;omega) hn);have HRM:=hid (fun q=>beh_room (l:=l) (i:=i) (first:=first) (kind:=kind) (places:=places) (q:=q) hl hf);obtain⟨z,hz⟩:∃z,behB l i first places kind=z:=⟨_,rfl⟩
 rw[hz];have HZ:=hid hz;unfold maxLen at hpl;have hll:(l.length:Int)≤600:=by omega
 have hpl':(places.length:Int)≤9223372036854775807:=by omega
 have HF:=hid hf;clear hz hn hp hl hpl hf;go_enter Tryz.func207,Tryz.ntmps207;go_wp2_with fail;go_loopw [15] (fun iv wr=>∃q:Nat,q≤places.length∧iv= .int .i64 q∧w=wr∧Hid (allB (behQ l i first places kind) q=true)) (fun iv _=>places.length - (intOf iv).toNat)
 case atStart=>exact⟨0,Nat.zero_le _,rfl,rfl,hid rfl⟩
 case round=>
  obtain⟨q,hq1,rfl,rfl,HQ⟩:=hrel;by_cases hql:q<places.length
  ·obtain⟨b,o,rfl,_,_,hc⟩:=HP.out q hql;have hrm:=HRM.out q HQ.out hq1;have hf0:=HF.out.1;have hno:Hid (behQ l i first places kind q=false→z=false):=hid (fun h=>by rw[←HZ.out];exact allB_noM hql h);have hyes:Hid (behQ l i first places kind q=true→allB (behQ l i first places kind) (q+1)=true):=hid (fun h=>by rw[allB,HQ.out,h];rfl);have hqq:behQ l i first places kind q=placeOk l i first kind places[q] q:=by unfold behQ;rw[List.getElem?_eq_getElem hql]
   rw[hqq]at hno hyes;obtain⟨n,hn⟩:∃n,places[q]=n:=⟨_,rfl⟩;rw[hn]at hno hyes hc;unfold placeOk at hno hyes;have hi0':(q:Int)<(places.length:Int):=by omega
   have wr1:IntKind.i64.wrap (first+(q:Int))=first+(q:Int):=IntWalk.i64_in _ (by omega)
   clear hqq hn HRM;by_cases hne:n=first+(q:Int)
   case neg=>
    have t0:(n !=first+(q:Int))=true:=by simpa using hne
    obtain rfl:z=false:=hno.out (by rw[decide_eq_false hne];rfl);clear hne hno hyes;go_wp2_with fail;go_ret;exact⟨rfl,rfl⟩
   have t0:(n !=first+(q:Int))=false:=by simpa using hne
   rw[decide_eq_true hne,Bool.true_and]at hno hyes;have HI:=hid (HIS.out n);obtain⟨rb,hrb⟩:∃r,isB l n kind=r:=⟨_,rfl⟩;rw[hrb]at HI hno hyes;cases rb with
   | false=>
    obtain rfl:z=false:=hno.out rfl;clear hne hno hyes hrb;go_wp2_with fail;refine HI.out.mono ?_;rintro e w1 ⟨rfl,rfl⟩;go_wp2_with fail;go_ret;exact⟨rfl,rfl⟩
   | true=>
    obtain⟨m,rfl,hm,_⟩:=isB_true hrb;obtain⟨b2,o2,p2,rfl,_,_,hx,_⟩:=HN.out m hm;have y8:=hx.c8;have y9:=hx.c9;have em:l[((m:Int)).toNat]? =some l[m]:=by rw[Int.toNat_natCast];exact List.getElem?_eq_getElem hm
    rw[em]at hno hyes;obtain⟨y,hy⟩:∃y,l[m]=y:=⟨_,rfl⟩;rw[hy]at y8 y9 hno hyes;simp only[Bool.true_and]at hno hyes;have hm0':(m:Int)<(l.length:Int):=by omega
    have HNE:=hid hne;clear hy em hx hrb HN hne;by_cases hyf:y.f=i
    case neg=>
     have t1:(y.f !=i)=true:=by simpa using hyf
     obtain rfl:z=false:=hno.out (by rw[decide_eq_false hyf];rfl);clear hyf hno hyes;go_wp2_with fail;refine HI.out.mono ?_;rintro e w1 ⟨rfl,rfl⟩;go_wp2_with fail;go_ret;exact⟨rfl,rfl⟩
    have t1:(y.f !=i)=false:=by simpa using hyf
    rw[decide_eq_true hyf,Bool.true_and]at hno hyes;by_cases hyp:y.p=(q:Int)
    case neg=>
     have t2:(y.p !=(q:Int))=true:=by simpa using hyp
     obtain rfl:z=false:=hno.out (by rw[decide_eq_false hyp]);clear hyf hyp hno hyes;go_wp2_with fail;refine HI.out.mono ?_;rintro e w1 ⟨rfl,rfl⟩;go_wp2_with fail;go_ret;exact⟨rfl,rfl⟩
    have t2:(y.p !=(q:Int))=false:=by simpa using hyp
    have HY:=hid (hyes.out (by rw[decide_eq_true hyp]));clear hyf hyp hno hyes;go_wp2_with fail;refine HI.out.mono ?_;rintro e w1 ⟨rfl,rfl⟩;go_wp2_with fail;go_roundw
    case rel=>exact⟨q+1,by omega,by go_num,by first|rfl|trivial,hid HY.out⟩
    case measure=>simp[intOf];omega
  ·obtain rfl:q=places.length:=by omega
   obtain rfl:z=true:=by rw[←HZ.out];exact HQ.out
   go_wp2_with fail;go_ret;exact⟨rfl,rfl⟩
end Go.Proofs.YtchllgkgjompgaaGreatDoor
