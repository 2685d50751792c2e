import Derived.Test.YtinlmmaokphhbaaGreatDoorS1
import Derived.Test.YtinlmmaokphhbaaGreatDoorSgClosed
import Derived.Test.YtinlmmaokphhbaaGreatDoorM8
import Derived.Test.YtinlmmaokphhbaaGreatDoorM9
import Derived.Test.YtinlmmaokphhbaaGreatDoorR4
import Derived.Test.YtinlmmaokphhbaaGreatDoorA3
import Derived.RegionTactic
import Derived.LoopTactic
namespace Go.Proofs.YtinlmmaokphhbaaGreatDoor
set_option maxHeartbeats 4000000
set_option maxRecDepth 100000
open Go.RowKit
set_option linter.unusedVariables false
open Lib(hid)
open Go.Proofs.Tryz
open _root_.List renaming getElem?_eq_getElem→Qa
open _root_.Bool renaming true_and→Qb
def Jq (t:TM):List TM:=((Ju (Zz t) t).map (·.1)).getD []
def Zaj (t:TM):TM:=((Ju (Zz t) t).map (·.2)).getD t
theorem Zn6 {t:TM}(h:t.k≠3):Jq t=[]∧Zaj t=t:=by
 unfold Jq Zaj;rw[Zgu h];exact⟨rfl,rfl⟩
theorem Ztx:∀{t:TM},Zg t=true→Ju (Zz t) t=some (Jq t,Zaj t):=by
 intro t;induction t using TM.ind with
 | h k n l ih=>
  intro hg;by_cases hk:k=3
  ·obtain⟨n',a,b,e,ha,hb⟩:=Zdl hg hk;injection e with e1 e2 e3;subst e1 e2 e3;have h1:=ih b (by simp) hb;unfold Jq Zaj;rw[Zhu,Zfs,h1];rfl
  ·unfold Jq Zaj;rw[Zgu (t:= .node k n l) hk];rfl
theorem Znr {n:Int}{a b:TM}(hb:Zg b=true):Jq (.node 3 n [a,b])=a::Jq b∧Zaj (.node 3 n [a,b])=Zaj b:=by
 have h1:=Ztx hb;unfold Jq Zaj;rw[Zhu,Zfs,h1];exact⟨rfl,rfl⟩
theorem Zcy:∀{t:TM},Zb t=true→(Jq t).length=Zz t∧(Zaj t).k≠3∧Zb (Zaj t)=true∧∀u∈Jq t,Zb u=true:=by
 intro t;induction t using TM.ind with
 | h k n l ih=>
  intro hs;have hg:=(Zh.1 hs).2.2;by_cases hk:k=3
  ·obtain⟨n',a,b,e,ha,hb⟩:=Zdl hg hk;injection e with e1 e2 e3;subst e1 e2 e3;obtain⟨sa,sb⟩:=Znc hs;obtain⟨h1,h2,h3,h4⟩:=ih b (by simp) sb;obtain⟨q1,q2⟩:=Znr (n:=n) (a:=a) hb;rw[q1,q2];refine⟨by rw[List.length_cons,h1,Zhu],h2,h3,fun u hu=> ?_⟩;rcases List.mem_cons.1 hu with rfl|hu
   ·exact sa
   ·exact h4 u hu
  ·obtain⟨q1,q2⟩:=Zn6 (t:= .node k n l) hk;rw[q1,q2];exact⟨by rw[Zgu (t:= .node k n l) hk];rfl,hk,hs,fun u hu=>by cases hu⟩
theorem Z0k:∀{t:TM} {m:Nat},Zb t=true→m≤Zz t→∃u,Ju m t=some ((Jq t).take m,u):=by
 intro t;induction t using TM.ind with
 | h k n l ih=>
  intro m hs hm;have hg:=(Zh.1 hs).2.2;cases m with
  | zero=>exact⟨_,rfl⟩
  | succ m=>
   by_cases hk:k=3
   ·obtain⟨n',a,b,e,ha,hb⟩:=Zdl hg hk;injection e with e1 e2 e3;subst e1 e2 e3;rw[Zhu]at hm;obtain⟨u,hu⟩:=ih b (by simp) (Znc hs).2 (m:=m) (by omega);exact⟨u,by rw[Zfs,hu,(Znr hb).1];rfl⟩
   ·rw[Zgu (t:= .node k n l) hk]at hm;omega
theorem Z0j:∀{t:TM} {m:Nat},Zg t=true→Zz t<m→Ju m t=none:=by
 intro t;induction t using TM.ind with
 | h k n l ih=>
  intro m hg hm;cases m with
  | zero=>omega
  | succ m=>
   by_cases hk:k=3
   ·obtain⟨n',a,b,e,ha,hb⟩:=Zdl hg hk;injection e with e1 e2 e3;subst e1 e2 e3;rw[Zhu]at hm;rw[Zfs,ih b (by simp) hb (m:=m) (by omega)];rfl
   ·exact Zim hk
theorem Z0f {t:TM}{m:Nat}(hs:Zb t=true)(h1:m≤24)(h2:m≤Zz t):∃u,Zt t (m:Int)=((Jq t).take m,u,0)∧Ju m t=some ((Jq t).take m,u):=by
 obtain⟨u,hu⟩:=Z0k hs h2;exact⟨u,Zjf hs h1 hu,hu⟩
theorem Zxx {t:TM}{m:Nat}(hs:Zb t=true)(h1:m≤24)(h2:Zz t<m):Zt t (m:Int)=([],.node 0 0 [],6):=
 Zl9 hs h1 (Z0j (Zh.1 hs).2.2 h2)
theorem Znt {t:TM}(hs:Zb t=true)(h1:Zz t≤24):Ze1 t=(Jq t,Zaj t,0):=by
 rw[Znu hs];exact Zjf hs h1 (Ztx (Zh.1 hs).2.2)
theorem Zqe {t:TM}(hs:Zb t=true)(h1:24<Zz t):Ze1 t=([],.node 0 0 [],2):=by
 rw[Znu hs];exact Zje (by rw[hs,decide_eq_true (show(0:Int)≤(Zz t:Int)by omega)];rfl) (by omega)
def Zns (t:TM)(bs j:Nat):Bool:=match (Jc t)[j]? with|some u=>decide (u.k=1) && decide (u.n=(bs:Int) - 1 - (j:Int))|none=>false
def Zbu (t:TM)(d:Int)(ps mo bs:Nat):Bool:=decide ((Zaw t).k=6) && (decide ((Zaw t).n=d) && (decide ((Jc t).length=ps+mo) && Zv (Zns t bs) ps))
def Zf4 (l:List ET)(i first kind n:Int)(q:Nat):Bool:=
 decide (n=first+(q:Int)) && (isB l n kind && match l[n.toNat]? with|some y=>decide (y.f=i) && decide (y.p=(q:Int))|none=>false)
def Ze8 (l:List ET)(i first:Int)(places:List Int)(kind:Int)(q:Nat):Bool:=match places[q]? with|some n=>Zf4 l i first kind n q|none=>false
def Zc1 (l:List ET)(i first:Int)(places:List Int)(kind:Int):Bool:=Zv (Ze8 l i first places kind) places.length
def Zh4 (x:ET):Bool:=decide ((Zt x.t (x.a+x.i)).2.2=0) && (decide ((Zt x.t (x.a+x.i)).2.1.k=2) && decide ((Zt x.t (x.a+x.i)).2.1.n=x.v))
def Ziq (l:List ET)(i:Nat)(x:ET):Bool:=match l[i+1]? with|some y=>Zb y.t && decide ((Zz y.t:Int)=x.a+(x.d.length:Int))|none=>false
def Z1k (l:List ET)(i:Nat):Bool:=match l[i+1]? with|some y=>decide (Zz y.t≤24)|none=>false
def Zng (l:List ET)(i:Nat)(x:ET):Bool:=decide (x.i=0) && (decide (x.c.length=1) && ((Ziq l i x && Z1k l i) && Zc1 l i (i+2) x.d 4))
def Ztm (l:List ET)(i:Nat)(x:ET):Bool:=decide (x.i=0) && (decide (x.c.length=1) && (Zc1 l i (i+2) x.d 4 && Ziq l i x))
def Zg8 (l:List ET)(i:Nat)(x:ET):Bool:=
 decide (0≤x.a) && (decide (0≤x.i) && (decide (x.a+x.i≤24) && (decide (x.c.length≤16) && (Zh4 x && (Zc1 l i (i+1) x.c 2 && (decide (x.d.length=0)||Zng l i x))))))
def Zlq (l:List ET)(i:Nat)(x:ET):Bool:=
 decide (0≤x.a) && (decide (0≤x.i) && (decide (x.a+x.i≤24) && (decide (x.f=0) && (decide (x.p=0) && (Zdc x.b && (Zh4 x && (decide (x.c.length≤16) && (Zc1 l i (i+1) x.c 2 && (decide (x.d.length=0)||Ztm l i x)))))))))
def Zkb (l:List ET)(x:ET):Option ET:=if 0≤x.f then l[x.f.toNat]? else none
def Zkm (l:List ET)(i:Nat)(x:ET):Bool:=isB (l.take i) x.f 1 && match Zkb l x with
 | some y=>y.c.contains (i:Int) && (decide (x.a=y.a) && (decide (Zz x.t≤24) && (decide (x.a≤(Zz x.t:Int)) && Zbu (Zaj x.t) x.f x.a.toNat y.i.toNat (Zz x.t))))
 | none=>false
def Zgm (x:ET):TM:=((Jq x.t)[x.a.toNat]?).getD (.node 0 0 [])
def Zmz (l:List ET)(i:Nat)(x:ET):Bool:=isB (l.take i) x.f 1 && match Zkb l x with
 | some y=>y.d.contains (i:Int) && (decide (x.a=y.a) && (decide (x.a+1≤24) && (decide (x.a+1≤(Zz x.t:Int)) && Zbu (Zgm x) x.f x.a.toNat y.i.toNat x.a.toNat)))
 | none=>false
def Zdx (x y:ET):List Int:=if x.k=4 then y.d else y.c
def atB (x:ET)(i:Nat)(places:List Int)(q:Nat):Bool:=match places[q]? with|some n=>decide (n=(i:Int)) && decide (x.p=(q:Int))|none=>false
def Zht (l:List ET)(i:Nat)(x:ET):Bool:=isB l x.f 1 && (decide (x.f<(i:Int)) && (Zdc x.b && (decide (x.i=0) && (decide (x.v=0) && (decide (x.c.length=0) && (decide (x.d.length=0) &&
 match Zkb l x with|some y=>decide (x.a=y.a) && !(Zv (fun q=> !atB x i (Zdx x y) q) (Zdx x y).length)|none=>false))))))
def Zwn (i:Nat)(x:ET):Bool:=J4 x.b i && (decide (x.f=0) && (decide (x.p=0) && (decide (x.a=0) && (decide (x.i=0) && (decide (x.v=0) && (decide (x.c.length=0) && decide (x.d.length=0)))))))
def Zll (l:List ET)(x:ET):Bool:=decide (Zz x.t≤24) && (decide (x.a≤(Zz x.t:Int)) && match Zkb l x with|some y=>Zbu (Zaj x.t) x.f x.a.toNat y.i.toNat (Zz x.t)|none=>false)
def Zm0 (l:List ET)(x:ET):Bool:=decide (x.a+1≤24) && (decide (x.a+1≤(Zz x.t:Int)) && Zbu (Zgm x) x.f x.a.toNat 0 x.a.toNat)
def Zj3 (l:List ET)(i:Nat):Prop:=∀j (h:j<l.length),j<i→l[j].k=1→0≤l[j].a∧0≤l[j].i∧l[j].a+l[j].i≤24
theorem Zsy {l:List ET}{i first kind:Int}{places:List Int}{q:Nat}(hl:l.length≤600)(hf:0≤first∧first≤1000)(h:Zv (Ze8 l i first places kind) q=true)(hq:q≤places.length):first+(q:Int)≤1700:=by
 cases q with
 | zero=>omega
 | succ q=>
  have h1:=Zay.1 h q (by omega);unfold Ze8 at h1;rw[Qa (by omega)]at h1;simp only[Zf4,Bool.and_eq_true,decide_eq_true_eq]at h1;obtain⟨e1,e2,_⟩:=h1;obtain⟨m,e3,hm,_⟩:=Zat e2;omega
theorem Zpt (l:List ET)(A P:Option Addr)(cap pc:Nat)(i first kind:Int)(places:List Int)(lo hi lo' hi':Nat)(w:World)(hl:l.length≤600)(hn:Zr w lo hi A l)(hp:Zby w lo' hi' P places)(hpl:places.length≤maxLen)(hf:0≤first∧first≤1000):
  Calls prog 127 #[.slice A l.length cap,.int .i64 i,.int .i64 first,.slice P places.length pc,.int .i64 kind] w fun e w'=>e= .returned (.bool (Zc1 l i first places kind))∧w=w':=by
 have HP:=hid hp;have HN:=hid hn;have HIS:=hid (fun n=>Zlx l A cap lo hi n kind w (by unfold maxLen;omega) hn);have HRM:=hid (fun q=>Zsy (l:=l) (i:=i) (first:=first) (kind:=kind) (places:=places) (q:=q) hl hf);obtain⟨z,hz⟩:∃z,Zc1 l i first places kind=z:=⟨_,rfl⟩
 rw[hz];have HZ:=hid hz;unfold maxLen at hpl;have hll:(l.length:Int)≤600:=by omega
 have hpl':(places.length:Int)≤9223372036854775807:=by omega
 have HF:=hid hf;clear hz hn hp hl hpl hf;go_enter func127,ntmps127;go_wp2_with fail;go_loopw [15] (fun iv wr=>∃q:Nat,q≤places.length∧iv= .int .i64 q∧w=wr∧Hid (Zv (Ze8 l i first places kind) q=true)) (fun iv _=>places.length - (intOf iv).toNat)
 case atStart=>exact⟨0,Nat.zero_le _,rfl,rfl,hid rfl⟩
 case round=>
  obtain⟨q,hq1,rfl,rfl,HQ⟩:=hrel;by_cases hql:q<places.length
  ·obtain⟨b,o,rfl,_,_,hc⟩:=HP.out q hql;have hrm:=HRM.out q HQ.out hq1;have hf0:=HF.out.1;have hno:Hid (Ze8 l i first places kind q=false→z=false):=hid (fun h=>by rw[←HZ.out];exact Zdj hql h);have hyes:Hid (Ze8 l i first places kind q=true→Zv (Ze8 l i first places kind) (q+1)=true):=hid (fun h=>by rw[Zv,HQ.out,h];rfl);have hqq:Ze8 l i first places kind q=Zf4 l i first kind places[q] q:=by unfold Ze8;rw[Qa hql]
   rw[hqq]at hno hyes;obtain⟨n,hn⟩:∃n,places[q]=n:=⟨_,rfl⟩;rw[hn]at hno hyes hc;unfold Zf4 at hno hyes;have hi0':(q:Int)<(places.length:Int):=by omega
   have wr1:IntKind.i64.wrap (first+(q:Int))=first+(q:Int):=IntWalk.i64_in _ (by omega)
   clear hqq hn HRM;by_cases hne:n=first+(q:Int)
   case neg=>
    have t0:(n !=first+(q:Int))=true:=by simpa using hne
    obtain rfl:z=false:=hno.out (by rw[decide_eq_false hne];rfl);clear hne hno hyes;go_wp2_with fail;go_ret;exact⟨rfl,rfl⟩
   have t0:(n !=first+(q:Int))=false:=by simpa using hne
   rw[decide_eq_true hne,Qb]at hno hyes;have HI:=hid (HIS.out n);obtain⟨rb,hrb⟩:∃r,isB l n kind=r:=⟨_,rfl⟩;rw[hrb]at HI hno hyes;cases rb with
   | false=>
    obtain rfl:z=false:=hno.out rfl;clear hne hno hyes hrb;go_wp2_with fail;refine HI.out.mono ?_;rintro e w1 ⟨rfl,rfl⟩;go_wp2_with fail;go_ret;exact⟨rfl,rfl⟩
   | true=>
    obtain⟨m,rfl,hm,_⟩:=Zat hrb;obtain⟨b2,o2,p2,rfl,_,_,hx,_⟩:=HN.out m hm;have y8:=hx.c8;have y9:=hx.c9;have em:l[((m:Int)).toNat]? =some l[m]:=by rw[Int.toNat_natCast];exact Qa hm
    rw[em]at hno hyes;obtain⟨y,hy⟩:∃y,l[m]=y:=⟨_,rfl⟩;rw[hy]at y8 y9 hno hyes;simp only[Qb]at hno hyes;have hm0':(m:Int)<(l.length:Int):=by omega
    have HNE:=hid hne;clear hy em hx hrb HN hne;by_cases hyf:y.f=i
    case neg=>
     have t1:(y.f !=i)=true:=by simpa using hyf
     obtain rfl:z=false:=hno.out (by rw[decide_eq_false hyf];rfl);clear hyf hno hyes;go_wp2_with fail;refine HI.out.mono ?_;rintro e w1 ⟨rfl,rfl⟩;go_wp2_with fail;go_ret;exact⟨rfl,rfl⟩
    have t1:(y.f !=i)=false:=by simpa using hyf
    rw[decide_eq_true hyf,Qb]at hno hyes;by_cases hyp:y.p=(q:Int)
    case neg=>
     have t2:(y.p !=(q:Int))=true:=by simpa using hyp
     obtain rfl:z=false:=hno.out (by rw[decide_eq_false hyp]);clear hyf hyp hno hyes;go_wp2_with fail;refine HI.out.mono ?_;rintro e w1 ⟨rfl,rfl⟩;go_wp2_with fail;go_ret;exact⟨rfl,rfl⟩
    have t2:(y.p !=(q:Int))=false:=by simpa using hyp
    have HY:=hid (hyes.out (by rw[decide_eq_true hyp]));clear hyf hyp hno hyes;go_wp2_with fail;refine HI.out.mono ?_;rintro e w1 ⟨rfl,rfl⟩;go_wp2_with fail;go_roundw
    case rel=>exact⟨q+1,by omega,by go_num,by first|rfl|trivial,hid HY.out⟩
    case measure=>simp[intOf];omega
  ·obtain rfl:q=places.length:=by omega
   obtain rfl:z=true:=by rw[←HZ.out];exact HQ.out
   go_wp2_with fail;go_ret;exact⟨rfl,rfl⟩
theorem Zvz (l:List ET)(A P:Option Addr)(cap pc:Nat)(i first kind:Int)(places:List Int)(lo hi lo' hi':Nat)(w:World)(hl:l.length≤600)(hn:Zr w lo hi A l)(hp:Zby w lo' hi' P places)(hpl:places.length≤maxLen)(hf:0≤first∧first≤1000):
  Calls prog 66 #[.slice A l.length cap,.slice P places.length pc,.int .i64 first,.int .i64 i,.int .i64 kind] w fun e w'=>e= .returned (.bool (Zc1 l i first places kind))∧w=w':=by
 have HP:=hid hp;have HN:=hid hn;have HIS:=hid (fun n=>Zf5 l A cap lo hi n kind w (by unfold maxLen;omega) hn);have HRM:=hid (fun q=>Zsy (l:=l) (i:=i) (first:=first) (kind:=kind) (places:=places) (q:=q) hl hf);obtain⟨z,hz⟩:∃z,Zc1 l i first places kind=z:=⟨_,rfl⟩
 rw[hz];have HZ:=hid hz;unfold maxLen at hpl;have hll:(l.length:Int)≤600:=by omega
 have hpl':(places.length:Int)≤9223372036854775807:=by omega
 have HF:=hid hf;clear hz hn hp hl hpl hf;go_enter func66,ntmps66;go_wp2_with fail;go_loopw [11] (fun iv wr=>∃q:Nat,q≤places.length∧iv= .int .i64 q∧w=wr∧Hid (Zv (Ze8 l i first places kind) q=true)) (fun iv _=>places.length - (intOf iv).toNat)
 case atStart=>exact⟨0,Nat.zero_le _,rfl,rfl,hid rfl⟩
 case round=>
  obtain⟨q,hq1,rfl,rfl,HQ⟩:=hrel;by_cases hql:q<places.length
  ·obtain⟨b,o,rfl,_,_,hc⟩:=HP.out q hql;have hrm:=HRM.out q HQ.out hq1;have hf0:=HF.out.1;have hno:Hid (Ze8 l i first places kind q=false→z=false):=hid (fun h=>by rw[←HZ.out];exact Zdj hql h);have hyes:Hid (Ze8 l i first places kind q=true→Zv (Ze8 l i first places kind) (q+1)=true):=hid (fun h=>by rw[Zv,HQ.out,h];rfl);have hqq:Ze8 l i first places kind q=Zf4 l i first kind places[q] q:=by unfold Ze8;rw[Qa hql]
   rw[hqq]at hno hyes;obtain⟨n,hn⟩:∃n,places[q]=n:=⟨_,rfl⟩;rw[hn]at hno hyes hc;unfold Zf4 at hno hyes;have hi0':(q:Int)<(places.length:Int):=by omega
   have wr1:IntKind.i64.wrap (first+(q:Int))=first+(q:Int):=IntWalk.i64_in _ (by omega)
   clear hqq hn HRM;by_cases hne:n=first+(q:Int)
   case neg=>
    have t0:(n !=first+(q:Int))=true:=by simpa using hne
    obtain rfl:z=false:=hno.out (by rw[decide_eq_false hne];rfl);clear hne hno hyes;go_wp2_with fail;go_ret;exact⟨rfl,rfl⟩
   have t0:(n !=first+(q:Int))=false:=by simpa using hne
   rw[decide_eq_true hne,Qb]at hno hyes;have HI:=hid (HIS.out n);obtain⟨rb,hrb⟩:∃r,isB l n kind=r:=⟨_,rfl⟩;rw[hrb]at HI hno hyes;cases rb with
   | false=>
    obtain rfl:z=false:=hno.out rfl;clear hne hno hyes hrb;go_wp2_with fail;refine HI.out.mono ?_;rintro e w1 ⟨rfl,rfl⟩;go_wp2_with fail;go_ret;exact⟨rfl,rfl⟩
   | true=>
    obtain⟨m,rfl,hm,_⟩:=Zat hrb;obtain⟨b2,o2,p2,rfl,_,_,hx,_⟩:=HN.out m hm;have y8:=hx.c8;have y9:=hx.c9;have em:l[((m:Int)).toNat]? =some l[m]:=by rw[Int.toNat_natCast];exact Qa hm
    rw[em]at hno hyes;obtain⟨y,hy⟩:∃y,l[m]=y:=⟨_,rfl⟩;rw[hy]at y8 y9 hno hyes;simp only[Qb]at hno hyes;have hm0':(m:Int)<(l.length:Int):=by omega
    have HNE:=hid hne;clear hy em hx hrb HN hne;by_cases hyf:y.f=i
    case neg=>
     have t1:(y.f !=i)=true:=by simpa using hyf
     obtain rfl:z=false:=hno.out (by rw[decide_eq_false hyf];rfl);clear hyf hno hyes;go_wp2_with fail;refine HI.out.mono ?_;rintro e w1 ⟨rfl,rfl⟩;go_wp2_with fail;go_ret;exact⟨rfl,rfl⟩
    have t1:(y.f !=i)=false:=by simpa using hyf
    rw[decide_eq_true hyf,Qb]at hno hyes;by_cases hyp:y.p=(q:Int)
    case neg=>
     have t2:(y.p !=(q:Int))=true:=by simpa using hyp
     obtain rfl:z=false:=hno.out (by rw[decide_eq_false hyp]);clear hyf hyp hno hyes;go_wp2_with fail;refine HI.out.mono ?_;rintro e w1 ⟨rfl,rfl⟩;go_wp2_with fail;go_ret;exact⟨rfl,rfl⟩
    have t2:(y.p !=(q:Int))=false:=by simpa using hyp
    have HY:=hid (hyes.out (by rw[decide_eq_true hyp]));clear hyf hyp hno hyes;go_wp2_with fail;refine HI.out.mono ?_;rintro e w1 ⟨rfl,rfl⟩;go_wp2_with fail;go_roundw
    case rel=>exact⟨q+1,by omega,by go_num,by first|rfl|trivial,hid HY.out⟩
    case measure=>simp[intOf];omega
  ·obtain rfl:q=places.length:=by omega
   obtain rfl:z=true:=by rw[←HZ.out];exact HQ.out
   go_wp2_with fail;go_ret;exact⟨rfl,rfl⟩
