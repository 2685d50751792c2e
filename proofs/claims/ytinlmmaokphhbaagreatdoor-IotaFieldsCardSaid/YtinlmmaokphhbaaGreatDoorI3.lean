import Derived.Test.YtinlmmaokphhbaaGreatDoorC3
import Derived.Test.YtinlmmaokphhbaaGreatDoorM9
import Derived.Test.YtinlmmaokphhbaaGreatDoorV2
import Derived.Test.YtinlmmaokphhbaaGreatDoorM7
import Derived.Test.YtinlmmaokphhbaaGreatDoorS7
import Derived.Deep.RegionHeld3
import Derived.Test.YtinlmmaokphhbaaGreatDoorS6
namespace Go.Proofs.YtinlmmaokphhbaaGreatDoor
set_option maxHeartbeats 8000000
set_option maxRecDepth 100000
open Go.RowKit
set_option linter.unusedVariables false
open Lib(hid)
open Go.Proofs.Tryz
open _root_.List renaming length_append→Qa,map_append→Qb,length_map→Qc,flatMap_append→Qd,all_eq_true→Qe,all_cons→Qf
open Go.RowKit.Below renaming refl→Qg
open _root_.Nat renaming zero_le→Qh
open Go.World renaming block_lt_of_cell?→Qi
open Go.IntWalk renaming i64_in→Qj
open Go renaming bodyPost_ret→Qk,results→Ql
open Bk renaming last→Qm,new→Qn,below→Qo
theorem Zc2{n:Nat}:n≤n:=Nat.le_refl n
theorem Zj0{a b c:World}(x:Hid (Below a.heap.size a b))(y:Below b.heap.size b c):Below a.heap.size a c:=x.out.trans (y.mono x.out.size)
theorem Zwk (t:TM)(lo hi:Nat)(A:Option Addr)(cap:Nat)(w:World)(h:Za w lo hi t A cap)(hhi:hi≤w.heap.size)(hS:Zi w):
  Calls prog 41 #[Zc t A cap] w fun e w'=>e= .returned (.bool (!Zb t))∧Below w.heap.size w w':=by
 have HW:=hid (show Below w.heap.size w (w.alloc (.cells #[.int .i64 t.k,.int .i64 t.n,.slice A t.l.length cap] 27))from(Qg _ _).alloc Zc2 _);have HC:=hid (Za2 t lo hi A cap (w.alloc (.cells #[.int .i64 t.k,.int .i64 t.n,.slice A t.l.length cap] 27)) (h.kept HW.out hhi) (by simp;omega) (hS.kept HW.out));obtain⟨b,hb⟩:∃b,Zb t=b:=⟨_,rfl⟩;rw[hb]at HC⊢;clear h hS hb;unfold Zc at HC⊢;go_enter func41,ntmps41;go_wp2_with fail;refine HC.out.mono ?_;rintro e w1 ⟨rfl,hb1⟩;have HB1:=hid (HW.out.trans (hb1.mono (by simp)));clear hb1;cases b
 all_goals
  go_wp2_with fail;go_ret;exact⟨rfl,HB1.out⟩
theorem Zu1 (l:List TM)(A:Option Addr)(cap lo hi:Nat)(Q:Nat→Bool)(w:World)(hl:l.length≤maxLen)(hn:Zaf w lo hi A l)(hhi:hi≤w.heap.size)(ht:Zny w 41 [] l Q):
  Calls prog 70 #[.slice A l.length cap,.func (.func 41) #[] #[]] w (Zqn Q l.length w):=by
 have HN:=hid hn;have HT:=hid ht;unfold maxLen at hl;clear hn ht;go_enter func70,ntmps70;go_wp2_with fail;go_loopw [8] (fun iv wr=>∃i:Nat,i≤l.length∧iv= .int .i64 i∧Below w.heap.size w wr∧Hid (∀j,j<i→Q j=false)) (fun iv _=>l.length - (intOf iv).toNat)
 case atStart=>exact⟨0,Qh _,rfl,Qg _ _,hid (fun j hj=>by omega)⟩
 case round=>
  obtain⟨i,hi1,rfl,hB,HQ⟩:=hrel;have hz:=hB.size;by_cases hil:i<l.length
  ·obtain⟨b,o,F,C,rfl,hb1,hb2,hx,hnode⟩:=(HN.out i hil).kept hB hhi;obtain⟨x0,x1,x2⟩:=hx;have HR:=hid (HT.out i hil lo hi F C wr hB hnode (by omega));clear HT HN;cases hq:Q i with
   | true=>
    rw[hq]at HR;have HQ2:=hid hq;clear hq;go_wp2_with fail;refine HR.out.mono ?_;rintro e w1 ⟨rfl,hb1⟩;go_wp2_with fail;go_ret;exact⟨_,rfl,.inr ⟨by omega,i,hil,HQ2.out⟩,hB.trans (hb1.mono hz)⟩
   | false=>
    rw[hq]at HR;have HQ2:=hid hq;clear hq;go_wp2_with fail;refine HR.out.mono ?_;rintro e w1 ⟨rfl,hb1⟩;go_wp2_with fail;go_roundw
    case rel=>
     refine⟨i+1,by omega,rfl,hB.trans (hb1.mono hz),hid (fun j hj=> ?_)⟩;by_cases e:j<i
     ·exact HQ.out j e
     ·obtain rfl:j=i:=by omega
      exact HQ2.out
    case measure=>simp[intOf];omega
  ·obtain rfl:i=l.length:=by omega
   clear HT HN;go_wp2_with fail;go_ret;exact⟨_,rfl,.inl ⟨rfl,HQ.out⟩,hB⟩
theorem Zr4 (l:List TM)(lo hi:Nat)(A:Option Addr)(cap:Nat)(w:World)(h:Ze w lo hi l A cap)(hhi:hi≤w.heap.size)(hS:Zi w):
  Calls prog 40 #[.slice A l.length cap,.func (.func 41) #[] #[]] w fun e w'=>e= .returned (.bool (!l.all Zb))∧Below w.heap.size w w':=by
 obtain⟨hl,hm⟩:=h.bounds;have HI:=hid (Zu1 l A cap lo hi (Zi2 (fun t=> !Zb t) l) w (by omega) (fun i hi'=>h.sub i hi') hhi (fun i hi' lo2 hi2 F C V hV hx hz=>by
  rw[Zf7 _ hi'];exact Zwk l[i] lo2 hi2 F C V hx hz (hS.kept hV)))
 have hno:(∀j,j<l.length→Zi2 (fun t=> !Zb t) l j=false)→l.all Zb=true:=fun hq=>by
  rw[Qe];intro x hx;obtain⟨i,hi,rfl⟩:=List.mem_iff_getElem.1 hx;have:=hq i hi;rw[Zf7 _ hi]at this;simpa using this
 have hyes:(∃i,i<l.length∧Zi2 (fun t=> !Zb t) l i=true)→l.all Zb=false:=fun⟨i,hi,hq⟩=>by
  rw[Zf7 _ hi]at hq;cases e:l.all Zb with
  | false=>rfl
  | true=>
   rw[Qe]at e;rw[e _ (List.getElem_mem hi)]at hq;cases hq
 have HNO:=hid hno;have HYES:=hid hyes;clear h hS hno hyes hl hm;go_enter func40,ntmps40;go_wp2_with fail;refine HI.out.mono ?_;rintro e w1 ⟨r,rfl,hr,hb⟩;have HB:=hid hb;clear hb;rcases hr with ⟨rfl,hall⟩|⟨h0,i,hi,hq⟩
 ·have HE:=hid (HNO.out hall);clear hall;go_wp2_with fail;go_ret;exact⟨by rw[HE.out];rfl,HB.out⟩
 ·have HE:=hid (HYES.out ⟨i,hi,hq⟩);have t0:decide (0≤r)=true:=decide_eq_true h0;have t1:decide (r≥0)=true:=decide_eq_true h0;clear hq hi h0;go_wp2_with fail;go_ret;exact⟨by rw[HE.out];rfl,HB.out⟩
def shN (l:List TM)(n:Int):Bool:=decide ((l.length:Int)=n) && l.all Zb
theorem Zuj (l:List TM)(n:Int)(lo hi:Nat)(A:Option Addr)(cap:Nat)(w:World)(h:Ze w lo hi l A cap)(hhi:hi≤w.heap.size)(hS:Zi w):
  Calls prog 24 #[.slice A l.length cap,.int .i64 n] w fun e w'=>e= .returned (.bool (shN l n))∧Below w.heap.size w w':=by
 have HC:=hid (Zr4 l lo hi A cap w h hhi hS);have HSH:=hid (show shN l n=(decide ((l.length:Int)=n) && l.all Zb)from rfl);obtain⟨z,hz⟩:∃z,shN l n=z:=⟨_,rfl⟩;rw[hz]at HSH⊢;clear h hS hz;by_cases e:(l.length:Int)=n
 ·have t0:((l.length:Int)==n)=true:=by simpa using e
  obtain⟨q,hq⟩:∃q,l.all Zb=q:=⟨_,rfl⟩;rw[hq]at HC HSH;have HZ:=hid (show z=q from by rw[HSH.out,decide_eq_true e,Bool.true_and]);clear hq e HSH;go_enter func24,ntmps24;go_wp2_with fail;refine HC.out.mono ?_;rintro e w1 ⟨rfl,hb⟩;have HB:=hid hb;clear hb HC;cases q
  all_goals
   go_wp2_with fail;go_ret;exact⟨by rw[HZ.out];rfl,HB.out⟩
 ·have t0:((l.length:Int)==n)=false:=by simpa using e
  have HZ:=hid (show z=false from by rw[HSH.out,decide_eq_false e];rfl);clear e HSH HC;go_enter func24,ntmps24;go_wp2_with fail;go_ret;exact⟨by rw[HZ.out];rfl,Qg _ _⟩
theorem Zyx (ps qs:List (TM×Option Addr×Nat)):Zu (ps++qs)=Zu ps++Zu qs:=by unfold Zu;rw[Qd]
theorem Zk.pushes {w w':World}{base:Nat}{e:TypeId}{v v':Value}{ps qs:List (TM×Option Addr×Nat)}{P:Nat→Prop}(h:Zk w base e v ps P)
    (hn:∀q∈qs,Zd w P q.1 q.2.1 q.2.2)
    (hr:w'.ownsRow base e 3 v' (ps.length+qs.length) (Zu ps++Zu qs)) (hg:w.grownBy w' v.ownBlock) (ho:v'.ownBlock=v.ownBlock∨v'.ownBlock=some w.heap.size):Zk w' base e v' (ps++qs) P:=by
  have hcell:∀b o,P b→w'.cell? ⟨b,o,none⟩=w.cell? ⟨b,o,none⟩:=fun b o hb'=>World.cell?_of_block (a:=⟨b,o,none⟩) (hg.block b (h.far b hb').1 (fun e=>(h.far b hb').2 e.symm));refine⟨by rw[Zyx,Qa];exact hr,fun b hb'=>⟨Nat.lt_of_lt_of_le (h.far b hb').1 hg.size,fun e=> ?_⟩,fun q hq=> ?_⟩
  · rcases ho with ho|ho
    · exact(h.far b hb').2 (ho.symm.trans e)
    · have:=(h.far b hb').1;rw[ho]at e;injection e with e;omega
  · rcases List.mem_append.1 hq with hq|hq
    · exact(h.node q hq).imp (fun b o hb'=>hcell b o hb') (fun b hb'=>hb')
    · exact(hn q hq).imp (fun b o hb'=>hcell b o hb') (fun b hb'=>hb')
theorem Zyw (vs:List LL){i:Nat}(h:i<vs.length):(Jh (vs.take (i+1))).length=(Jh (vs.take i)).length+vs[i].1.length:=by rw[Zls h,Qa]
theorem Zlr (vs:List LL)(i:Nat):(Jh (vs.take i)).length≤(Jh vs).length:=by
 have h:Jh vs=Jh (vs.take i)++Jh (vs.drop i):=by
  unfold Jh;rw[←Qd,List.take_append_drop]
 rw[h,Qa];omega
def Zjl (ts:List TM)(hi:Nat)(w:World)(e:Ending)(w':World):Prop:=
 ∃A c ps,e= .returned (.slice A ts.length c)∧Zk w' w.heap.size 27 (.slice A ts.length c) ps (fun b=>b<hi)∧ps.map (·.1)=ts∧Below w.heap.size w w'
theorem Zjl.gives {ts:List TM}{hi:Nat}{w w':World}{e:Ending}(h:Zjl ts hi w e w'):Zbj ts w e w':=by
 obtain⟨A,c,ps,h1,h2,h3,h4⟩:=h;have hl:ts.length=ps.length:=by rw[←h3,Qc]
 refine⟨A,c,h1, ?_,h4⟩;rw[hl]at h2;have:=h2.parent (lo:=0) (Qh _) (fun _ _=>Qh _) 0 0
 rwa [h3]at this
def Z3k (vs:List LL)(w:World)(nv iv:Value)(wr:World):Prop:=∃i:Nat,i≤vs.length∧iv= .int .i64 i∧nv= .int .i64 ((Jh (vs.take i)).length:Nat)∧w=wr
def Z3l (vs:List LL)(hi:Nat)(w:World)(nv iv:Value)(wr:World):Prop:=
 ∃(i:Nat) (ps:List (TM×Option Addr×Nat)),i≤vs.length∧iv= .int .i64 i∧Below w.heap.size w wr∧Zk wr w.heap.size 27 nv ps (fun b=>b<hi)∧ps.map (·.1)=Jh (vs.take i)
theorem Zhy (vs:List LL)(hi g:Nat)(w:World)(h2:Zc5 w hi g vs)(hlen:vs.length≤100)(htot:(Jh vs).length≤8000):
  Calls prog 48 #[.slice (some ⟨g,0,none⟩) vs.length vs.length] w (Zjl (Jh vs) hi w):=by
 obtain⟨i0,hi0,hz0,hz1,hz2⟩:=info_parts Zc9;have HV:=hid h2.at_;have hgl:=h2.gl;have HHL:=hid h2.hl;have HTOT:=hid htot;have CG:=hid (fun(n:Nat)(hn:n=(Jh vs).length)=>Zdw n (by omega) w);clear h2 htot;go_enter func48,ntmps48;go_wp2_with fail;go_loopw [3,11] (Z3k vs w) (fun _ iv _=>vs.length - (intOf iv).toNat)
 case atStart=>exact⟨0,Qh _,rfl,rfl,rfl⟩
 case round=>
  obtain⟨i,hi1,rfl,rfl,rfl⟩:=hrel;obtain⟨m,hm⟩:∃m,(Jh (vs.take i)).length=m:=⟨_,rfl⟩;have hm9:m≤8000:=by have:=Zlr vs i;have:=HTOT.out;omega
  by_cases hil:i<vs.length
  ·obtain⟨hc,hts⟩:=HV.out i hil;have hst:=Zyw vs hil;have hle:=Zlr vs (i+1);rw[hm]at hst⊢;obtain⟨p,hp⟩:∃p,vs[i]=p:=⟨_,rfl⟩;rw[hp]at hc hts hst;obtain⟨xs,B,cb⟩:=p;unfold Zpi at hc;simp only at hc hts hst;have hi1':(i:Int)<(vs.length:Int):=by omega
   have hi0':(0:Int)≤(i:Int):=by omega
   obtain⟨n,hn⟩:∃n,xs.length=n:=⟨_,rfl⟩;rw[hn]at hc hst;have hn9:n≤8000:=by have:=HTOT.out;omega
   have wr1:IntKind.i64.wrap ((m:Int)+(n:Int))=(m:Int)+(n:Int):=Qj _ (by omega);have t0:decide ((m:Int)+(n:Int)<0)=false:=decide_eq_false (by omega);have HST:=hid hst;clear hts hp hst hm hle hn;go_wp2_with fail;go_roundw
   case rel=>exact⟨i+1,by omega,by go_num,by rw[HST.out];congr 1,rfl⟩
   case measure=>simp[intOf];omega
  ·obtain rfl:i=vs.length:=by omega
   rw[List.take_length]at hm⊢;rw[hm];have CG2:=hid (CG.out m hm.symm);have HM:=hid hm;clear hm;go_wp2_with fail;refine CG2.out.mono ?_;rintro e w1 ⟨v0,rfl,ho0,hbx⟩;obtain⟨a0,cc0,rfl⟩:=Zl ho0;have HO0:=hid ho0;have HB0:=hid hbx;have hlt0:=ho0.lt;have HLT0:=hid hlt0;clear ho0 hbx CG CG2 hlt0;go_wp2_with fail;go_loopw [6,27] (Z3l vs hi w) (fun _ iv _=>vs.length - (intOf iv).toNat)
   case atStart=>exact⟨0,[],Qh _,rfl,HB0.out,⟨HO0.out,fun b hb=>⟨by have:=HB0.out.size;have:=HHL.out;omega,fun e=>by have:=HLT0.out b e;have:=HHL.out;omega⟩,fun _ h=>by cases h⟩,rfl⟩
   case round=>
    obtain⟨i,ps,hi1,rfl,hB,hrow,hps⟩:=hrel;have hz:=hB.size;obtain⟨a1,c1,rfl⟩:=Zl hrow.row;have hpl:ps.length=(Jh (vs.take i)).length:=by rw[←hps,Qc]
    have hpm:ps.length≤8000:=by have:=Zlr vs i;have:=HTOT.out;omega
    have HPS:=hid hps;have HROW:=hid hrow;have HOW:=hid hrow.row;have hlt1:=hrow.row.lt;have HLT1:=hid hlt1;have HBB:=hid hB;have HPL:=hid hpl;clear hrow hps hpl hlt1;by_cases hil:i<vs.length
    ·obtain⟨hc,hts⟩:=HV.out i hil;have hst:=Zls hil;have hle:=Zlr vs (i+1);obtain⟨p,hp⟩:∃p,vs[i]=p:=⟨_,rfl⟩;rw[hp]at hc hts hst;obtain⟨xs,B,cb⟩:=p;unfold Zpi at hc;simp only at hc hts hst;have hc':wr.cell? ⟨g,i,none⟩=some (.slice B xs.length cb):=(hB.cell (p:=⟨g,i,none⟩) hgl).trans hc;have hgr:g<wr.heap.size:=by omega
     have hi1':(i:Int)<(vs.length:Int):=by omega
     have hi0':(0:Int)≤(i:Int):=by omega
     have hn9:ps.length+xs.length≤8000:=by rw[hst,Qa,←HPL.out]at hle;have:=HTOT.out;omega
     obtain⟨qs,q1,q2,q3,q4⟩:=Zru (hts.kept hB HHL.out);have HSRC:Hid (Src wr 3 B xs.length (Zu qs)):=hid ⟨by rw[Zq9,q2],fun h0=>by
      obtain⟨b,o,hA,hb,hcc⟩:=q4 h0;refine⟨⟨b,o,none⟩,hA,fun j u hj=> ?_⟩;rw[Addr.add_lit];exact hcc j u hj⟩
     have HQ1:=hid q1;have HQ2:=hid q2;have HQ3:=hid q3;have HST:=hid hst;clear hts hp hst hc q1 q2 q3 q4 hle;go_wp2_with (at_builtin;refine Jb rfl _ _ 23 rfl w.heap.size 27 i0 (.agg #[.int .i64 0,.int .i64 0,.slice none 0 0]) 3 40 Tryz.underlying23 hi0 hz0 hz1 hz2 rfl (by decide) _ _ _ rfl HOW.out B xs.length cb (Zu qs) rfl HSRC.out (Zif _) ?c3 ?c4 ?c5 ?_)
     case c3=>unfold maxLen;omega
     case c4=>omega
     case c5=>omega
     rintro v2' w3 ⟨hown3,hg3,ho3⟩;have HRow:=hid (HROW.out.pushes (qs:=qs) (fun q hq=>(HQ3.out q hq).imp (fun _ _ _=>rfl) (fun b hb=>hb.2)) (by rw[HQ2.out];exact hown3) hg3 ho3);have HB4:=hid (HBB.out.grown hg3 hz (fun g e=>by have:=HLT1.out g e;omega));clear hown3 hg3 ho3;go_wp2_with fail;go_roundw
     case rel=>exact⟨i+1,ps++qs,by omega,by go_num,HB4.out,HRow.out,by rw[Qb,HPS.out,HQ1.out,HST.out]⟩
     case measure=>simp[intOf];omega
    ·have HIN:=hid (show i=vs.length by omega);have hge: ¬ (i:Int)<(vs.length:Int):=by omega
     have HFULL:Hid (ps.map (·.1)=Jh vs):=hid (by rw[HPS.out,List.take_of_length_le (by omega)]);have HLL:Hid (ps.length=(Jh vs).length):=hid (by rw[←HFULL.out,Qc]);go_wp2_with fail;go_ret;rw[HLL.out];exact⟨a1,c1,ps,rfl,by rw[←HLL.out];exact HROW.out,HFULL.out,HBB.out⟩
theorem Z09 (gk gn:Nat)(k n:Int)(p:Nat)(t:TM)(lo hi:Nat)(A:Option Addr)(cap:Nat)(w:World)(h:Za w lo hi t A cap)(hhi:hi≤w.heap.size)(hk:w.cell? ⟨gk,0,none⟩=some (.int .i64 k))(hn:w.cell? ⟨gn,0,none⟩=some (.int .i64 n))(hn0:0≤n∧n≤2000000)(hp:p≤8000)(hS:Zi w):
  Calls prog 80 #[.int .i64 p,Zc t A cap,.pointer (some ⟨gk,0,none⟩),.pointer (some ⟨gn,0,none⟩)] w (Zn (Jy t k (n+p)) w):=by
 have hgk:gk<w.heap.size:=Qi w _ hk;have hgn:gn<w.heap.size:=Qi w _ hn;obtain⟨X,hX⟩:∃X,(w.alloc (.cells #[.int .i64 t.k,.int .i64 t.n,.slice A t.l.length cap] 27)).alloc (.cells #[.int .i64 0,.int .i64 0,.slice none 0 0] 27)=X:=⟨_,rfl⟩;have HBX:=hid (show Below w.heap.size w X from by rw[←hX];exact((Qg _ _).alloc Zc2 _).alloc (by simp) _);have HSX:=hid (show w.heap.size+2≤X.heap.size from by rw[←hX];simp);have HK1:=hid (show Bk X w.heap.size 27 #[.int .i64 t.k,.int .i64 t.n,.slice A t.l.length cap]from by rw[←hX];exact(Qn w _ _).alloc _);have HK2:=hid (show Bk X (w.heap.size+1) 27 #[.int .i64 0,.int .i64 0,.slice none 0 0]from by rw[←hX];exact Qm _ _ _ (by simp));have x0:X.cell? ⟨w.heap.size,0,none⟩=some (.int .i64 t.k):=HK1.out.cell 0;have x1:X.cell? ⟨w.heap.size,1,none⟩=some (.int .i64 t.n):=HK1.out.cell 1;have x2:X.cell? ⟨w.heap.size,2,none⟩=some (.slice A t.l.length cap):=HK1.out.cell 2;have x3:X.cell? ⟨gk,0,none⟩=some (.int .i64 k):=(HBX.out.cell (p:=⟨gk,0,none⟩) hgk).trans hk;have x4:X.cell? ⟨gn,0,none⟩=some (.int .i64 n):=(HBX.out.cell (p:=⟨gn,0,none⟩) hgn).trans hn;have CM:=hid (Zo1 t k (n+p) lo hi A cap X (h.kept HBX.out hhi) (by have:=HBX.out.size;omega) (hS.kept HBX.out));have wr1:IntKind.i64.wrap (n+(p:Int))=n+(p:Int):=Qj _ (by omega);obtain⟨x,c,hxc⟩:∃x c,Jy t k (n+p)=(x,c):=⟨_,_,rfl⟩;rw[hxc]at CM⊢;unfold Zn Zc at CM;unfold Zc;have hgk2:gk<X.heap.size:=by have:=HBX.out.size;omega
 have hgn2:gn<X.heap.size:=by have:=HBX.out.size;omega
 clear h hxc hhi hS hk hn hp hn0 hgk hgn;go_enter func80,ntmps80;go_wp2_with fail;refine CM.out.mono ?_;rintro e w5 ⟨A',cap',rfl,hx,hb3⟩;have HB5:=hid (Zj0 HBX hb3);have K2:=HK2.out.below hb3 HK2.out.lt;have hfz:∀o,w5.frozen? ⟨w.heap.size+1,o,none⟩=false:=fun o=>K2.cold o;have d0:w5.cell? ⟨w.heap.size+1,0,none⟩=some (.int .i64 0):=K2.cell 0;have d1:w5.cell? ⟨w.heap.size+1,1,none⟩=some (.int .i64 0):=K2.cell 1;have d2:w5.cell? ⟨w.heap.size+1,2,none⟩=some (.slice none 0 0):=K2.cell 2;have HX:=hid hx;have B5:=((K2.at_ 0 (.int .i64 x.k)).at_ 1 (.int .i64 x.n)).at_ 2 (.slice A' x.l.length cap');have HS0:=hid (B5.cell 0);have HS1:=hid (B5.cell 1);have HS2:=hid (B5.cell 2);clear B5 K2 hb3 hx hX x0 x1 x2 x3 x4;go_wp2_with fail;refine Qk (v:= .tuple #[.agg #[.int .i64 x.k,.int .i64 x.n,.slice A' x.l.length cap'],.int .i64 c]) (by simp[Ql,results80,go_sem,HS0.out,HS1.out,HS2.out]) rfl ?_;exact Zbh HB5.out (by omega) HX.out (by have:=HSX.out;omega)
def Zel (l:List TM)(k n:Int)(i:Nat):TM×Int:=Jy (l.getD i (.node 0 0 [])) k (n+i)
theorem Z0o {l:List TM}{k n:Int}{i:Nat}(h:i<l.length):Zel l k n i=Jy l[i] k (n+i):=by
 unfold Zel;rw[List.getD_eq_getElem?_getD,List.getElem?_eq_getElem h];rfl
def Zhj (l:List TM)(k n:Int)(i:Nat):List TM:=(List.range i).map fun j=>(Zel l k n j).1
theorem Zu3 (l:List TM)(k n:Int)(i:Nat):Zhj l k n (i+1)=Zhj l k n i++[(Zel l k n i).1]:=by
 unfold Zhj;rw[List.range_succ,Qb];rfl
theorem Zx5 (l:List TM)(k n:Int)(i:Nat):(Zhj l k n i).length=i:=by unfold Zhj;simp
def Zhv (l:List TM)(k n:Int)(i:Nat):Prop:=∀j,j<i→(Zel l k n j).2=0
theorem Ztz {l:List TM}{k n:Int}{i:Nat}(h:Zhv l k n i)(h1:(Zel l k n i).2=0):Zhv l k n (i+1):=fun j hj=>by
 by_cases e:j<i
 ·exact h j e
 ·obtain rfl:j=i:=by omega
  exact h1
def Zve (l:List TM)(k n:Int)(w:World)(e:Ending)(w':World):Prop:=
  ((Zhv l k n l.length∧∃A c,e= .returned (.tuple #[.slice A l.length c,.int .i64 0])∧Ze w' 0 w'.heap.size (Zhj l k n l.length) A c)∨
   (∃i,i<l.length∧Zhv l k n i∧(Zel l k n i).2≠0∧e= .returned (.tuple #[.slice none 0 0,.int .i64 (Zel l k n i).2])))∧Below w.heap.size w w'
def Z02 (l:List TM)(k n:Int)(w:World)(nv iv:Value)(wr:World):Prop:=
 ∃(i:Nat) (ps:List (TM×Option Addr×Nat)) (P:Nat→Prop),i≤l.length∧iv= .int .i64 i∧Below w.heap.size w wr∧
  Zk wr w.heap.size 27 nv ps P∧(∀b,P b→w.heap.size≤b)∧ps.length=i∧ps.map (·.1)=Zhj l k n i∧Zhv l k n i
theorem Z0l (l:List TM)(A:Option Addr)(cap:Nat)(k n:Int)(gk gn:Nat)(w:World)(h:Ze w 0 w.heap.size l A cap)(hk:w.cell? ⟨gk,0,none⟩=some (.int .i64 k))(hn:w.cell? ⟨gn,0,none⟩=some (.int .i64 n))(hn0:0≤n∧n≤2000000)(hlen:l.length≤8000)(hS:Zi w):
  Calls prog 79 #[.slice A l.length cap,.func (.func 80) #[] #[.pointer (some ⟨gk,0,none⟩),.pointer (some ⟨gn,0,none⟩)]] w (Zve l k n w):=by
 obtain⟨i0,hi0,hz0,hz1,hz2⟩:=info_parts Zc9;obtain⟨hl,hm⟩:=h.bounds;have hgk:gk<w.heap.size:=Qi w _ hk;have hgn:gn<w.heap.size:=Qi w _ hn;have HN:=hid h.sub;have HLN:=hid hlen;have HCL:=hid (fun(i:Nat)(hi:i<l.length)(u:TM)(F:Option Addr)(C:Nat)(V:World)(hV:Below w.heap.size w V)(hu:Za V 0 w.heap.size u F C)=>(show Calls prog 80 #[.int .i64 i,.agg #[.int .i64 u.k,.int .i64 u.n,.slice F u.l.length C],.pointer (some ⟨gk,0,none⟩),.pointer (some ⟨gn,0,none⟩)] V (Zn (Jy u k (n+i)) V)from
  Z09 gk gn k n i u 0 w.heap.size F C V hu hV.size ((hV.cell (p:=⟨gk,0,none⟩) hgk).trans hk) ((hV.cell (p:=⟨gn,0,none⟩) hgn).trans hn) hn0 (by omega) (hS.kept hV)))
 have CG:=hid (fun(V:World)=>Zdw l.length (by have:=HLN.out;omega) V);unfold maxLen at hm;clear h hS hlen hk hn;go_enter func79,ntmps79;go_wp2_with fail;refine(CG.out _).mono ?_;rintro e w1 ⟨v0,rfl,ho0,hbx⟩;obtain⟨a0,cc0,rfl⟩:=Zl ho0;have HO0:=hid ho0;have HB0:=hid hbx;clear ho0 hbx CG;go_wp2_with fail;go_loopw [6,16] (Z02 l k n w) (fun _ iv _=>l.length - (intOf iv).toNat)
 case atStart=>exact⟨0,[],fun _=>False,Qh _,rfl,HB0.out,⟨HO0.out,fun _ h=>h.elim,fun _ h=>by cases h⟩,fun _ h=>h.elim,rfl,rfl,fun j hj=>absurd hj (Nat.not_lt_zero _)⟩
 case round=>
  obtain⟨i,ps,P,hi1,rfl,hB,hrow,hP,hps,hpl,hok⟩:=hrel;have hz:=hB.size;obtain⟨a1,c1,rfl⟩:=Zl hrow.row;have HPS:=hid hps;have HROW:=hid hrow;have HPP:=hid hP;have HPL:=hid hpl;have HOK:=hid hok;have HBB:=hid hB;clear hrow hP hpl hps hok;by_cases hil:i<l.length
  ·obtain⟨bk,o,F,C,hA,hb1,hb2,hx,hnode⟩:=(HN.out i hil).kept hB Zc2;subst hA;obtain⟨x0',x1',x2'⟩:=hx;have hi1':(i:Int)<(l.length:Int):=by omega
   have hi0':(0:Int)≤(i:Int):=by omega
   have hbw:bk<wr.heap.size:=by omega
   have hty:=Z0o (k:=k) (n:=n) hil;have hmt:=Zu3 l k n i;have hst:=Ztz HOK.out;have HER:=hid (fun(h:(Zel l k n i).2≠0)=>(show(∃i,i<l.length∧Zhv l k n i∧(Zel l k n i).2≠0∧(Zel l k n i).2=(Zel l k n i).2)from⟨i,hil,HOK.out,h,rfl⟩));have HIL:=hid hil;obtain⟨u,hu⟩:∃u:TM,l[i]'hil=u:=⟨_,rfl⟩;rw[hu]at hnode x0' x1' x2' hty;have CF:=hid (fun V (hV:Below wr.heap.size wr V)=>HCL.out i hil u F C V (HBB.out.trans (hV.mono hz)) (hnode.kept hV (by omega)));obtain⟨x,c,hxc⟩:∃x c,Zel l k n i=(x,c):=⟨_,_,rfl⟩;rw[←hty,hxc]at CF;rw[hxc]at hmt hst;have HXC:=hid hxc;have HMT:=hid hmt;have HST:=hid hst;have HA0:=hid (show Below wr.heap.size wr (wr.alloc (.cells #[.int .i64 u.k,.int .i64 u.n,.slice F u.l.length C] 27))from(Qg _ _).alloc Zc2 _);unfold Zn Zc at CF;clear hty hmt hst hxc hu hnode hil;go_wp2_with fail;refine(CF.out _ HA0.out).mono ?_;rintro e wc ⟨A',cap',rfl,hnx,hbc⟩;have hbb:=Zj0 HA0 hbc;have HBX:=hid hbb;have HBWC:=hid (HBB.out.trans (hbb.mono hz));have HNX:=hid hnx;have hzc:=hbb.size;have hzu:wr.heap.size+1=(wr.alloc (.cells #[.int .i64 u.k,.int .i64 u.n,.slice F u.l.length C] 27)).heap.size:=by simp
   have HZU:=hid hzu;clear hbc hbb hnx CF x0' x1' x2' hzu;by_cases h0:c=0
   ·have HST2:=hid (HST.out h0);have t0:(c !=0)=false:=by rw[h0];rfl
    have hps9:ps.length≤8000:=by have:=HPS.out;have:=HLN.out;omega
    have R1:=((HROW.out.below HBX.out).alloc (.cells #[.int .i64 x.k,.int .i64 x.n,.slice A' x.l.length cap'] 27)).alloc (.cells #[.int .i64 x.k,.int .i64 x.n,.slice A' x.l.length cap'] 27);have HR1:=hid R1;have HOW:=hid R1.row;have hown0:=R1.row.lt;have HBW2:=hid ((HBWC.out.alloc HBWC.out.size (.cells #[.int .i64 x.k,.int .i64 x.n,.slice A' x.l.length cap'] 27)).alloc (HBWC.out.alloc HBWC.out.size (.cells #[.int .i64 x.k,.int .i64 x.n,.slice A' x.l.length cap'] 27)).size (.cells #[.int .i64 x.k,.int .i64 x.n,.slice A' x.l.length cap'] 27));clear R1 h0 HST;go_wp2_with (at_builtin;refine Jb rfl _ _ 23 rfl w.heap.size 27 i0 (.agg #[.int .i64 0,.int .i64 0,.slice none 0 0]) 3 40 Tryz.underlying23 hi0 hz0 hz1 hz2 rfl (by decide) _ _ _ rfl HOW.out (some ⟨wc.heap.size+1,0,none⟩) 1 1 (Zq (x,A',cap')) rfl (Zai _ _ _ (by simp) rfl) (Jx _) ?c3 ?c4 ?c5 ?_)
    case c3=>unfold maxLen;omega
    case c4=>omega
    case c5=>simp;omega
    rintro v2' w3 ⟨hown3,hg3,ho3⟩;have HRow:=hid (HR1.out.push (Pn:=fun b=>wr.heap.size≤b∧b<wc.heap.size) (p:=(x,A',cap')) (Zd.imp (fun b o hb=>(((Qg wc.heap.size wc).alloc Zc2 (.cells #[.int .i64 x.k,.int .i64 x.n,.slice A' x.l.length cap'] 27)).alloc (by simp) (.cells #[.int .i64 x.k,.int .i64 x.n,.slice A' x.l.length cap'] 27)).cell (p:=⟨b,o,none⟩) hb.2) (fun b hb=>⟨by have h1:=hb.1;have h2:=HZU.out;omega,hb.2⟩) HNX.out) (fun b hb=>⟨by have:=hb.2;simp;omega,fun e=>by
     have h1:=HROW.out.row.lt b e;omega⟩) hown3 hg3 ho3)
    have HB4:=hid (HBW2.out.grown hg3 (by have:=HBWC.out.size;simp;omega) (fun g e=>by have:=hown0 g e;omega));clear hown3 hg3 ho3 hown0;go_wp2_with fail;go_roundw
    case rel=>
     refine⟨i+1,ps++[(x,A',cap')],fun b=>P b∨(wr.heap.size≤b∧b<wc.heap.size),by have:=HIL.out;omega,by go_num,HB4.out,HRow.out, ?_,by have:=HPS.out;simp;omega, ?_,HST2.out⟩
     ·intro b hb;rcases hb with hb|hb
      ·exact HPP.out b hb
      ·omega
     ·rw[Qb,HPL.out,HMT.out];rfl
    case measure=>have:=HIL.out;simp[intOf];omega
   ·have t0:(c !=0)=true:=by simpa using h0
    have HE:=hid (HER.out (by rw[HXC.out];exact h0));have HBF:=hid (HBWC.out.alloc HBWC.out.size (.cells #[.int .i64 x.k,.int .i64 x.n,.slice A' x.l.length cap'] 27));clear h0 HER HST;go_wp2_with fail;go_ret2;refine⟨.inr ⟨i,HIL.out,HOK.out,by rw[HXC.out];have:=HE.out;simpa using t0,by rw[HXC.out];rfl⟩,HBF.out⟩
  ·have HIN:=hid (show i=l.length by omega);have hge: ¬ (i:Int)<(l.length:Int):=by omega
   have HFULL:Hid (ps.map (·.1)=Zhj l k n l.length):=hid (by rw[HPL.out,HIN.out]);have hpar:=HROW.out.parent (lo:=0) (Qh _) (fun b hb=>Qh _) 0 0;rw[HFULL.out]at hpar;have HPAR:=hid hpar;clear hpar;go_wp2_with fail;go_ret2;refine⟨.inl ⟨by have:=HOK.out;rw[HIN.out]at this;exact this,a1,c1,by rw[HPS.out,HIN.out];rfl,HPAR.out⟩,HBB.out⟩
theorem Zrv (l:List TM)(A:Option Addr)(cap:Nat)(k n:Int)(w:World)(h:Ze w 0 w.heap.size l A cap)(hn0:0≤n∧n≤2000000)(hlen:l.length≤8000)(hS:Zi w):
  Calls prog 47 #[.slice A l.length cap,.int .i64 k,.int .i64 n] w (Zve l k n w):=by
 obtain⟨X,hX⟩:∃X,(w.alloc (.cells #[.int .i64 k] 3)).alloc (.cells #[.int .i64 n] 3)=X:=⟨_,rfl⟩;have HBX:=hid (show Below w.heap.size w X from by rw[←hX];exact((Qg _ _).alloc Zc2 _).alloc (by simp) _);have HK1:=hid (show Bk X w.heap.size 3 #[.int .i64 k]from by rw[←hX];exact(Qn w _ _).alloc _);have HK2:=hid (show Bk X (w.heap.size+1) 3 #[.int .i64 n]from by rw[←hX];exact Qm _ _ _ (by simp));have CE:=hid (Z0l l A cap k n w.heap.size (w.heap.size+1) X ((h.kept HBX.out Zc2).wide Zc2 HBX.out.size) (HK1.out.cell 0) (HK2.out.cell 0) hn0 hlen (hS.kept HBX.out));clear h hlen hS;go_enter func47,ntmps47;go_wp2_with fail;refine CE.out.mono ?_;rintro e w1 ⟨hcase,hb⟩;have HB:=hid (Zj0 HBX hb);clear hb CE hX;rcases hcase with ⟨hz,B,c,rfl,hout⟩|⟨i,hi,hok,hne,rfl⟩
 ·have HZ:=hid hz;have HO:=hid hout;clear hz hout;go_wp2_with fail;go_ret2;exact⟨.inl ⟨HZ.out,B,c,rfl,HO.out⟩,HB.out⟩
 ·have HI:=hid hi;have HOK:=hid hok;have HNE:=hid hne;clear hi hok hne;go_wp2_with fail;go_ret2;exact⟨.inr ⟨i,HI.out,HOK.out,HNE.out,rfl⟩,HB.out⟩
theorem Zp4 (l:List ET)(A B:Option Addr)(cap bap hi g d:Nat)(hd:d<l.length)(w:World)(hr:J8 w hi g l A B cap bap)(hk:l[d].k=1)(hS:Zi w):
    Calls prog 44 #[.pointer (some ⟨g,0,none⟩),.int .i64 d] w (Zbj (Jq l[d].t) w):=by
  have hf:=Zgw hr.fm hd hk;obtain⟨b,o,p,hA,q1,q2,hx,hent⟩:=hr.ents d hd;have hlen:=Zc7 hr.fm;subst hA;have hhl:=hr.hl;have HKT:=hid (fun V (hV:Below w.heap.size w V)=>(show V.cell? ⟨g,0,none⟩=some (.slice (some ⟨b,o,none⟩) l.length cap)∧V.cell? ⟨b,o+d*15+2,none⟩=some (.int .i64 l[d].t.k)∧V.cell? ⟨b,o+d*15+2+1,none⟩=some (.int .i64 l[d].t.n)∧V.cell? ⟨b,o+d*15+2+2,none⟩=some (.slice p.T l[d].t.l.length p.tc)∧V.cell? ⟨b,o+d*15+10,none⟩=some (.int .i64 l[d].a)∧V.cell? ⟨b,o+d*15+11,none⟩=some (.int .i64 l[d].i)from by
    have h1:=hr.below hV;have h2:=hx.kept hV (by omega);exact⟨h1.c0,h2.c2,h2.c3,h2.c4,h2.c10,h2.c11⟩))
  have CS:=hid (fun V (hV:Below w.heap.size w V)=>Zil l[d].t p.T p.tc (l[d].a+l[d].i) V ((hent.ht.kept (hV.mono hhl) Zc2).wide (Qh _) (by have:=hV.size;omega)) (hS.kept hV));rw[hf.sp]at CS;have ha: -100≤l[d].a∧l[d].a≤100:=by have:=hf.a0;have:=hf.ai;have:=hf.i0;omega
  have hi9: -100≤l[d].i∧l[d].i≤100:=by have:=hf.a0;have:=hf.ai;have:=hf.i0;omega
  obtain⟨a,hae⟩:∃a,l[d].a=a:=⟨_,rfl⟩;obtain⟨i,hie⟩:∃i,l[d].i=i:=⟨_,rfl⟩;obtain⟨t,hte⟩:∃t,l[d].t=t:=⟨_,rfl⟩;rw[hae]at ha;rw[hie]at hi9;rw[hae,hie,hte]at HKT CS;rw[hte];obtain⟨ts,hts⟩:∃ts,Jq t=ts:=⟨_,rfl⟩;rw[hts]at CS⊢;unfold Zbk Zc at CS;simp only at CS;have wr1:IntKind.i64.wrap (a+i)=a+i:=Qj _ (by omega);have hbw:b<w.heap.size:=by omega
  have hgw:g<w.heap.size:=by have:=hr.gl;omega
  have hd0:(d:Int)<(l.length:Int):=by omega
  have hd1:(d:Int)≤256:=by omega
  have hbk0:=hid (show Below w.heap.size w w.drew from(Qg _ _).drew);obtain⟨t0,t1,t2,t3,t4,t5⟩:=HKT.out _ (Qg _ _);clear hr hS hf hx hent hae hie hte hts hk q1 q2;go_enter func44,ntmps44;go_wp2_with fail;go_region_held3 (fun w'=>w'.cell? ⟨g,0,none⟩=some (.slice (some ⟨b,o,none⟩) l.length cap)∧w'.cell? ⟨b,o+d*15+2,none⟩=some (.int .i64 t.k)∧w'.cell? ⟨b,o+d*15+2+1,none⟩=some (.int .i64 t.n)∧w'.cell? ⟨b,o+d*15+2+2,none⟩=some (.slice p.T t.l.length p.tc)∧w'.cell? ⟨b,o+d*15+10,none⟩=some (.int .i64 a)∧w'.cell? ⟨b,o+d*15+11,none⟩=some (.int .i64 i))
    (first|exact HKT.out _ hbk0.out|exact HKT.out _ (hbk0.out.alloc hbk0.out.size _)|exact HKT.out _ hB5.out|exact HKT.out _ (hB5.out.alloc hB5.out.size _)|exact HKT.out _ (((hB5.out.setCell (by simp<;>omega) _).setCell (by simp<;>omega) _).setCell (by simp<;>omega) _)|exact HKT.out _ ((((hB5.out.alloc hB5.out.size _).setCell (by simp<;>omega) _).setCell (by simp<;>omega) _).setCell (by simp<;>omega) _))
    (first
    | (go_at_call 73
       refine(CS.out _ (by first|exact hbk0.out|exact hbk0.out.alloc hbk0.out.size _)).mono ?_;rintro e w5 ⟨C,cc,D,dc,rfl,hl5, -,hb3⟩;have hB5:Hid (Below w.heap.size w w5):=hid (by first|exact Zj0 hbk0 hb3|exact(hbk0.out.alloc hbk0.out.size _).trans (hb3.mono (hbk0.out.alloc hbk0.out.size _).size))
       first
       | (have hbkv:Bk w5 w.heap.size 27 #[.int .i64 0,.int .i64 0,.slice none 0 0]:=Qo (B:=(w.drew.alloc (.cells #[.int .i64 0,.int .i64 0,.slice none 0 0] 27)).heap.size) (Qm w.drew 27 #[.int .i64 0,.int .i64 0,.slice none 0 0] rfl) hb3 (by simp)
          have HL:=hid (show Zd w5 (fun b=>b≠w.heap.size∧b<w5.heap.size) _ _ _ from Zd.imp (fun _ _ _=>rfl) (fun b hb=>⟨by have h:=hb.1;simp at h;omega,hb.2⟩) hl5);have hfz:∀o,w5.frozen? ⟨w.heap.size,o,none⟩=false:=fun o=>hbkv.cold o;have d0:=hbkv.cell 0;have d1:=hbkv.cell 1;have d2:=hbkv.cell 2;simp at d0 d1 d2)
       | (have HL:=hid (show Zd w5 (fun b=>b≠w5.heap.size∧b<w5.heap.size) _ _ _ from Zd.imp (fun _ _ _=>rfl) (fun b hb=>⟨by have:=hb.2;omega,hb.2⟩) hl5))
       clear hb3 hl5))
  all_goals
    go_wp2_with fail;go_ret
    first
    | exact⟨C,cc,rfl,Zd.imp (fun b o hb=>((Qg w5.heap.size w5).alloc Zc2 _).cell (p:=⟨b,o,none⟩) hb.2) (fun b hb=>⟨Qh _,by have:=hb.2;simp;omega⟩) HL.out,hB5.out.alloc hB5.out.size _⟩
    | exact⟨C,cc,rfl,(HL.out.three (fun b hb e=>hb.1 e) _ _ _).imp (fun _ _ _=>rfl) (fun b hb=>⟨Qh _,by rw[Z2];exact hb.2⟩),((hB5.out.setCell (by simp<;>omega) _).setCell (by simp<;>omega) _).setCell (by simp<;>omega) _⟩
def Zf0 (κ:Int)(l:List TM)(t:TM):TM×Int:=if(Zck κ l t).2=0 then Zck κ l t else(.node 0 0 [],2)
theorem Zwf (κ:Int)(l:List TM)(t:TM):∃u c,Zck κ l t=(u,c):=⟨_,_,rfl⟩
theorem Zi8 (l:List TM)(L:Option Addr)(capL:Nat)(t:TM)(A:Option Addr)(cap:Nat)(w:World)(hl:Ze w 0 w.heap.size l L capL)(ht:Za w 0 w.heap.size t A cap)(hS:Zi w):
  Calls prog 52 #[.func (.func 53) #[] #[],.slice L l.length capL,Zc t A cap] w (Zn (Zf0 3 l t) w):=by
 obtain⟨X,hX⟩:∃X,(w.alloc (.cells #[.int .i64 t.k,.int .i64 t.n,.slice A t.l.length cap] 27)).alloc (.cells #[.int .i64 0,.int .i64 0,.slice none 0 0] 27)=X:=⟨_,rfl⟩;have HBX:=hid (show Below w.heap.size w X from by rw[←hX];exact((Qg _ _).alloc Zc2 _).alloc (by simp) _);have HSX:=hid (show w.heap.size+2≤X.heap.size from by rw[←hX];simp);have HK1:=hid (show Bk X w.heap.size 27 #[.int .i64 t.k,.int .i64 t.n,.slice A t.l.length cap]from by rw[←hX];exact(Qn w _ _).alloc _);have HK2:=hid (show Bk X (w.heap.size+1) 27 #[.int .i64 0,.int .i64 0,.slice none 0 0]from by rw[←hX];exact Qm _ _ _ (by simp));have x0:X.cell? ⟨w.heap.size,0,none⟩=some (.int .i64 t.k):=HK1.out.cell 0;have x1:X.cell? ⟨w.heap.size,1,none⟩=some (.int .i64 t.n):=HK1.out.cell 1;have x2:X.cell? ⟨w.heap.size,2,none⟩=some (.slice A t.l.length cap):=HK1.out.cell 2;have CP:=hid (Z5q l L capL t A cap X ((hl.kept HBX.out Zc2).wide Zc2 HBX.out.size) ((ht.kept HBX.out Zc2).wide Zc2 HBX.out.size) (hS.kept HBX.out));have HLX:Hid (Zf0 3 l t=if(Zck 3 l t).2=0 then Zck 3 l t else(.node 0 0 [],2)):=hid rfl;obtain⟨u,c,huc⟩:=Zwf 3 l t;obtain⟨r,hr⟩:∃r,Zf0 3 l t=r:=⟨_,rfl⟩;rw[huc]at CP HLX;rw[hr]at HLX⊢;unfold Zn Zc at CP;unfold Zc;clear hl ht hS huc hr;go_enter func52,ntmps52;go_wp2_with fail;refine CP.out.mono ?_;rintro e w1 ⟨B,d,rfl,hu,hb1⟩;have HB1:=hid (Zj0 HBX hb1);have HU:=hid hu;have K1:=HK1.out.below hb1 HK1.out.lt;have K2:=HK2.out.below hb1 HK2.out.lt;have HQ1:=hid K1;have HQ2:=hid K2;have hfz:∀q,w1.frozen? ⟨w.heap.size,q,none⟩=false:=fun q=>K1.cold q;have hfz2:∀q,w1.frozen? ⟨w.heap.size+1,q,none⟩=false:=fun q=>K2.cold q;have y0:w1.cell? ⟨w.heap.size,0,none⟩=some (.int .i64 t.k):=K1.cell 0;have y1:w1.cell? ⟨w.heap.size,1,none⟩=some (.int .i64 t.n):=K1.cell 1;have y2:w1.cell? ⟨w.heap.size,2,none⟩=some (.slice A t.l.length cap):=K1.cell 2;have z0:w1.cell? ⟨w.heap.size+1,0,none⟩=some (.int .i64 0):=K2.cell 0;have z1:w1.cell? ⟨w.heap.size+1,1,none⟩=some (.int .i64 0):=K2.cell 1;have z2:w1.cell? ⟨w.heap.size+1,2,none⟩=some (.slice none 0 0):=K2.cell 2;have HHX:=hid hb1.size;clear K1 K2 hb1 hu x0 x1 x2 hX;by_cases h0:c=0
 ·subst h0;have HR:=hid (show r=(u,0)from HLX.out.trans (if_pos rfl));have B1:=((HQ1.out.at_ 0 (.int .i64 u.k)).at_ 1 (.int .i64 u.n)).at_ 2 (.slice B u.l.length d);have B2:=((HQ2.out.far (a:=⟨w.heap.size,0,none⟩) (by simp) (.int .i64 u.k)).far (a:=⟨w.heap.size,1,none⟩) (by simp) (.int .i64 u.n)).far (a:=⟨w.heap.size,2,none⟩) (by simp) (.slice B u.l.length d);have B3:=((B2.at_ 0 (.int .i64 u.k)).at_ 1 (.int .i64 u.n)).at_ 2 (.slice B u.l.length d);have HS0:=hid (B3.cell 0);have HS1:=hid (B3.cell 1);have HS2:=hid (B3.cell 2);clear B1 B2 B3 HLX;go_wp2_with fail;refine Qk (v:= .tuple #[.agg #[.int .i64 u.k,.int .i64 u.n,.slice B u.l.length d],.int .i64 0]) (by simp[Ql,results52,go_sem,HS0.out,HS1.out,HS2.out]) rfl ?_;rw[HR.out];refine⟨B,d,rfl, ?_,(((((HB1.out.setCell (by simp) _).setCell (by simp) _).setCell (by simp) _).setCell (by simp) _).setCell (by simp) _).setCell (by simp) _⟩;have q:=(Zd.three (g:=w.heap.size) HU.out (fun b hb=>by have:=hb.1;have:=HSX.out;omega) (.int .i64 u.k) (.int .i64 u.n) (.slice B u.l.length d)).three (g:=w.heap.size+1) (fun b hb=>by have:=hb.1;have:=HSX.out;omega) (.int .i64 u.k) (.int .i64 u.n) (.slice B u.l.length d);exact q.imp (fun _ _ _=>rfl) (fun b hb=>⟨by have:=hb.1;have:=HSX.out;omega,by rw[Z2,Z2];exact hb.2⟩)
 ·have t0:(c !=0)=true:=by simpa using h0
  have HR:=hid (show r=(.node 0 0 [],2)from HLX.out.trans (if_neg h0));have B2:=((HQ2.out.far (a:=⟨w.heap.size,0,none⟩) (by simp) (.int .i64 u.k)).far (a:=⟨w.heap.size,1,none⟩) (by simp) (.int .i64 u.n)).far (a:=⟨w.heap.size,2,none⟩) (by simp) (.slice B u.l.length d);have B3:=((B2.at_ 0 (.int .i64 0)).at_ 1 (.int .i64 0)).at_ 2 (.slice none 0 0);have HS0:=hid (B3.cell 0);have HS1:=hid (B3.cell 1);have HS2:=hid (B3.cell 2);clear B2 B3 h0 HLX;go_wp2_with fail;refine Qk (v:= .tuple #[.agg #[.int .i64 0,.int .i64 0,.slice none 0 0],.int .i64 2]) (by simp[Ql,results52,go_sem,HS0.out,HS1.out,HS2.out]) rfl ?_;rw[HR.out];exact Zbp (((HB1.out.setCell (by simp) _).setCell (by simp) _).setCell (by simp) _) (by simp)
theorem Z04 {f a:TM}(hf:Zg f=true)(ha:Zg a=true):Zg (.node 5 0 [f,a])=true:=by
 rw[Zo,Z6,Qf,Qf,List.all_nil,hf,ha];unfold Zad;rfl
theorem Zwd {f:TM}(hf:Zg f=true):∀{xs:List TM},(∀u∈xs,Zg u=true)→Zg (Zac f xs)=true:=by
 intro xs;induction xs generalizing f with
 | nil=>intro _;exact hf
 | cons a xs ih=>
  intro h;show Zg (Zac (.node 5 0 [f,a]) xs)=true
  exact ih (Z04 hf (h a List.mem_cons_self)) (fun u hu=>h u (List.mem_cons_of_mem _ hu))
theorem Zry {n:Nat}(hn:n≤1000):∀u∈Z7 n,Zg u=true:=by
 intro u hu;unfold Z7 at hu;simp only[List.mem_map,List.mem_range]at hu;obtain⟨i,hi,rfl⟩:=hu;rw[Zrf,decide_eq_true (show(0:Int)≤((n - 1 - i:Nat):Int)by omega),decide_eq_true (show((n - 1 - i:Nat):Int)≤1048576 by omega)];rfl
theorem Zwm {d:Int}(h0:0≤d)(h1:d≤1000):Zg (.node 6 d [])=true:=by
 rw[Zo,Z6];unfold Zad Zcq Zec;simp[h0,show d≤1048576 by omega]
def Ziw (d:Int)(a i bs:Nat):TM:=Zac (.node 6 d []) ((Z7 bs).take a++(Z7 bs).drop (bs - i))
theorem Zyr {d:Int}{a i bs:Nat}(h0:0≤d)(h1:d≤1000)(hb:bs≤1000):Zg (Ziw d a i bs)=true:=by
 unfold Ziw;refine Zwd (Zwm h0 h1) (fun u hu=> ?_);rcases List.mem_append.1 hu with hu|hu
 ·exact Zry hb u (List.mem_of_mem_take hu)
 ·exact Zry hb u (List.mem_of_mem_drop hu)
theorem Zoe (l:List ET)(A B:Option Addr)(cap bap hi g d bs:Nat)(hd:d<l.length)(w:World)(hr:J8 w hi g l A B cap bap)(hk:l[d].k=1)(hab:l[d].a+l[d].i≤(bs:Int))(hbs:bs≤900):
    Calls prog 54 #[.pointer (some ⟨g,0,none⟩),.int .i64 d,.int .i64 bs] w (Zey (Ziw d l[d].a.toNat l[d].i.toNat bs) w):=by
  have hf:=Zgw hr.fm hd hk;obtain⟨b,o,p,hA,q1,q2,hx,hent⟩:=hr.ents d hd;have hlen:=Zc7 hr.fm;subst hA;have hhl:=hr.hl;have HKT:=hid (fun V (hV:Below w.heap.size w V)=>(show V.cell? ⟨g,0,none⟩=some (.slice (some ⟨b,o,none⟩) l.length cap)∧V.cell? ⟨b,o+d*15+10,none⟩=some (.int .i64 l[d].a)∧V.cell? ⟨b,o+d*15+11,none⟩=some (.int .i64 l[d].i)from by
    have h1:=hr.below hV;have h2:=hx.kept hV (by omega);exact⟨h1.c0,h2.c10,h2.c11⟩))
  obtain⟨a,hae⟩:∃a:Nat,l[d].a=(a:Int):=⟨l[d].a.toNat,by have:=hf.a0;omega⟩;obtain⟨i,hie⟩:∃i:Nat,l[d].i=(i:Int):=⟨l[d].i.toNat,by have:=hf.i0;omega⟩;have hai:=hf.ai;rw[hae,hie]at HKT hab hai⊢;rw[Int.toNat_natCast,Int.toNat_natCast];have hbw:b<w.heap.size:=by omega
  have hgw:g<w.heap.size:=by have:=hr.gl;omega
  have hd0:(d:Int)<(l.length:Int):=by omega
  have hd1:(d:Int)≤256:=by omega
  clear hr hf hx hent hae hie hk q1 q2 hhl;have HGD:=hid (Zyr (d:=(d:Int)) (a:=a) (i:=i) (bs:=bs) (by omega) (by omega) (by omega));have HFX:=hid (show Ziw d a i bs=Zac (.node 6 d []) (Jh [((Z7 bs).take a,none,0),((Z7 bs).drop (bs - i),none,0)])from by unfold Ziw Jh;simp);obtain⟨u,hu⟩:∃u,Ziw d a i bs=u:=⟨_,rfl⟩;rw[hu]at HGD HFX⊢;clear hu;obtain⟨W,hW⟩:∃W,w.alloc (.cells #[.int .i64 0,.int .i64 0,.slice none 0 0] 27)=W:=⟨_,rfl⟩;have HBW:=hid (show Below w.heap.size w W from by rw[←hW];exact(Qg _ _).alloc Zc2 _);have HKW:=hid (show Bk W w.heap.size 27 #[.int .i64 0,.int .i64 0,.slice none 0 0]from by rw[←hW];exact Qn w _ _);have CV:=hid (Zme bs (by omega) W);have CC:=hid (fun(V:World)=>(Zo3 d V).mono fun e w' h=>(show e= .returned (.agg #[.int .i64 6,.int .i64 d,.slice none 0 0])∧Below V.heap.size V w' from⟨h.1,by rw[h.2];exact(Qg _ _).alloc Zc2 _⟩));have HAB:=hid (show a+i≤bs by omega);have HBS:=hid hbs;go_enter func54,ntmps54;go_wp2_with fail;refine CV.out.mono ?_;rintro e w1 ⟨V1,c1,rfl,hv1,hb1⟩;rw[Zar];have hl1:=hv1.bounds;rw[Zar]at hl1;have HV1:=hid hv1;have HB1:=hid (Zj0 HBW hb1);have HK1:=hid (fun V (hV:Below w1.heap.size w1 V)=>(show Bk V w.heap.size 27 #[.int .i64 0,.int .i64 0,.slice none 0 0]from(HKW.out.below hb1 HKW.out.lt).below hV (by have:=HKW.out.lt;have:=hb1.size;omega)));have HK0:=hid (fun V (hV:Below w1.heap.size w1 V)=>HKT.out V (Zj0 HB1 hV));have hac:(a:Int)≤(c1:Int):=by omega
  have hab1:(a:Int)≤(bs:Int):=by omega
  obtain⟨q,hq⟩:∃q:Nat,bs - i=q:=⟨_,rfl⟩;have wr2:IntKind.i64.wrap ((bs:Int) - (i:Int))=(q:Int):=by rw[Qj _ (by omega)];omega
  have hqb:(q:Int)≤(bs:Int):=by omega
  have hqc:(q:Int)≤(c1:Int):=by omega
  have hqb':q≤bs:=by omega
  have hqc':q≤c1:=by omega
  have hac':a≤c1:=by omega
  rw[hq]at HFX;have HRS:=hid (Ze.rest (n:=q) HV1.out (by rw[Zar];omega));have HTK:=hid (Ze.take HV1.out a);have HLD:=hid (show((Z7 bs).drop q).length=bs - q by rw[List.length_drop,Zar]);have HLT:=hid (show((Z7 bs).take a).length=a by rw[List.length_take,Zar];omega);obtain⟨A2,hA2⟩:∃A2,(if c1=q then V1 else V1.map (fun x=>x.add (q*3)))=A2:=⟨_,rfl⟩;rw[hA2]at HRS;have CA:=hid (fun(V:World)(g2:Nat)(e2:TypeId)(hV:Below w1.heap.size w1 V)(hb2:Bk V g2 e2 #[.slice V1 a c1,.slice A2 (bs - q) (c1 - q)])=>(show Calls prog 51 #[.agg #[.int .i64 6,.int .i64 d,.slice none 0 0],.slice (some ⟨g2,0,none⟩) 2 2] V (Zey u V)from by
    have hls:Zc5 V w1.heap.size g2 [((Z7 bs).take a,V1,c1),((Z7 bs).drop q,A2,c1 - q)]:=Zc5.of (e:=e2) (by
      show Bk V g2 e2 #[.slice V1 ((Z7 bs).take a).length c1,.slice A2 ((Z7 bs).drop q).length (c1 - q)]
      rw[HLT.out,HLD.out];exact hb2) hV.size (fun p hp=>by
        simp only[List.mem_cons,List.not_mem_nil,or_false]at hp;rcases hp with rfl|rfl
        · exact HTK.out.kept hV Zc2
        · exact HRS.out.kept hV Zc2)
    have:=Zjp (.node 6 d []) none 0 _ w1.heap.size g2 V (Zas _ _ 6 d) hls (by simp);rw[show Jh [((Z7 bs).take a,V1,c1),((Z7 bs).drop q,A2,c1 - q)]=Jh [((Z7 bs).take a,none,0),((Z7 bs).drop q,none,0)]from by unfold Jh;simp,←HFX.out]at this;exact this))
  unfold Zey Zc at CA;have hbk0:=hid (show Below w1.heap.size w1 w1.drew from(Qg _ _).drew);obtain⟨t0,t1,t2⟩:=HK0.out _ (Qg _ _);have hgw1:g<w1.heap.size:=by have:=HB1.out.size;omega
  have hbw1:b<w1.heap.size:=by have:=HB1.out.size;omega
  clear hv1 hb1 CV hW HRS HTK HFX hab hai hl1;by_cases hcq:c1=q
  all_goals
    first
    | (rw[if_pos hcq]at hA2
       subst hA2;subst hcq;rw[Nat.sub_self]at CA)
    | (rw[if_neg hcq]at hA2
       subst hA2)
    go_wp2_with fail;go_region_held3 (fun w'=>w'.cell? ⟨g,0,none⟩=some (.slice (some ⟨b,o,none⟩) l.length cap)∧w'.cell? ⟨b,o+d*15+10,none⟩=some (.int .i64 (a:Int))∧w'.cell? ⟨b,o+d*15+11,none⟩=some (.int .i64 (i:Int)))
      (first|exact HK0.out _ hbk0.out|exact HK0.out _ (hbk0.out.alloc hbk0.out.size _)|exact HK0.out _ hbC.out|exact HK0.out _ (hbC.out.alloc hbC.out.size _)|exact HK0.out _ hB5.out|exact HKT.out _ ((((Zj0 HB1 hB5.out).setCell Zc2 _).setCell Zc2 _).setCell Zc2 _))
      (first
      | (go_at_call 78
         refine(CC.out _).mono ?_;rintro e w3 ⟨rfl,hb3⟩;have hbC:Hid (Below w1.heap.size w1 w3):=hid (by first|exact Zj0 hbk0 hb3|exact(hbk0.out.alloc hbk0.out.size _).trans (hb3.mono (hbk0.out.alloc hbk0.out.size _).size))
         first
         | (have hbs2:=hid (Qo (Qm w1.drew _ _ rfl) hb3 (by simp)))
         | skip
         clear hb3)
      | (go_at_call 51
         first
         | refine(CA.out _ _ _ hbC.out hbs2.out).mono ?_
         | refine(CA.out _ _ _ (hbC.out.alloc hbC.out.size _) (Qm w3 _ _ rfl)).mono ?_
         rintro e w5 ⟨C5,cc5,rfl,hn5,hb5⟩;have hB5:Hid (Below w1.heap.size w1 w5):=hid (by first|exact Zj0 hbC hb5|exact(hbC.out.alloc hbC.out.size _).trans (hb5.mono (hbC.out.alloc hbC.out.size _).size));have K5:=HK1.out _ hB5.out;have HK5:=hid K5;have hfz:∀o,w5.frozen? ⟨w.heap.size,o,none⟩=false:=fun o=>K5.cold o;have d0:w5.cell? ⟨w.heap.size,0,none⟩=some (.int .i64 0):=K5.cell 0;have d1:w5.cell? ⟨w.heap.size,1,none⟩=some (.int .i64 0):=K5.cell 1;have d2:w5.cell? ⟨w.heap.size,2,none⟩=some (.slice none 0 0):=K5.cell 2;have HN5:=hid (Za.free hn5 (Zrb HGD.out) K5);clear K5 hb5 hn5))
    all_goals
      have B5:=((HK5.out.at_ 0 (.int .i64 u.k)).at_ 1 (.int .i64 u.n)).at_ 2 (.slice C5 u.l.length cc5);have HS0:=hid (B5.cell 0);have HS1:=hid (B5.cell 1);have HS2:=hid (B5.cell 2);have HBF:=hid (Zj0 HB1 hB5.out);clear B5;go_wp2_with fail;refine Qk (v:= .agg #[.int .i64 u.k,.int .i64 u.n,.slice C5 u.l.length cc5]) (by simp[Ql,results54,go_sem,HS0.out,HS1.out,HS2.out]) rfl ?_;exact⟨C5,cc5,rfl,(HN5.out.three (fun b hb=>hb.2) _ _ _).imp (fun _ _ _=>rfl) (fun b hb=>⟨Qh _,by rw[Z2];exact hb.1.2⟩),((HBF.out.setCell Zc2 _).setCell Zc2 _).setCell Zc2 _⟩
