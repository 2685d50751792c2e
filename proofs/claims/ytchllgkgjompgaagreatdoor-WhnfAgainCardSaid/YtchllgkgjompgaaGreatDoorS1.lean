import Derived.Test.YtchllgkgjompgaaGreatDoorM1
import Derived.RegionTactic
import Derived.LoopTactic
import Derived.LoopN
namespace Go.Proofs.YtchllgkgjompgaaGreatDoor
set_option maxHeartbeats 8000000
set_option maxRecDepth 100000
open Go.RowKit
set_option linter.unusedVariables false
open Lib(hid)
open Go.Proofs.Tryz
theorem dfS1{p:Prop}[Decidable p](h:¬p):decide p=false:=decide_eq_false h
theorem dtS1{p:Prop}[Decidable p](h:p):decide p=true:=decide_eq_true h
theorem lrS1{n:Nat}:n≤n:=Nat.le_refl n
structure ET where
 k:Int
 s:ByteArray
 t:TM
 b:TM
 f:Int
 p:Int
 a:Int
 i:Int
 v:Int
 c:List Int
 d:List Int
structure EP where
 T:Option Addr
 tc:Nat
 B:Option Addr
 bc:Nat
 C:Option Addr
 cc:Nat
 D:Option Addr
 dc:Nat
def entV (x:ET) (p:EP):Value:= .agg #[.int .i64 x.k,.string x.s,.int .i64 x.t.k,.int .i64 x.t.n,.slice p.T x.t.l.length p.tc,.int .i64 x.b.k,.int .i64 x.b.n,.slice p.B x.b.l.length p.bc,
 .int .i64 x.f,.int .i64 x.p,.int .i64 x.a,.int .i64 x.i,.int .i64 x.v,.slice p.C x.c.length p.cc,.slice p.D x.d.length p.dc]
def entC (x:ET) (p:EP):Array Value:= #[.int .i64 x.k,.string x.s,.int .i64 x.t.k,.int .i64 x.t.n,.slice p.T x.t.l.length p.tc,.int .i64 x.b.k,.int .i64 x.b.n,.slice p.B x.b.l.length p.bc,
 .int .i64 x.f,.int .i64 x.p,.int .i64 x.a,.int .i64 x.i,.int .i64 x.v,.slice p.C x.c.length p.cc,.slice p.D x.d.length p.dc]
structure CellsE (w:World) (b o:Nat) (x:ET) (p:EP):Prop where
 c0:w.cell? ⟨b,o,none⟩=some (.int .i64 x.k)
 c1:w.cell? ⟨b,o+1,none⟩=some (.string x.s)
 c2:w.cell? ⟨b,o+2,none⟩=some (.int .i64 x.t.k)
 c3:w.cell? ⟨b,o+2+1,none⟩=some (.int .i64 x.t.n)
 c4:w.cell? ⟨b,o+2+2,none⟩=some (.slice p.T x.t.l.length p.tc)
 c5:w.cell? ⟨b,o+5,none⟩=some (.int .i64 x.b.k)
 c6:w.cell? ⟨b,o+5+1,none⟩=some (.int .i64 x.b.n)
 c7:w.cell? ⟨b,o+5+2,none⟩=some (.slice p.B x.b.l.length p.bc)
 c8:w.cell? ⟨b,o+8,none⟩=some (.int .i64 x.f)
 c9:w.cell? ⟨b,o+9,none⟩=some (.int .i64 x.p)
 c10:w.cell? ⟨b,o+10,none⟩=some (.int .i64 x.a)
 c11:w.cell? ⟨b,o+11,none⟩=some (.int .i64 x.i)
 c12:w.cell? ⟨b,o+12,none⟩=some (.int .i64 x.v)
 c13:w.cell? ⟨b,o+13,none⟩=some (.slice p.C x.c.length p.cc)
 c14:w.cell? ⟨b,o+14,none⟩=some (.slice p.D x.d.length p.dc)
theorem CellsE.kept {w w':World} {b o B:Nat} {x:ET} {p:EP} (h:CellsE w b o x p) (hb:Below B w w') (hB:b<B):CellsE w' b o x p:=by
 have e:∀q,w'.cell? ⟨b,q,none⟩=w.cell? ⟨b,q,none⟩:=fun q=>hb.cell (p:=⟨b,q,none⟩) hB;obtain⟨x0,x1,x2,x3,x4,x5,x6,x7,x8,x9,x10,x11,x12,x13,x14⟩:=h;exact⟨by rw[e,x0],by rw[e,x1],by rw[e,x2],by rw[e,x3],by rw[e,x4],by rw[e,x5],by rw[e,x6],by rw[e,x7],by rw[e,x8],by rw[e,x9],by rw[e,x10],by rw[e,x11],by rw[e,x12],by rw[e,x13],by rw[e,x14]⟩
def IntRow (w:World) (lo hi:Nat) (A:Option Addr) (l:List Int):Prop:=
 ∀i (h:i<l.length),∃b o,A=some ⟨b,o,none⟩∧lo≤b∧b<hi∧w.cell? ⟨b,o+i,none⟩=some (.int .i64 l[i])
theorem IntRow.kept {w w':World} {lo hi B:Nat} {A:Option Addr} {l:List Int} (h:IntRow w lo hi A l) (hb:Below B w w') (hB:hi≤B):IntRow w' lo hi A l:=fun i hi'=>by
 obtain⟨b,o,hA,h1,h2,h3⟩:=h i hi';exact⟨b,o,hA,h1,h2,(hb.cell (p:=⟨b,o+i,none⟩) (by show b<B;omega)).trans h3⟩
theorem IntRow.wide {w:World} {lo hi lo' hi':Nat} {A:Option Addr} {l:List Int} (h:IntRow w lo hi A l) (h1:lo'≤lo) (h2:hi≤hi'):IntRow w lo' hi' A l:=fun i hi0=>by
 obtain⟨b,o,hA,q1,q2,q3⟩:=h i hi0;exact⟨b,o,hA,by omega,by omega,q3⟩
structure IsEnt (w:World) (lo hi:Nat) (x:ET) (p:EP):Prop where
 hs:x.s.size≤maxLen
 ht:IsTerm w lo hi x.t p.T p.tc
 hb:IsTerm w lo hi x.b p.B p.bc
 lc:x.c.length≤p.cc
 mc:p.cc≤maxLen
 hc:IntRow w lo hi p.C x.c
 ld:x.d.length≤p.dc
 md:p.dc≤maxLen
 hd:IntRow w lo hi p.D x.d
 ra:x.a≤9223372036854775807
theorem IsEnt.kept {w w':World} {lo hi B:Nat} {x:ET} {p:EP} (h:IsEnt w lo hi x p) (hb:Below B w w') (hB:hi≤B):IsEnt w' lo hi x p:=
 ⟨h.hs,h.ht.kept hb hB,h.hb.kept hb hB,h.lc,h.mc,h.hc.kept hb hB,h.ld,h.md,h.hd.kept hb hB,h.ra⟩
theorem IsEnt.wide {w:World} {lo hi lo' hi':Nat} {x:ET} {p:EP} (h:IsEnt w lo hi x p) (h1:lo'≤lo) (h2:hi≤hi'):IsEnt w lo' hi' x p:=
 ⟨h.hs,h.ht.wide h1 h2,h.hb.wide h1 h2,h.lc,h.mc,h.hc.wide h1 h2,h.ld,h.md,h.hd.wide h1 h2,h.ra⟩
def EntAt (w:World) (lo hi:Nat) (A:Option Addr) (l:List ET) (i:Nat) (h:i<l.length):Prop:=
 ∃b o p,A=some ⟨b,o,none⟩∧lo≤b∧b<hi∧CellsE w b (o+i*15) l[i] p∧IsEnt w lo hi l[i] p
def EntsAt (w:World) (lo hi:Nat) (A:Option Addr) (l:List ET):Prop:=∀i (h:i<l.length),EntAt w lo hi A l i h
theorem EntAt.kept {w w':World} {lo hi B:Nat} {A:Option Addr} {l:List ET} {i:Nat} {h:i<l.length} (hx:EntAt w lo hi A l i h) (hb:Below B w w') (hB:hi≤B):EntAt w' lo hi A l i h:=by
 obtain⟨b,o,p,hA,h1,h2,h3,h4⟩:=hx;exact⟨b,o,p,hA,h1,h2,h3.kept hb (by omega),h4.kept hb hB⟩
theorem EntsAt.kept {w w':World} {lo hi B:Nat} {A:Option Addr} {l:List ET} (h:EntsAt w lo hi A l) (hb:Below B w w') (hB:hi≤B):EntsAt w' lo hi A l:=fun i hi'=>(h i hi').kept hb hB
theorem EntsAt.wide {w:World} {lo hi lo' hi':Nat} {A:Option Addr} {l:List ET} (h:EntsAt w lo hi A l) (h1:lo'≤lo) (h2:hi≤hi'):EntsAt w lo' hi' A l:=fun i hi0=>by
 obtain⟨b,o,p,hA,q1,q2,q3,q4⟩:=h i hi0;exact⟨b,o,p,hA,by omega,by omega,q3,q4.wide h1 h2⟩
theorem EntsAt.take {w:World} {lo hi:Nat} {A:Option Addr} {l:List ET} (h:EntsAt w lo hi A l) (k:Nat):EntsAt w lo hi A (l.take k):=fun i hi0=>by
 have hi1:i<l.length:=by rw[List.length_take]at hi0;omega
 obtain⟨b,o,p,hA,q1,q2,q3,q4⟩:=h i hi1;have e:(l.take k)[i]=l[i]:=List.getElem_take;exact⟨b,o,p,hA,q1,q2,by rw[e];exact q3,by rw[e];exact q4⟩
def namesE (l:List ET):List ByteArray:=l.map ET.s
def isB (l:List ET) (n:Int) (k:Int):Bool:=decide (0≤n) && match l[n.toNat]? with|some x=>decide (x.k=k)|none=>false
theorem isB_neg {l:List ET} {n k:Int} (h:n<0):isB l n k=false:=by unfold isB;rw[dfS1 (by omega),Bool.false_and]
theorem isB_big {l:List ET} {n k:Int} (h:(l.length:Int)≤n):isB l n k=false:=by
 unfold isB;rw[List.getElem?_eq_none (by omega)];simp
theorem isB_at {l:List ET} {n k:Int} (h0:0≤n) (h:n.toNat<l.length):isB l n k=decide (l[n.toNat].k=k):=by
 unfold isB;rw[List.getElem?_eq_getElem h,dtS1 h0,Bool.true_and]
theorem isB_nat {l:List ET} {n:Nat} {k:Int} (h:n<l.length):isB l (n:Int) k=decide (l[n].k=k):=isB_at (n:=(n:Int)) (by omega) (by simpa using h)
theorem isB_true {l:List ET} {n k:Int} (h:isB l n k=true):∃m:Nat,n=(m:Int)∧∃hm:m<l.length,l[m].k=k:=by
 by_cases h0:n<0
 ·rw[isB_neg h0]at h;cases h
 by_cases h1:(l.length:Int)≤n
 ·rw[isB_big h1]at h;cases h
 obtain⟨m,rfl⟩:∃m:Nat,n=(m:Int):=⟨n.toNat,by omega⟩;refine⟨m,rfl,by omega, ?_⟩;rw[isB_nat (by omega)]at h;exact of_decide_eq_true h
theorem isOf_any (l:List ET) (A:Option Addr) (cap:Nat) (lo hi:Nat) (n k:Int) (w:World) (hl:l.length≤maxLen) (hn:EntsAt w lo hi A l):
  Calls prog 136 #[.slice A l.length cap,.int .i64 n,.int .i64 k] w fun e w'=>e= .returned (.bool (isB l n k))∧w=w':=by
 unfold maxLen at hl;have hll:(l.length:Int)≤9223372036854775807:=by omega
 clear hl;by_cases h0:n<0
 ·rw[isB_neg h0];have t0:decide (0≤n)=false:=dfS1 (by omega);have t0':decide (n≥0)=false:=dfS1 (by omega);clear hn h0;go_enter func136,ntmps136;go_wp2_with fail;go_ret;exact⟨rfl,rfl⟩
 have t0:decide (0≤n)=true:=dtS1 (by omega);have t0':decide (n≥0)=true:=dtS1 (by omega);by_cases h1:(l.length:Int)≤n
 ·rw[isB_big h1];have t1:decide (n<(l.length:Int))=false:=dfS1 (by omega);clear hn h0 h1;go_enter func136,ntmps136;go_wp2_with fail;go_ret;exact⟨rfl,rfl⟩
 have t1:decide (n<(l.length:Int))=true:=dtS1 (by omega);obtain⟨m,rfl⟩:∃m:Nat,n=(m:Int):=⟨n.toNat,by omega⟩;have hm:m<l.length:=by omega
 rw[isB_nat hm];obtain⟨b,o,p,hA,q1,q2,hx,_⟩:=hn m hm;have x0:=hx.c0;obtain⟨x,hxx⟩:∃x,l[m].k=x:=⟨_,rfl⟩;rw[hxx]at x0⊢;subst hA;have hi0':(m:Int)<(l.length:Int):=by omega
 clear hx hxx hn h0 h1;by_cases hk:x=k
 ·have t2:(x==k)=true:=by simpa using hk
  rw[dtS1 hk];clear hk;go_enter func136,ntmps136;go_wp2_with fail;go_ret;exact⟨rfl,rfl⟩
 ·have t2:(x==k)=false:=by simpa using hk
  rw[dfS1 hk];clear hk;go_enter func136,ntmps136;go_wp2_with fail;go_ret;exact⟨rfl,rfl⟩
def zeroT (t:TM):Bool:=decide (t.k=0) && (decide (t.n=0) && decide (t.l.length=0))
theorem szero_any (t:TM) (A:Option Addr) (cap:Nat) (w:World):Calls prog 206 #[termV t A cap] w fun e w'=>e= .returned (.bool (zeroT t))∧Below w.heap.size w w':=by
 obtain⟨k,n,l⟩:=t;rw[termV_node];show Calls _ _ _ _ fun e w'=>e= .returned (.bool (decide (k=0) && (decide (n=0) && decide (l.length=0))))∧Below w.heap.size w w'
 obtain⟨m,hm⟩:∃m,l.length=m:=⟨_,rfl⟩;rw[hm];clear hm;have HW:=hid (fun o=>(Below.refl w.heap.size w).alloc lrS1 o);by_cases hk:k=0
 case neg=>
  rw[dfS1 hk,Bool.false_and];have t0:(k==0)=false:=by simpa using hk
  clear hk;go_enter func206,ntmps206;go_wp2_with fail;go_ret;exact⟨rfl,HW.out _⟩
 rw[dtS1 hk,Bool.true_and];have t0:(k==0)=true:=by simpa using hk
 by_cases hn:n=0
 case neg=>
  rw[dfS1 hn,Bool.false_and];have t1:(n==0)=false:=by simpa using hn
  clear hk hn;go_enter func206,ntmps206;go_wp2_with fail;go_ret;exact⟨rfl,HW.out _⟩
 rw[dtS1 hn,Bool.true_and];have t1:(n==0)=true:=by simpa using hn
 clear hk hn;by_cases hl:m=0
 ·rw[dtS1 hl];have t2:((m:Int)==0)=true:=by simpa using hl
  clear hl;go_enter func206,ntmps206;go_wp2_with fail;go_ret;exact⟨rfl,HW.out _⟩
 ·rw[dfS1 hl];have t2:((m:Int)==0)=false:=by simpa using hl
  clear hl;go_enter func206,ntmps206;go_wp2_with fail;go_ret;exact⟨rfl,HW.out _⟩
theorem idx_ints (l:List Int) (x:Int) (A:Option Addr) (cap lo hi:Nat) (w:World) (hl:l.length≤maxLen) (hn:IntRow w lo hi A l):
  Calls prog 222 #[.slice A l.length cap,.int .i64 x] w fun e w'=>(∃z:Int,e= .returned (.int .i64 z)∧(0≤z↔l.contains x=true))∧w=w':=by
 have HN:=hid hn;unfold maxLen at hl;have hll:(l.length:Int)≤9223372036854775807:=by omega
 clear hn hl;go_enter func222,ntmps222;go_wp2_with fail;go_loopw [8] (fun iv wr=>∃i:Nat,i≤l.length∧iv= .int .i64 i∧w=wr∧Hid (∀j (h:j<l.length),j<i→l[j]≠x)) (fun iv _=>l.length - (intOf iv).toNat)
 case atStart=>exact⟨0,Nat.zero_le _,rfl,rfl,hid (fun j h hj=>by omega)⟩
 case round=>
  obtain⟨i,hi1,rfl,rfl,HQ⟩:=hrel;by_cases hil:i<l.length
  ·obtain⟨b,o,rfl,q1,q2,hc⟩:=HN.out i hil;have HY:=hid (fun(h:l[i]=x)=>(show l.contains x=true from by rw[List.contains_iff_mem,←h];exact List.getElem_mem hil));have HNX:=hid (fun(h:l[i]≠x) j (hj:j<l.length) (h2:j<i+1)=>(show l[j]≠x from by
    rcases Nat.lt_or_eq_of_le (Nat.le_of_lt_succ h2)with h3|h3
    ·exact HQ.out j hj h3
    ·subst h3;exact h))
   obtain⟨y,hy⟩:∃y,l[i]=y:=⟨_,rfl⟩;rw[hy]at hc HY HNX;have hi0':(i:Int)<(l.length:Int):=by omega
   clear hy;by_cases hyx:y=x
   ·have t0:(y==x)=true:=by simpa using hyx
    have t0':(x==y)=true:=by simpa using hyx.symm
    have HYY:=hid (HY.out hyx);clear hyx HY HNX;go_wp2_with fail;go_ret;exact⟨⟨(i:Int),rfl,⟨fun _=>HYY.out,fun _=>by omega⟩⟩,rfl⟩
   ·have t0:(y==x)=false:=by simpa using hyx
    have t0':(x==y)=false:=by simpa using(fun h=>hyx h.symm)
    have HYY:=hid (HNX.out hyx);clear hyx HY HNX;go_wp2_with fail;go_roundw
    case rel=>exact⟨i+1,by omega,by go_num,by first|rfl|trivial,hid HYY.out⟩
    case measure=>simp[intOf];omega
  ·obtain rfl:i=l.length:=by omega
   go_wp2_with fail;go_ret;refine⟨⟨-1,rfl,⟨fun h=>by omega,fun h=> ?_⟩⟩,rfl⟩;rw[List.contains_iff_mem]at h;obtain⟨j,hj,e⟩:=List.getElem_of_mem h;exact absurd e (HQ.out j hj hj)
theorem contains_any (l:List Int) (x:Int) (A:Option Addr) (cap lo hi:Nat) (w:World) (hl:l.length≤maxLen) (hn:IntRow w lo hi A l):
  Calls prog 209 #[.slice A l.length cap,.int .i64 x] w fun e w'=>e= .returned (.bool (l.contains x))∧w=w':=by
 have HI:=hid (idx_ints l x A cap lo hi w hl hn);obtain⟨r,hr⟩:∃r,l.contains x=r:=⟨_,rfl⟩;rw[hr]at HI⊢;clear hn hl hr;go_enter func209,ntmps209;go_wp2_with fail;refine HI.out.mono ?_;rintro e w1 ⟨⟨z,rfl,hz⟩,rfl⟩;cases r with
 | true=>
  have hz0:=hz.2 rfl;have t0:decide (0≤z)=true:=dtS1 hz0;have t0':decide (z≥0)=true:=dtS1 hz0;clear hz hz0;go_wp2_with fail;go_ret;exact⟨rfl,rfl⟩
 | false=>
  have hz0: ¬ 0≤z:=fun h=>by have:=hz.1 h;cases this
  have t0:decide (0≤z)=false:=dfS1 hz0;have t0':decide (z≥0)=false:=dfS1 hz0;clear hz hz0;go_wp2_with fail;go_ret;exact⟨rfl,rfl⟩
def idleB (x:ET):Bool:=
 if x.k=1 then decide (x.f=0) && (decide (x.p=0) && zeroT x.b)
 else if x.k=2∨x.k=4 then decide (x.i=0) && (decide (x.v=0) && (decide (x.c.length=0) && (decide (x.d.length=0) && zeroT x.b)))
 else if x.k=3 then decide (x.f=0) && (decide (x.p=0) && (decide (x.a=0) && (decide (x.i=0) && (decide (x.v=0) && (decide (x.c.length=0) && decide (x.d.length=0))))))
 else decide (x.f=0) && (decide (x.p=0) && (decide (x.a=0) && (decide (x.i=0) && (decide (x.v=0) && (decide (x.c.length=0) && (decide (x.d.length=0) && zeroT x.b))))))
theorem zero_zero:zeroT (.node 0 0 [])=true:=rfl
theorem idle_1 (x:ET) (p:EP) (w:World) (hk:x.k=1):
    Calls prog 186 #[entV x p] w fun e w'=>e= .returned (.bool (idleB x))∧Below w.heap.size w w':=by
  have HZ:=hid (fun V=>szero_any x.b p.B p.bc V);have HZ0:=hid (fun V=>szero_any (.node 0 0 []) none 0 V);rw[zero_zero]at HZ0;unfold entV;obtain⟨k,s,t,b,f,pl,a,i,v,c,d⟩:=x;obtain⟨T,tc,B,bc,C,cc,D,dc⟩:=p;unfold idleB;simp only at HZ hk⊢;subst hk;rw[if_pos rfl];obtain⟨rz,hz⟩:∃r,zeroT b=r:=⟨_,rfl⟩;rw[hz]at HZ⊢;clear hz;unfold termV at HZ HZ0;obtain⟨tk,htk⟩:∃k,t.k=k:=⟨_,rfl⟩;obtain⟨tn,htn⟩:∃k,t.n=k:=⟨_,rfl⟩;obtain⟨tl,htl⟩:∃k,t.l.length=k:=⟨_,rfl⟩;obtain⟨bk,hbk⟩:∃k,b.k=k:=⟨_,rfl⟩;obtain⟨bn,hbn⟩:∃k,b.n=k:=⟨_,rfl⟩;obtain⟨bl,hbl⟩:∃k,b.l.length=k:=⟨_,rfl⟩;obtain⟨cl,hcl⟩:∃k,c.length=k:=⟨_,rfl⟩;obtain⟨dl,hdl⟩:∃k,d.length=k:=⟨_,rfl⟩;rw[hbk,hbn,hbl]at HZ;rw[htk,htn,htl,hbk,hbn,hbl,hcl,hdl];clear htk htn htl hbk hbn hbl hcl hdl;have HZ0':Hid (∀V,Calls prog 206 #[Value.agg #[.int .i64 0,.int .i64 0,.slice none 0 0]] V fun e w'=>e= .returned (.bool true)∧Below V.heap.size V w'):=HZ0;have HWS:=hid (fun(W V:World) (h1:Below w.heap.size w W) (h2:Below W.heap.size W V)=>(show Below w.heap.size w V from h1.trans (h2.mono h1.size)));clear HZ0;go_enter func186,ntmps186;go_wp2_with fail
  all_goals first
    | (go_ret;refine⟨by simp[*], ?_⟩;repeat (first|exact(Below.refl _ _).alloc lrS1 _|refine Below.setCell ?_ (by simp) _))
    | (refine(HZ.out _).mono ?_
       rintro e w1 ⟨rfl,hb1⟩;go_wp2_with fail;all_goals
         go_ret;refine⟨by simp[*],HWS.out _ _ ?_ hb1⟩;repeat (first|exact(Below.refl _ _).alloc lrS1 _|refine Below.setCell ?_ (by simp) _))
theorem idle_2 (x:ET) (p:EP) (w:World) (hk:x.k=2):
    Calls prog 186 #[entV x p] w fun e w'=>e= .returned (.bool (idleB x))∧Below w.heap.size w w':=by
  have HZ:=hid (fun V=>szero_any x.b p.B p.bc V);have HZ0:=hid (fun V=>szero_any (.node 0 0 []) none 0 V);rw[zero_zero]at HZ0;unfold entV;obtain⟨k,s,t,b,f,pl,a,i,v,c,d⟩:=x;obtain⟨T,tc,B,bc,C,cc,D,dc⟩:=p;unfold idleB;simp only at HZ hk⊢;subst hk;rw[if_neg (by decide),if_pos (Or.inl rfl)];obtain⟨rz,hz⟩:∃r,zeroT b=r:=⟨_,rfl⟩;rw[hz]at HZ⊢;clear hz;unfold termV at HZ HZ0;obtain⟨tk,htk⟩:∃k,t.k=k:=⟨_,rfl⟩;obtain⟨tn,htn⟩:∃k,t.n=k:=⟨_,rfl⟩;obtain⟨tl,htl⟩:∃k,t.l.length=k:=⟨_,rfl⟩;obtain⟨bk,hbk⟩:∃k,b.k=k:=⟨_,rfl⟩;obtain⟨bn,hbn⟩:∃k,b.n=k:=⟨_,rfl⟩;obtain⟨bl,hbl⟩:∃k,b.l.length=k:=⟨_,rfl⟩;obtain⟨cl,hcl⟩:∃k,c.length=k:=⟨_,rfl⟩;obtain⟨dl,hdl⟩:∃k,d.length=k:=⟨_,rfl⟩;rw[hbk,hbn,hbl]at HZ;rw[htk,htn,htl,hbk,hbn,hbl,hcl,hdl];clear htk htn htl hbk hbn hbl hcl hdl;have HZ0':Hid (∀V,Calls prog 206 #[Value.agg #[.int .i64 0,.int .i64 0,.slice none 0 0]] V fun e w'=>e= .returned (.bool true)∧Below V.heap.size V w'):=HZ0;have HWS:=hid (fun(W V:World) (h1:Below w.heap.size w W) (h2:Below W.heap.size W V)=>(show Below w.heap.size w V from h1.trans (h2.mono h1.size)));clear HZ0;go_enter func186,ntmps186;go_wp2_with fail
  all_goals first
    | (go_ret;refine⟨by simp[*], ?_⟩;repeat (first|exact(Below.refl _ _).alloc lrS1 _|refine Below.setCell ?_ (by simp) _))
    | (refine(HZ.out _).mono ?_
       rintro e w1 ⟨rfl,hb1⟩;go_wp2_with fail;all_goals
         go_ret;refine⟨by simp[*],HWS.out _ _ ?_ hb1⟩;repeat (first|exact(Below.refl _ _).alloc lrS1 _|refine Below.setCell ?_ (by simp) _))
theorem idle_3 (x:ET) (p:EP) (w:World) (hk:x.k=3):
    Calls prog 186 #[entV x p] w fun e w'=>e= .returned (.bool (idleB x))∧Below w.heap.size w w':=by
  have HZ:=hid (fun V=>szero_any x.b p.B p.bc V);have HZ0:=hid (fun V=>szero_any (.node 0 0 []) none 0 V);rw[zero_zero]at HZ0;unfold entV;obtain⟨k,s,t,b,f,pl,a,i,v,c,d⟩:=x;obtain⟨T,tc,B,bc,C,cc,D,dc⟩:=p;unfold idleB;simp only at HZ hk⊢;subst hk;rw[if_neg (by decide),if_neg (by decide),if_pos rfl];obtain⟨rz,hz⟩:∃r,zeroT b=r:=⟨_,rfl⟩;rw[hz]at HZ;clear hz;unfold termV at HZ HZ0;obtain⟨tk,htk⟩:∃k,t.k=k:=⟨_,rfl⟩;obtain⟨tn,htn⟩:∃k,t.n=k:=⟨_,rfl⟩;obtain⟨tl,htl⟩:∃k,t.l.length=k:=⟨_,rfl⟩;obtain⟨bk,hbk⟩:∃k,b.k=k:=⟨_,rfl⟩;obtain⟨bn,hbn⟩:∃k,b.n=k:=⟨_,rfl⟩;obtain⟨bl,hbl⟩:∃k,b.l.length=k:=⟨_,rfl⟩;obtain⟨cl,hcl⟩:∃k,c.length=k:=⟨_,rfl⟩;obtain⟨dl,hdl⟩:∃k,d.length=k:=⟨_,rfl⟩;rw[hbk,hbn,hbl]at HZ;rw[htk,htn,htl,hbk,hbn,hbl,hcl,hdl];clear htk htn htl hbk hbn hbl hcl hdl;have HZ0':Hid (∀V,Calls prog 206 #[Value.agg #[.int .i64 0,.int .i64 0,.slice none 0 0]] V fun e w'=>e= .returned (.bool true)∧Below V.heap.size V w'):=HZ0;have HWS:=hid (fun(W V:World) (h1:Below w.heap.size w W) (h2:Below W.heap.size W V)=>(show Below w.heap.size w V from h1.trans (h2.mono h1.size)));clear HZ0;go_enter func186,ntmps186;go_wp2_with fail
  all_goals first
    | (go_ret;refine⟨by simp[*], ?_⟩;repeat (first|exact(Below.refl _ _).alloc lrS1 _|refine Below.setCell ?_ (by simp) _))
    | (refine(HZ0'.out _).mono ?_
       rintro e w1 ⟨rfl,hb1⟩;go_wp2_with fail;all_goals
         go_ret;refine⟨by simp[*],HWS.out _ _ ?_ hb1⟩;repeat (first|exact(Below.refl _ _).alloc lrS1 _|refine Below.setCell ?_ (by simp) _))
theorem idle_4 (x:ET) (p:EP) (w:World) (hk:x.k=4):
    Calls prog 186 #[entV x p] w fun e w'=>e= .returned (.bool (idleB x))∧Below w.heap.size w w':=by
  have HZ:=hid (fun V=>szero_any x.b p.B p.bc V);have HZ0:=hid (fun V=>szero_any (.node 0 0 []) none 0 V);rw[zero_zero]at HZ0;unfold entV;obtain⟨k,s,t,b,f,pl,a,i,v,c,d⟩:=x;obtain⟨T,tc,B,bc,C,cc,D,dc⟩:=p;unfold idleB;simp only at HZ hk⊢;subst hk;rw[if_neg (by decide),if_pos (Or.inr rfl)];obtain⟨rz,hz⟩:∃r,zeroT b=r:=⟨_,rfl⟩;rw[hz]at HZ⊢;clear hz;unfold termV at HZ HZ0;obtain⟨tk,htk⟩:∃k,t.k=k:=⟨_,rfl⟩;obtain⟨tn,htn⟩:∃k,t.n=k:=⟨_,rfl⟩;obtain⟨tl,htl⟩:∃k,t.l.length=k:=⟨_,rfl⟩;obtain⟨bk,hbk⟩:∃k,b.k=k:=⟨_,rfl⟩;obtain⟨bn,hbn⟩:∃k,b.n=k:=⟨_,rfl⟩;obtain⟨bl,hbl⟩:∃k,b.l.length=k:=⟨_,rfl⟩;obtain⟨cl,hcl⟩:∃k,c.length=k:=⟨_,rfl⟩;obtain⟨dl,hdl⟩:∃k,d.length=k:=⟨_,rfl⟩;rw[hbk,hbn,hbl]at HZ;rw[htk,htn,htl,hbk,hbn,hbl,hcl,hdl];clear htk htn htl hbk hbn hbl hcl hdl;have HZ0':Hid (∀V,Calls prog 206 #[Value.agg #[.int .i64 0,.int .i64 0,.slice none 0 0]] V fun e w'=>e= .returned (.bool true)∧Below V.heap.size V w'):=HZ0;have HWS:=hid (fun(W V:World) (h1:Below w.heap.size w W) (h2:Below W.heap.size W V)=>(show Below w.heap.size w V from h1.trans (h2.mono h1.size)));clear HZ0;go_enter func186,ntmps186;go_wp2_with fail
  all_goals first
    | (go_ret;refine⟨by simp[*], ?_⟩;repeat (first|exact(Below.refl _ _).alloc lrS1 _|refine Below.setCell ?_ (by simp) _))
    | (refine(HZ.out _).mono ?_
       rintro e w1 ⟨rfl,hb1⟩;go_wp2_with fail;all_goals
         go_ret;refine⟨by simp[*],HWS.out _ _ ?_ hb1⟩;repeat (first|exact(Below.refl _ _).alloc lrS1 _|refine Below.setCell ?_ (by simp) _))
theorem idle_5 (x:ET) (p:EP) (w:World) (h1:x.k≠1) (h2:x.k≠2) (h3:x.k≠3) (h4:x.k≠4):
    Calls prog 186 #[entV x p] w fun e w'=>e= .returned (.bool (idleB x))∧Below w.heap.size w w':=by
  have HZ:=hid (fun V=>szero_any x.b p.B p.bc V);have HZ0:=hid (fun V=>szero_any (.node 0 0 []) none 0 V);rw[zero_zero]at HZ0;unfold entV;obtain⟨k,s,t,b,f,pl,a,i,v,c,d⟩:=x;obtain⟨T,tc,B,bc,C,cc,D,dc⟩:=p;unfold idleB;simp only at HZ h1 h2 h3 h4⊢;have k1:(k==1)=false:=by simpa using h1
  have k2:(k==2)=false:=by simpa using h2
  have k3:(k==3)=false:=by simpa using h3
  have k4:(k==4)=false:=by simpa using h4
  rw[if_neg h1,if_neg (by omega),if_neg h3];clear h1 h2 h3 h4;obtain⟨rz,hz⟩:∃r,zeroT b=r:=⟨_,rfl⟩;rw[hz]at HZ⊢;clear hz;unfold termV at HZ HZ0;obtain⟨tk,htk⟩:∃k,t.k=k:=⟨_,rfl⟩;obtain⟨tn,htn⟩:∃k,t.n=k:=⟨_,rfl⟩;obtain⟨tl,htl⟩:∃k,t.l.length=k:=⟨_,rfl⟩;obtain⟨bk,hbk⟩:∃k,b.k=k:=⟨_,rfl⟩;obtain⟨bn,hbn⟩:∃k,b.n=k:=⟨_,rfl⟩;obtain⟨bl,hbl⟩:∃k,b.l.length=k:=⟨_,rfl⟩;obtain⟨cl,hcl⟩:∃k,c.length=k:=⟨_,rfl⟩;obtain⟨dl,hdl⟩:∃k,d.length=k:=⟨_,rfl⟩;rw[hbk,hbn,hbl]at HZ;rw[htk,htn,htl,hbk,hbn,hbl,hcl,hdl];clear htk htn htl hbk hbn hbl hcl hdl;have HZ0':Hid (∀V,Calls prog 206 #[Value.agg #[.int .i64 0,.int .i64 0,.slice none 0 0]] V fun e w'=>e= .returned (.bool true)∧Below V.heap.size V w'):=HZ0;have HWS:=hid (fun(W V:World) (h1:Below w.heap.size w W) (h2:Below W.heap.size W V)=>(show Below w.heap.size w V from h1.trans (h2.mono h1.size)));clear HZ0;go_enter func186,ntmps186;go_wp2_with fail
  all_goals first
    | (go_ret;refine⟨by simp[*], ?_⟩;repeat (first|exact(Below.refl _ _).alloc lrS1 _|refine Below.setCell ?_ (by simp) _))
    | (refine(HZ.out _).mono ?_
       rintro e w1 ⟨rfl,hb1⟩;go_wp2_with fail;all_goals
         go_ret;refine⟨by simp[*],HWS.out _ _ ?_ hb1⟩;repeat (first|exact(Below.refl _ _).alloc lrS1 _|refine Below.setCell ?_ (by simp) _))
theorem idle_any (x:ET) (p:EP) (w:World):
  Calls prog 186 #[entV x p] w fun e w'=>e= .returned (.bool (idleB x))∧Below w.heap.size w w':=by
 by_cases h1:x.k=1
 ·exact idle_1 x p w h1
 by_cases h2:x.k=2
 ·exact idle_2 x p w h2
 by_cases h3:x.k=3
 ·exact idle_3 x p w h3
 by_cases h4:x.k=4
 ·exact idle_4 x p w h4
 exact idle_5 x p w h1 h2 h3 h4
end Go.Proofs.YtchllgkgjompgaaGreatDoor
