import Derived.Test.YtinlmmaokphhbaaGreatDoorC2
import Derived.Test.YtinlmmaokphhbaaGreatDoorSgRFam
import Derived.Test.YtinlmmaokphhbaaGreatDoorSgROwn
import Derived.Test.YtinlmmaokphhbaaGreatDoorS7
import Derived.Test.YtinlmmaokphhbaaGreatDoorS6
import Derived.Test.YtinlmmaokphhbaaGreatDoorS3
namespace Go.Proofs.YtinlmmaokphhbaaGreatDoor
open Go.RowKit
set_option linter.unusedVariables false
set_option maxRecDepth 100000
open Lib(hid)
open Go.Proofs.Tryz
open _root_.List renaming setIfInBounds_toArray→Qa,set_cons_zero→Qb,set_cons_succ→Qc
open Go.Ground renaming data→Qd,guard→Qe,chain→Qf
open Go renaming wp_region_held_drew→Qg,wpAnyH_done→Qh,wpAnyH_ready→Qi
open Go.Operand renaming tmp→Qj,func→Qk
open Go.Act renaming put→Ql
open _root_.Nat renaming le_refl→Qm,zero_le→Qn,le_trans→Qo
open Go.AllReadyH renaming cons→Qp,nil→Qq
open _root_.Int renaming toNat_natCast→Qr
open _root_.Bool renaming and_eq_true→Qs
open Go.ByteArray renaming toList_eq→Qt
open Go.Callee renaming value→Qu
theorem Zeq{p:Prop}[Decidable p](h:¬p):decide p=false:=decide_eq_false h
theorem Zef{p:Prop}[Decidable p](h:p):decide p=true:=decide_eq_true h
theorem Zb8{a b c:World}(x:Hid (Below a.heap.size a b))(y:Below b.heap.size b c):Below a.heap.size a c:=x.out.trans (y.mono x.out.size)
theorem Zyq {l:List ET}{n:Nat}(h:Zv (Zju l) n=true):Zj3 l n:=by
 intro j hj hjn hk;have h1:=Zay.1 h j hjn;rw[Zk2 hj]at h1;unfold Zhn at h1;rw[if_pos hk]at h1;simp only[Qs]at h1;have h2:=h1.2.2;unfold Zlq at h2;simp only[Qs,decide_eq_true_eq]at h2;exact⟨h2.1,h2.2.1,h2.2.2.1⟩
theorem Zzv {l:List ET}{i:Nat}{x:ET}(h:Zht l i x=true):∃j:Nat,x.f=(j:Int)∧j<i∧∃hj:j<l.length,l[j].k=1∧x.a=l[j].a:=by
 unfold Zht at h;simp only[Qs,decide_eq_true_eq]at h;obtain⟨hb,hlt,_,_,_,_,_,hm⟩:=h;obtain⟨j,hf,hj,hjk⟩:=Zat hb;rw[Zak hf hj]at hm;simp only[Qs,decide_eq_true_eq]at hm;exact⟨j,hf,by omega,hj,hjk,hm.1⟩
set_option maxHeartbeats 16000000 in
theorem Z2o (l:List ET)(A:Option Addr)(cap i:Nat)(hi:i<l.length)(lo hh:Nat)(w:World)(hl:l.length≤600)(hn:Zr w lo hh A l)(hhh:hh≤w.heap.size)(hS:Zi w)(hfo:Zj3 l i):
  Calls prog 21 #[.slice A l.length cap,.int .i64 i] w fun e w'=>e= .returned (.bool (Zhn l i l[i]))∧Below w.heap.size w w':=by
 obtain⟨b,o,p,hA,hb1,hb2,hx,hent⟩:=hn i hi;have HN:=hid hn;have HFO:=hid hfo;have CF:=hid (fun V (hV:Below w.heap.size w V)=>Z2p l A cap i hi lo hh V hl (hn.kept hV hhh) (by have:=hV.size;omega));have CO:=hid (fun V (hV:Below w.heap.size w V)=>Z2r l A cap i hi lo hh V hl (hn.kept hV hhh) (by have:=hV.size;omega));have HOF:=hid (fun(h:Zht l i l[i]=true)=>Zzv h);have hcl:=Qo hent.lc hent.mc;have hdl:=Qo hent.ld hent.md;have hll6:(l.length:Int)≤600:=by omega
 obtain⟨z,hz⟩:∃z,Zhn l i l[i]=z:=⟨_,rfl⟩;rw[hz];unfold Zhn at hz;obtain⟨rf,hrf⟩:∃r,Zlq l i l[i]=r:=⟨_,rfl⟩;obtain⟨ro,hro⟩:∃r,Zht l i l[i]=r:=⟨_,rfl⟩;rw[hrf,hro]at hz;rw[hrf]at CF;rw[hro]at CO HOF;clear hrf hro;obtain⟨x,hxx⟩:∃x,l[i]=x:=⟨_,rfl⟩;rw[hxx]at hx hent hz hcl hdl HOF;obtain⟨x0,x1,x2,x3,x4,x5,x6,x7,x8,x9,x10,x11,x12,x13,x14⟩:=hx;subst hA;have hbw:b<w.heap.size:=by omega
 have hi0':(i:Int)<(l.length:Int):=by omega
 have hi1:(i:Int)<600:=by omega
 have HZ:=hid hz;have HB1:=hid (show Below w.heap.size w (w.alloc (.cells (Z1 x p) 36))from(Below.refl _ _).alloc (Qm _) _);have KB:=hid (fun V (hV:Below (w.alloc (.cells (Z1 x p) 36)).heap.size (w.alloc (.cells (Z1 x p) 36)) V)=>(show Zlb V w.heap.size x p from((Bk.new w 36 (Z1 x p)).below hV (by simp)).boxE));have HENT:=hid (fun V (hV:Below w.heap.size w V)=>hent.kept hV hhh);have HSS:=hid (fun V (hV:Below w.heap.size w V)=>hS.kept hV);have hs9:=hent.hs;have CN:=hid (fun(V:World)=>Zpc x.s V (by unfold maxLen at hs9;omega));have CL:=hid (fun V (hV:Below w.heap.size w V)=>Zol x.t (i:Int) lo hh p.T p.tc V (hent.ht.kept hV hhh) (by have:=hV.size;omega) (hS.kept hV));have CB:=hid (fun V (hV:Below w.heap.size w V)=>Zol x.b (i:Int) lo hh p.B p.bc V (hent.hb.kept hV hhh) (by have:=hV.size;omega) (hS.kept hV));have CTE:Hid (∀(hs:Zb x.t=true) (V:World) (hV:Below w.heap.size w V),Calls prog 32 #[Zc x.t p.T p.tc] V (Zbj (Jq x.t) V)):=hid (fun hs V hV=>(Zty x.t lo hh p.T p.tc V (hent.ht.kept hV hhh) (by have:=hV.size;omega) hs).mono fun e w' ⟨a,c,ps,he,hr,hp,hb⟩=>Zrq he hr hp hb);have CBE:=hid (fun(hs:Zb x.t=true)(V:World)(hV:Below w.heap.size w V)=>Zr0 x.t lo hh p.T p.tc V (hent.ht.kept hV hhh) (by have:=hV.size;omega) (Zh.1 hs).2.2);have HCS:=hid (fun(q:J4 x.t (i:Int)=true)=>Zdq q);have HTF:=hid (fun(hs:Zb x.t=true)=>Zcy hs);have HPD:=hid (fun(hs:Zb x.t=true)=>Qo (Zjc x.t) (Zh.1 hs).2.1);obtain⟨bn,hbn⟩:∃r,nmB x.s=r:=⟨_,rfl⟩;obtain⟨bl,hbl⟩:∃r,J4 x.t (i:Int)=r:=⟨_,rfl⟩;obtain⟨bb,hbb⟩:∃r,J4 x.b (i:Int)=r:=⟨_,rfl⟩;rw[hbn]at CN;rw[hbl]at CL HCS;rw[hbb]at CB;have HZ1:Hid ((bn && (bl && (if x.k=1 then rf else if x.k=3 then(bb && (decide (x.f=0) && (decide (x.p=0) && (decide (x.a=0) && (decide (x.i=0) && (decide (x.v=0) && (decide (x.c.length=0) && decide (x.d.length=0))))))))else if x.k=2 then ro && Zll l x else if x.k=4 then ro && Zm0 l x else false)))=z):=hid (by
  have:=HZ.out;unfold Zwn at this;rw[hbn,hbl,hbb]at this;exact this)
 unfold maxLen at hcl hdl;have hcl':(x.c.length:Int)≤9223372036854775807:=by omega
 have hdl':(x.d.length:Int)≤9223372036854775807:=by omega
 unfold Z1 at HB1 KB;unfold Zc at CL CB CTE CBE;clear hz hxx hent hn hS hl hb1 hb2 hs9 hbn hbl hbb hfo HZ hcl hdl;go_enter func21,ntmps21;go_wp2_with fail;refine(CN.out _).mono ?_;rintro e w1 ⟨rfl,hb1⟩;have HB2:=hid (HB1.out.trans (hb1.mono (by simp)));have HK2:=hid hb1;have hs1:w.heap.size<w1.heap.size:=by have:=hb1.size;simp at this;omega
 obtain⟨z0,z1,z2,z3,z4,z5,z6,z7,z8,z9,z10,z11,z12,z13,z14⟩:=KB.out _ hb1;clear hb1 x0 x1 x2 x3 x4 x5 x6 x7 x8 x9 x10 x11 x12 x13 x14;cases bn with
 | false=>
  obtain rfl:z=false:=by rw[←HZ1.out];rfl
  go_wp2_with fail;go_ret;exact⟨rfl,HB2.out⟩
 | true=>
 go_wp2_with fail;refine(CL.out _ HB2.out).mono ?_;rintro e w2 ⟨rfl,hb2⟩;have HB3:=hid (Zb8 HB2 hb2);have HK3:=hid (Zb8 HK2 hb2);have hs2:w.heap.size<w2.heap.size:=by have:=hb2.size;omega
 clear hb2 z0 z1 z2 z3 z4 z5 z6 z7 z8 z9 z10 z11 z12 z13 z14 hs1;obtain⟨z0,z1,z2,z3,z4,z5,z6,z7,z8,z9,z10,z11,z12,z13,z14⟩:=KB.out _ HK3.out;cases bl with
 | false=>
  obtain rfl:z=false:=by rw[←HZ1.out];rfl
  go_wp2_with fail;go_ret;exact⟨rfl,HB3.out⟩
 | true=>
 have hsh:=HCS.out rfl;have CT2:=hid (CTE.out hsh);have CBE2:=hid (CBE.out hsh);have HTF2:=hid (HTF.out hsh);have hpd:=HPD.out hsh;obtain⟨ts,hts⟩:∃ts,Jq x.t=ts:=⟨_,rfl⟩;have HTL:=hid (show ts.length=Zz x.t from by rw[←hts];exact HTF2.out.1);rw[hts]at CT2;have hpl:(ts.length:Int)≤128:=by have:=HTL.out;omega
 have HTS:=hid hts;unfold Zbj at CT2;clear hsh HCS CTE CBE HTF HPD hpd hts;go_wp2_with fail;refine(CT2.out _ HB3.out).mono ?_;rintro e w3 ⟨A3,c3,rfl, -,hb3⟩;have HB4:=hid (Zb8 HB3 hb3);have HK4:=hid (Zb8 HK3 hb3);have hs3:w.heap.size<w3.heap.size:=by have:=hb3.size;omega
 clear hb3 z0 z1 z2 z3 z4 z5 z6 z7 z8 z9 z10 z11 z12 z13 z14 hs2;obtain⟨z0,z1,z2,z3,z4,z5,z6,z7,z8,z9,z10,z11,z12,z13,z14⟩:=KB.out _ HK4.out;by_cases k1:x.k=1
 ·have t1:(x.k==1)=true:=by simpa using k1
  obtain rfl:rf=z:=by rw[←HZ1.out,if_pos k1];rfl
  clear k1 CL CB CN CO;go_wp2_with fail;refine(CF.out _ HB4.out).mono ?_;rintro e w4 ⟨rfl,hb4⟩;go_wp2_with fail;go_ret;exact⟨rfl,Zb8 HB4 hb4⟩
 have t1:(x.k==1)=false:=by simpa using k1
 by_cases k3:x.k=3
 ·have t3:(x.k==3)=true:=by simpa using k3
  have HZ2:Hid ((bb && (decide (x.f=0) && (decide (x.p=0) && (decide (x.a=0) && (decide (x.i=0) && (decide (x.v=0) && (decide (x.c.length=0) && decide (x.d.length=0))))))))=z):=hid (by have:=HZ1.out;rw[if_neg k1,if_pos k3]at this;exact this);have HZ3:=HZ2;clear k1 k3 CL CF CN CO HZ2 HZ1;go_wp2_with fail;refine(CB.out _ HB4.out).mono ?_;rintro e w4 ⟨rfl,hb4⟩;have HB5:=hid (Zb8 HB4 hb4);have HK5:=hid (Zb8 HK4 hb4);have hs4:w.heap.size<w4.heap.size:=by have:=hb4.size;omega
  clear hb4 z0 z1 z2 z3 z4 z5 z6 z7 z8 z9 z10 z11 z12 z13 z14 hs3;obtain⟨z0,z1,z2,z3,z4,z5,z6,z7,z8,z9,z10,z11,z12,z13,z14⟩:=KB.out _ HK5.out;have HZ4:=HZ3;cases bb with
  | false=>
   obtain rfl:z=false:=by rw[←HZ3.out];rfl
   go_wp2_with fail;go_ret;exact⟨rfl,HB5.out⟩
  | true=>
  by_cases ef:x.f=0
  case neg=>
   have qf:(x.f==0)=false:=by rw[beq_eq_false_iff_ne];omega
   obtain rfl:z=false:=by rw[←HZ3.out,Zeq ef];simp
   clear ef;go_wp2_with fail;go_ret;exact⟨rfl,HB5.out⟩
  have qf:(x.f==0)=true:=by rw[beq_iff_eq];omega
  by_cases ep:x.p=0
  case neg=>
   have qp:(x.p==0)=false:=by rw[beq_eq_false_iff_ne];omega
   obtain rfl:z=false:=by rw[←HZ3.out,Zeq ep];simp
   clear ef ep;go_wp2_with fail;go_ret;exact⟨rfl,HB5.out⟩
  have qp:(x.p==0)=true:=by rw[beq_iff_eq];omega
  by_cases ea:x.a=0
  case neg=>
   have qa:(x.a==0)=false:=by rw[beq_eq_false_iff_ne];omega
   obtain rfl:z=false:=by rw[←HZ3.out,Zeq ea];simp
   clear ef ep ea;go_wp2_with fail;go_ret;exact⟨rfl,HB5.out⟩
  have qa:(x.a==0)=true:=by rw[beq_iff_eq];omega
  by_cases ei:x.i=0
  case neg=>
   have qi:(x.i==0)=false:=by rw[beq_eq_false_iff_ne];omega
   obtain rfl:z=false:=by rw[←HZ3.out,Zeq ei];simp
   clear ef ep ea ei;go_wp2_with fail;go_ret;exact⟨rfl,HB5.out⟩
  have qi:(x.i==0)=true:=by rw[beq_iff_eq];omega
  by_cases ev:x.v=0
  case neg=>
   have qv:(x.v==0)=false:=by rw[beq_eq_false_iff_ne];omega
   obtain rfl:z=false:=by rw[←HZ3.out,Zeq ev];simp
   clear ef ep ea ei ev;go_wp2_with fail;go_ret;exact⟨rfl,HB5.out⟩
  have qv:(x.v==0)=true:=by rw[beq_iff_eq];omega
  by_cases ec:x.c.length=0
  case neg=>
   have qc:((x.c.length:Int)==0)=false:=by rw[beq_eq_false_iff_ne];omega
   obtain rfl:z=false:=by rw[←HZ3.out,Zeq ec];simp
   clear ef ep ea ei ev ec;go_wp2_with fail;go_ret;exact⟨rfl,HB5.out⟩
  have qc:((x.c.length:Int)==0)=true:=by rw[beq_iff_eq];omega
  by_cases ed:x.d.length=0
  case neg=>
   have qd:((x.d.length:Int)==0)=false:=by rw[beq_eq_false_iff_ne];omega
   obtain rfl:z=false:=by rw[←HZ3.out,Zeq ed];simp
   clear ef ep ea ei ev ec ed;go_wp2_with fail;go_ret;exact⟨rfl,HB5.out⟩
  have qd:((x.d.length:Int)==0)=true:=by rw[beq_iff_eq];omega
  obtain rfl:z=true:=by rw[←HZ3.out,Zef ef,Zef ep,Zef ea,Zef ei,Zef ev,Zef ec,Zef ed];rfl
  clear ef ep ea ei ev ec ed HZ3 HZ4;go_wp2_with fail;go_ret;exact⟨rfl,HB5.out⟩
 have t3:(x.k==3)=false:=by simpa using k3
 by_cases k24:x.k=2∨x.k=4
 case neg=>
  have t2:(x.k !=2)=true:=by rw[bne_iff_ne];omega
  have t4:(x.k !=4)=true:=by rw[bne_iff_ne];omega
  obtain rfl:z=false:=by rw[←HZ1.out,if_neg k1,if_neg k3,if_neg (by omega),if_neg (by omega)];rfl
  clear k24 k1 k3 CL CB CF CN CO;go_wp2_with fail;go_ret;exact⟨rfl,HB4.out⟩
 have HZ2:Hid ((ro && (if x.k=2 then Zll l x else Zm0 l x))=z):=hid (by
  have:=HZ1.out;rw[if_neg k1,if_neg k3]at this;rcases k24 with h|h
  ·rw[if_pos h]at this;rw[if_pos h];exact this
  ·rw[if_neg (show ¬ x.k=2 by omega),if_pos h]at this;rw[if_neg (show ¬ x.k=2 by omega)];exact this)
 clear CL CB CF CN k1 k3 HZ1;have HK24:=hid k24;cases ro with
 | false=>
  obtain rfl:z=false:=by rw[←HZ2.out];rfl
  rcases k24 with h|h
  ·have t2:(x.k !=2)=false:=by rw[bne_eq_false_iff_eq];exact h
   clear h;go_wp2_with fail;refine(CO.out _ HB4.out).mono ?_;rintro e w4 ⟨rfl,hb4⟩;go_wp2_with fail;go_ret;exact⟨rfl,Zb8 HB4 hb4⟩
  ·have t2:(x.k !=2)=true:=by rw[bne_iff_ne];omega
   have t4:(x.k !=4)=false:=by rw[bne_eq_false_iff_eq];exact h
   clear h;go_wp2_with fail;refine(CO.out _ HB4.out).mono ?_;rintro e w4 ⟨rfl,hb4⟩;go_wp2_with fail;go_ret;exact⟨rfl,Zb8 HB4 hb4⟩
 | true=>
 obtain⟨j,hf,hji,hj,hjk,hxa⟩:=HOF.out (by first|rfl|trivial);have hfo:=HFO.out j hj hji hjk;obtain⟨ps,hps⟩:∃n:Nat,x.a=(n:Int):=⟨x.a.toNat,by omega⟩;obtain⟨b',o',q,hA', -,hbh,hy,henty⟩:=HN.out j hj;obtain⟨rfl,rfl⟩:b=b'∧o=o':=by
  injection hA' with r;injection r with r1 r2;exact⟨r1,r2⟩
 obtain⟨mo,hmo⟩:∃n:Nat,l[j].i=(n:Int):=⟨l[j].i.toNat,by omega⟩;have HCR:Hid (Zll l x=(decide (ts.length≤24) && (decide (ps≤ts.length) && Zbu (Zaj x.t) (j:Int) ps mo ts.length))):=hid (by
  unfold Zll;rw[Zak hf hj,←HTL.out,hps,hf];dsimp only
  rw[hmo,Qr,Qr];have e:decide (ps≤ts.length)=decide ((ps:Int)≤(ts.length:Int)):=by congr 1;apply propext;omega
  rw[e])
 have HFR:Hid (Zm0 l x=(decide (ps+1≤24) && (decide (ps+1≤ts.length) && Zbu (Zgm x) (j:Int) ps 0 ps))):=hid (by
  unfold Zm0;rw[←HTL.out,hps,hf,Qr];have e:decide (ps+1≤ts.length)=decide ((ps:Int)+1≤(ts.length:Int)):=by congr 1;apply propext;omega
  have e2:decide (ps+1≤24)=decide ((ps:Int)+1≤24):=by congr 1;apply propext;omega
  rw[e,e2])
 have hps24:(ps:Int)≤24:=by omega
 have hmo24:(mo:Int)≤24:=by omega
 have HFT:=hid (fun(h:ps<ts.length)=>(show ts[ps]=Zgm x∧Zb (Zgm x)=true from by
  have e:=HTS.out;subst e;unfold Zgm;rw[hps,Qr,List.getElem?_eq_getElem h];exact⟨rfl,HTF2.out.2.2.2 _ (List.getElem_mem h)⟩))
 have HUS:=hid HTF2.out.2.2.1;have HF:=hid hf;have HPS:=hid hps;have HYC:=hid (fun V (hV:Below w.heap.size w V)=>(show V.cell? ⟨b,o+j*15+11,none⟩=some (.int .i64 mo)from by rw[(hy.kept hV hbw).c11,hmo]));have hj0:(j:Int)<(l.length:Int):=by omega
 have hj1:(j:Int)<600:=by omega
 clear henty hA' hy hfo hjk hxa HOF HFO HTF2 HN k24 hf hps hmo HTS;by_cases h:x.k=2
 ·have HZ3:Hid (Zll l x=z):=hid (by have:=HZ2.out;rw[if_pos h]at this;exact this);rw[HCR.out]at HZ3;have t2:(x.k !=2)=false:=by rw[bne_eq_false_iff_eq];exact h
  have t22:(x.k==2)=true:=by rw[beq_iff_eq];exact h
  clear h;go_wp2_with fail;refine(CO.out _ HB4.out).mono ?_;rintro e X ⟨rfl,hb4⟩;have HBX:=hid (Zb8 HB4 hb4);have HKX:=hid (Zb8 HK4 hb4);have HXS:=hid (show w.heap.size<X.heap.size by have:=hb4.size;omega);clear hb4 z0 z1 z2 z3 z4 z5 z6 z7 z8 z9 z10 z11 z12 z13 z14 hs3;obtain⟨z0,z1,z2,z3,z4,z5,z6,z7,z8,z9,z10,z11,z12,z13,z14⟩:=KB.out _ HKX.out;have hbk:=hid ((Below.refl X.heap.size X).drew);have HK:=hid (fun V (hV:Below X.heap.size X V)=>(show V.cell? ⟨w.heap.size,2,none⟩=some (.int .i64 x.t.k)∧V.cell? ⟨w.heap.size,3,none⟩=some (.int .i64 x.t.n)∧V.cell? ⟨w.heap.size,4,none⟩=some (.slice p.T x.t.l.length p.tc)∧V.cell? ⟨w.heap.size,8,none⟩=some (.int .i64 j)∧V.cell? ⟨w.heap.size,10,none⟩=some (.int .i64 ps)∧V.cell? ⟨b,o+j*15+11,none⟩=some (.int .i64 mo)from by
   have k:=KB.out V (Zb8 HKX hV);exact⟨k.c2,k.c3,k.c4,by rw[k.c8,HF.out],by rw[k.c10,HPS.out],HYC.out V (Zb8 HBX hV)⟩))
  go_wp2_with fail;clear z0 z1 z2 z3 z4 z5 z6 z7 z8 z9 z10 z11 z12 z13 z14;have CBN:=hid (fun V (hV:Below X.heap.size X V)=>CBE2.out V (Zb8 HBX hV));unfold Zx9 at CBN;obtain⟨u,hu⟩:∃u,Zaj x.t=u:=⟨_,rfl⟩;rw[hu]at CBN HZ3 HUS;unfold Zc at CBN;have CAP:Hid (∀(V:World) (T7:Option Addr) (c7:Nat),Za V lo hh u T7 c7→hh≤V.heap.size→ts.length≤24→Calls prog 35 #[.agg #[.int .i64 u.k,.int .i64 u.n,.slice T7 u.l.length c7],.int .i64 j,.int .i64 ps,.int .i64 mo,.int .i64 ts.length] V fun e w'=>e= .returned (.bool (Zbu u (j:Int) ps mo ts.length))∧Below V.heap.size V w'):=hid (fun V T7 c7 h1 h2 h3=>Zq3 u (j:Int) ps mo ts.length lo hh T7 c7 V h1 h2 HUS.out (by omega) (by omega) (by omega));obtain⟨ra,hra⟩:∃r,Zbu u (j:Int) ps mo ts.length=r:=⟨_,rfl⟩;rw[hra]at CAP HZ3;clear hu hra CBE2 HCR HFR HFT;by_cases e1:ts.length≤24
  case neg=>
   have q1:decide ((ts.length:Int)≤24)=false:=Zeq (by omega);have q1':decide (ts.length≤24)=false:=Zeq e1;obtain rfl:z=false:=by rw[←HZ3.out,Zeq e1];rfl
   clear e1;refine Qg (S:=fun w'=>w'.cell? ⟨w.heap.size,2,none⟩=some (.int .i64 x.t.k)∧w'.cell? ⟨w.heap.size,3,none⟩=some (.int .i64 x.t.n)∧w'.cell? ⟨w.heap.size,4,none⟩=some (.slice p.T x.t.l.length p.tc)∧w'.cell? ⟨w.heap.size,8,none⟩=some (.int .i64 j)∧w'.cell? ⟨w.heap.size,10,none⟩=some (.int .i64 ps)∧w'.cell? ⟨b,o+j*15+11,none⟩=some (.int .i64 mo)) (by kernel_rfl) ?_ (fun hHeld=> ?_)
   ·exact HK.out _ hbk.out
   refine tkp [0,1,2] ?_;iterate 3 (refine tkr (HK.out _ hbk.out) ?_;simp only[Ql,Qa,Qb,Qc])
   refine tke ?_;refine tko (by kernel_rfl) (fun _ _ _ _ h=>h) (HK.out _ hbk.out) [(3,96),(4,97),(5,98),(6,99)] 4 rfl _ _ (by kernel_rfl) ?_;simp only[Js,Jt,Ql,Qa,Qb,Qc];refine tkp [7,8] ?_;iterate 2 (refine tkr (HK.out _ hbk.out) ?_;simp only[Ql,Qa,Qb,Qc])
   refine tke ?_;refine tko (by kernel_rfl) (fun _ _ _ _ h=>h) (HK.out _ hbk.out) [(9,102),(10,103),(11,104),(12,105),(13,106),(14,107),(15,108),(16,109),(17,110),(18,111),(19,112),(20,113),(21,114),(22,115),(23,116)] 15 rfl _ _ (by kernel_rfl) ?_;simp only[Js,Jt,Ql,Qa,Qb,Qc];refine tkp [24,25] ?_;iterate 2 (refine tkr (HK.out _ hbk.out) ?_;simp only[Ql,Qa,Qb,Qc])
   refine tke ?_;refine Qh (by kernel_rfl) ?_ _;go_wp2_with fail;go_ret;exact⟨rfl,Zb8 HBX hbk.out⟩
  have q1:decide ((ts.length:Int)≤24)=true:=Zef (by omega);have q1':decide (ts.length≤24)=true:=Zef e1;have HE1:=hid e1;by_cases e2:ps≤ts.length
  case neg=>
   have q2:decide ((ps:Int)≤(ts.length:Int))=false:=Zeq (by omega);have q2':decide (ps≤ts.length)=false:=Zeq e2;have q2'':decide ((ts.length:Int)≥(ps:Int))=false:=Zeq (by omega);obtain rfl:z=false:=by rw[←HZ3.out,Zeq e2];simp
   clear e1 e2;refine Qg (S:=fun w'=>w'.cell? ⟨w.heap.size,2,none⟩=some (.int .i64 x.t.k)∧w'.cell? ⟨w.heap.size,3,none⟩=some (.int .i64 x.t.n)∧w'.cell? ⟨w.heap.size,4,none⟩=some (.slice p.T x.t.l.length p.tc)∧w'.cell? ⟨w.heap.size,8,none⟩=some (.int .i64 j)∧w'.cell? ⟨w.heap.size,10,none⟩=some (.int .i64 ps)∧w'.cell? ⟨b,o+j*15+11,none⟩=some (.int .i64 mo)) (by kernel_rfl) ?_ (fun hHeld=> ?_)
   ·exact HK.out _ hbk.out
   refine tkp [0,1,2,3,4,5,6,7,8] ?_;iterate 9 (refine tkr (HK.out _ hbk.out) ?_;simp only[Ql,Qa,Qb,Qc])
   refine tke ?_;refine tko (by kernel_rfl) (fun _ _ _ _ h=>h) (HK.out _ hbk.out) [(9,102),(10,103),(11,104),(12,105),(13,106),(14,107),(15,108),(16,109),(17,110),(18,111),(19,112),(20,113),(21,114),(22,115),(23,116)] 15 rfl _ _ (by kernel_rfl) ?_;simp only[Js,Jt,Ql,Qa,Qb,Qc];refine tkp [24,25] ?_;iterate 2 (refine tkr (HK.out _ hbk.out) ?_;simp only[Ql,Qa,Qb,Qc])
   refine tke ?_;refine Qh (by kernel_rfl) ?_ _;go_wp2_with fail;go_ret;exact⟨rfl,Zb8 HBX hbk.out⟩
  have q2:decide ((ps:Int)≤(ts.length:Int))=true:=Zef (by omega);have q2':decide (ps≤ts.length)=true:=Zef e2;have q2'':decide ((ts.length:Int)≥(ps:Int))=true:=Zef (by omega);obtain rfl:ra=z:=by rw[←HZ3.out,Zef e1,Zef e2];rfl
  clear e1 e2 HZ3;refine Qg (S:=fun w'=>w'.cell? ⟨w.heap.size,2,none⟩=some (.int .i64 x.t.k)∧w'.cell? ⟨w.heap.size,3,none⟩=some (.int .i64 x.t.n)∧w'.cell? ⟨w.heap.size,4,none⟩=some (.slice p.T x.t.l.length p.tc)∧w'.cell? ⟨w.heap.size,8,none⟩=some (.int .i64 j)∧w'.cell? ⟨w.heap.size,10,none⟩=some (.int .i64 ps)∧w'.cell? ⟨b,o+j*15+11,none⟩=some (.int .i64 mo)) (by kernel_rfl) ?_ (fun hHeld=> ?_)
  ·exact HK.out _ hbk.out
  refine tkp [0,1,2,3,4,5,6,7,8,9,10,12,13,14,15,16,17,18,19,20,21,22] ?_;iterate 22 (refine tkr (HK.out _ hbk.out) ?_;simp only[Ql,Qa,Qb,Qc])
  refine tke ?_;refine Qi (rs:=[11]) (by kernel_rfl) (by simp) ?_;refine Qp (o:=({dst:=some 104,op:=Op.call {callee:=Qu (Qk 36),args:= #[Qj 103],argTypes:= #[27]},type:=27,pos:= "ref.go:116",after:= #[{on:=10,ground:=Qd},{on:=8,ground:=Qf},{on:=8,ground:=Qe}],guard:=some (8,true)}:Oper)) rfl (fun K hK=> ?_) Qq;go_simp;refine(CBN.out _ hbk.out).mono ?_;rintro e w5 ⟨T7,c7,rfl,hu7,hbn⟩;have hbk:=hid (Zb8 hbk hbn);have HU7:=hid hu7;have HH7:=hid (show hh≤w5.heap.size by have:=HBX.out.size;have:=hbk.out.size;omega);clear hbn hu7;try (dsimp only)
  try go_wp2_with fail
  refine hK.out _ _ (HK.out _ hbk.out) (fun hHeld=> ?_);clear hK K;try simp only[Ql,Qa,Qb,Qc]
  refine Qi (rs:=[23]) (by kernel_rfl) (by simp) ?_;refine Qp (o:=({dst:=some 116,op:=Op.call {callee:=Qu (Qk 35),args:= #[Qj 104,Qj 106,Qj 108,Qj 114,Qj 115],argTypes:= #[27,3,3,3,3]},type:=4,pos:= "ref.go:116",after:= #[{on:=11,ground:=Qd},{on:=13,ground:=Qd},{on:=15,ground:=Qd},{on:=21,ground:=Qd},{on:=22,ground:=Qd},{on:=11,ground:=Qf},{on:=8,ground:=Qe}],guard:=some (8,true)}:Oper)) rfl (fun K hK=> ?_) Qq;go_simp;refine(CAP.out _ T7 c7 HU7.out HH7.out HE1.out).mono ?_;rintro e w6 ⟨rfl,hbn⟩;have hbk:=hid (Zb8 hbk hbn);clear hbn;try (dsimp only)
  try go_wp2_with fail
  refine hK.out _ _ (HK.out _ hbk.out) (fun hHeld=> ?_);clear hK K;try simp only[Ql,Qa,Qb,Qc]
  refine tkp [24,25] ?_;iterate 2 (refine tkr (HK.out _ hbk.out) ?_;simp only[Ql,Qa,Qb,Qc])
  refine tke ?_;refine Qh (by kernel_rfl) ?_ _;go_wp2_with fail;go_ret;exact⟨rfl,Zb8 HBX hbk.out⟩
 ·have HZ3:Hid (Zm0 l x=z):=hid (by have:=HZ2.out;rw[if_neg h]at this;exact this);rw[HFR.out]at HZ3;have t2:(x.k !=2)=true:=by rw[bne_iff_ne];exact h
  have t4:(x.k !=4)=false:=by rw[bne_eq_false_iff_eq];have:=HK24.out;omega
  have t22:(x.k==2)=false:=by rw[beq_eq_false_iff_ne];exact h
  clear h;go_wp2_with fail;refine(CO.out _ HB4.out).mono ?_;rintro e X ⟨rfl,hb4⟩;have HBX:=hid (Zb8 HB4 hb4);have HKX:=hid (Zb8 HK4 hb4);have HXS:=hid (show w.heap.size<X.heap.size by have:=hb4.size;omega);clear hb4 z0 z1 z2 z3 z4 z5 z6 z7 z8 z9 z10 z11 z12 z13 z14 hs3;obtain⟨z0,z1,z2,z3,z4,z5,z6,z7,z8,z9,z10,z11,z12,z13,z14⟩:=KB.out _ HKX.out;have hbk:=hid ((Below.refl X.heap.size X).drew);have HK:=hid (fun V (hV:Below X.heap.size X V)=>(show V.cell? ⟨w.heap.size,2,none⟩=some (.int .i64 x.t.k)∧V.cell? ⟨w.heap.size,3,none⟩=some (.int .i64 x.t.n)∧V.cell? ⟨w.heap.size,4,none⟩=some (.slice p.T x.t.l.length p.tc)∧V.cell? ⟨w.heap.size,8,none⟩=some (.int .i64 j)∧V.cell? ⟨w.heap.size,10,none⟩=some (.int .i64 ps)∧V.cell? ⟨b,o+j*15+11,none⟩=some (.int .i64 mo)from by
   have k:=KB.out V (Zb8 HKX hV);exact⟨k.c2,k.c3,k.c4,by rw[k.c8,HF.out],by rw[k.c10,HPS.out],HYC.out V (Zb8 HBX hV)⟩))
  go_wp2_with fail;clear z0 z1 z2 z3 z4 z5 z6 z7 z8 z9 z10 z11 z12 z13 z14;have CTN:=hid (fun V (hV:Below X.heap.size X V)=>CT2.out V (Zb8 HBX hV));have wr1:IntKind.i64.wrap ((ps:Int)+1)=(ps:Int)+1:=IntWalk.i64_in _ (by omega);clear CT2 CBE2 HCR HFR;by_cases e1:ps+1≤24
  case neg=>
   have q1:decide ((ps:Int)+1≤24)=false:=Zeq (by omega);obtain rfl:z=false:=by rw[←HZ3.out,Zeq e1];rfl
   clear e1;refine Qg (S:=fun w'=>w'.cell? ⟨w.heap.size,2,none⟩=some (.int .i64 x.t.k)∧w'.cell? ⟨w.heap.size,3,none⟩=some (.int .i64 x.t.n)∧w'.cell? ⟨w.heap.size,4,none⟩=some (.slice p.T x.t.l.length p.tc)∧w'.cell? ⟨w.heap.size,8,none⟩=some (.int .i64 j)∧w'.cell? ⟨w.heap.size,10,none⟩=some (.int .i64 ps)∧w'.cell? ⟨b,o+j*15+11,none⟩=some (.int .i64 mo)) (by kernel_rfl) ?_ (fun hHeld=> ?_)
   ·exact HK.out _ hbk.out
   refine tkp [0,1,2,3,4] ?_;iterate 5 (refine tkr (HK.out _ hbk.out) ?_;simp only[Ql,Qa,Qb,Qc])
   refine tke ?_;refine tko (by kernel_rfl) (fun _ _ _ _ h=>h) (HK.out _ hbk.out) [(5,123),(6,124),(7,125),(8,126),(9,127)] 5 rfl _ _ (by kernel_rfl) ?_;simp only[Js,Jt,Ql,Qa,Qb,Qc];refine tkp [10,11] ?_;iterate 2 (refine tkr (HK.out _ hbk.out) ?_;simp only[Ql,Qa,Qb,Qc])
   refine tke ?_;refine tko (by kernel_rfl) (fun _ _ _ _ h=>h) (HK.out _ hbk.out) [(12,130),(13,131),(14,132),(15,133),(16,134),(17,135),(18,136),(19,137),(20,138),(21,139),(22,140),(23,141),(24,142),(25,143)] 14 rfl _ _ (by kernel_rfl) ?_;simp only[Js,Jt,Ql,Qa,Qb,Qc];refine tkp [26,27] ?_;iterate 2 (refine tkr (HK.out _ hbk.out) ?_;simp only[Ql,Qa,Qb,Qc])
   refine tke ?_;refine Qh (by kernel_rfl) ?_ _;go_wp2_with fail;go_ret;exact⟨rfl,Zb8 HBX hbk.out⟩
  have q1:decide ((ps:Int)+1≤24)=true:=Zef (by omega);by_cases e2:ps+1≤ts.length
  case neg=>
   have q2:decide ((ps:Int)+1≤(ts.length:Int))=false:=Zeq (by omega);have q2':decide ((ts.length:Int)≥(ps:Int)+1)=false:=Zeq (by omega);obtain rfl:z=false:=by rw[←HZ3.out,Zeq e2];simp
   clear e1 e2;refine Qg (S:=fun w'=>w'.cell? ⟨w.heap.size,2,none⟩=some (.int .i64 x.t.k)∧w'.cell? ⟨w.heap.size,3,none⟩=some (.int .i64 x.t.n)∧w'.cell? ⟨w.heap.size,4,none⟩=some (.slice p.T x.t.l.length p.tc)∧w'.cell? ⟨w.heap.size,8,none⟩=some (.int .i64 j)∧w'.cell? ⟨w.heap.size,10,none⟩=some (.int .i64 ps)∧w'.cell? ⟨b,o+j*15+11,none⟩=some (.int .i64 mo)) (by kernel_rfl) ?_ (fun hHeld=> ?_)
   ·exact HK.out _ hbk.out
   refine tkp [0,1,2,3,4,5,6,7,8,9,10,11] ?_;iterate 12 (refine tkr (HK.out _ hbk.out) ?_;simp only[Ql,Qa,Qb,Qc])
   refine tke ?_;refine tko (by kernel_rfl) (fun _ _ _ _ h=>h) (HK.out _ hbk.out) [(12,130),(13,131),(14,132),(15,133),(16,134),(17,135),(18,136),(19,137),(20,138),(21,139),(22,140),(23,141),(24,142),(25,143)] 14 rfl _ _ (by kernel_rfl) ?_;simp only[Js,Jt,Ql,Qa,Qb,Qc];refine tkp [26,27] ?_;iterate 2 (refine tkr (HK.out _ hbk.out) ?_;simp only[Ql,Qa,Qb,Qc])
   refine tke ?_;refine Qh (by kernel_rfl) ?_ _;go_wp2_with fail;go_ret;exact⟨rfl,Zb8 HBX hbk.out⟩
  have q2:decide ((ps:Int)+1≤(ts.length:Int))=true:=Zef (by omega);have q2':decide ((ts.length:Int)≥(ps:Int)+1)=true:=Zef (by omega);have hpt:(ps:Int)<(ts.length:Int):=by omega
  have hpt':ps<ts.length:=by omega
  obtain⟨hel,hsf⟩:=HFT.out hpt';obtain⟨f,hff⟩:∃f,Zgm x=f:=⟨_,rfl⟩;rw[hff]at hel hsf HZ3;have HEL:=hid hel;have HSF:=hid hsf;have CAP:Hid (∀(V:World) (T7:Option Addr) (c7 hi7:Nat),Za V 0 hi7 f T7 c7→hi7≤V.heap.size→Calls prog 35 #[.agg #[.int .i64 f.k,.int .i64 f.n,.slice T7 f.l.length c7],.int .i64 j,.int .i64 ps,.int .i64 0,.int .i64 ps] V fun e w'=>e= .returned (.bool (Zbu f (j:Int) ps 0 ps))∧Below V.heap.size V w'):=hid (fun V T7 c7 hi7 h1 h2=>Zq3 f (j:Int) ps 0 ps 0 hi7 T7 c7 V h1 h2 HSF.out (by omega) (by omega) (by omega));obtain⟨ra,hra⟩:∃r,Zbu f (j:Int) ps 0 ps=r:=⟨_,rfl⟩;rw[hra]at CAP HZ3;obtain rfl:ra=z:=by rw[←HZ3.out,Zef e1,Zef e2];rfl
  clear e1 e2 HZ3 hel hsf hff hra HFT;refine Qg (S:=fun w'=>w'.cell? ⟨w.heap.size,2,none⟩=some (.int .i64 x.t.k)∧w'.cell? ⟨w.heap.size,3,none⟩=some (.int .i64 x.t.n)∧w'.cell? ⟨w.heap.size,4,none⟩=some (.slice p.T x.t.l.length p.tc)∧w'.cell? ⟨w.heap.size,8,none⟩=some (.int .i64 j)∧w'.cell? ⟨w.heap.size,10,none⟩=some (.int .i64 ps)∧w'.cell? ⟨b,o+j*15+11,none⟩=some (.int .i64 mo)) (by kernel_rfl) ?_ (fun hHeld=> ?_)
  ·exact HK.out _ hbk.out
  refine tkp [0,1,2,3,4,5,6,7,8,9,10,11,12,13,15,16,19,20,21,22,23,24] ?_;iterate 22 (refine tkr (HK.out _ hbk.out) ?_;simp only[Ql,Qa,Qb,Qc])
  refine tke ?_;refine Qi (rs:=[14]) (by kernel_rfl) (by simp) ?_;refine Qp (o:=({dst:=some 132,op:=Op.call {callee:=Qu (Qk 32),args:= #[Qj 131],argTypes:= #[27]},type:=23,pos:= "ref.go:118",after:= #[{on:=13,ground:=Qd},{on:=11,ground:=Qf},{on:=11,ground:=Qe}],guard:=some (11,true)}:Oper)) rfl (fun K hK=> ?_) Qq;go_simp;refine(CTN.out _ hbk.out).mono ?_;rintro e w5 ⟨A7,c7,rfl,ht7,hbn⟩;have hbk:=hid (Zb8 hbk hbn);obtain⟨bt,ot,FT,CT,hAt, -,hbt,hxt,hnt⟩:=ht7.sub ps hpt';subst hAt;rw[HEL.out]at hxt hnt;obtain⟨y0,y1,y2⟩:=hxt;have hbt5:bt<w5.heap.size:=hbt;have HNT:=hid hnt;clear hbn ht7 hnt;try (dsimp only)
  try go_wp2_with fail
  refine hK.out _ _ (HK.out _ hbk.out) (fun hHeld=> ?_);clear hK K;try simp only[Ql,Qa,Qb,Qc]
  refine tkp [17] ?_;iterate 1 (refine tkr (HK.out _ hbk.out) ?_;simp only[Ql,Qa,Qb,Qc])
  refine tke ?_;refine Qi (rs:=[18]) (by kernel_rfl) (by simp) ?_;refine Qp (o:=({dst:=some 136,op:=Op.load 27 (Qj 135),type:=27,pos:= "ref.go:118",after:= #[{on:=17,ground:=Qd},{on:=11,ground:=Qe}],guard:=some (11,true)}:Oper)) rfl (fun K hK=> ?_) Qq;go_simp;clear y0 y1 y2;try (dsimp only)
  try go_wp2_with fail
  refine hK.out _ _ (HK.out _ hbk.out) (fun hHeld=> ?_);clear hK K;try simp only[Ql,Qa,Qb,Qc]
  refine Qi (rs:=[25]) (by kernel_rfl) (by simp) ?_;refine Qp (o:=({dst:=some 143,op:=Op.call {callee:=Qu (Qk 35),args:= #[Qj 136,Qj 138,Qj 140,Operand.const (.int .i64 0),Qj 142],argTypes:= #[27,3,3,3,3]},type:=4,pos:= "ref.go:118",after:= #[{on:=18,ground:=Qd},{on:=20,ground:=Qd},{on:=22,ground:=Qd},{on:=24,ground:=Qd},{on:=14,ground:=Qf},{on:=11,ground:=Qe}],guard:=some (11,true)}:Oper)) rfl (fun K hK=> ?_) Qq;go_simp;refine(CAP.out _ FT CT w5.heap.size HNT.out (Qm _)).mono ?_;rintro e w6 ⟨rfl,hbn⟩;have hbk:=hid (Zb8 hbk hbn);clear hbn;try (dsimp only)
  try go_wp2_with fail
  refine hK.out _ _ (HK.out _ hbk.out) (fun hHeld=> ?_);clear hK K;try simp only[Ql,Qa,Qb,Qc]
  refine tkp [26,27] ?_;iterate 2 (refine tkr (HK.out _ hbk.out) ?_;simp only[Ql,Qa,Qb,Qc])
  refine tke ?_;refine Qh (by kernel_rfl) ?_ _;go_wp2_with fail;go_ret;exact⟨rfl,Zb8 HBX hbk.out⟩
def Z17:TM:= .node 6 0 []
def Zkn:ET:=⟨1,⟨#[78,97,116]⟩,.node 2 0 [],.node 0 0 [],0,0,0,0,0,[1,2],[]⟩
def Zka:ET:=⟨2,⟨#[122,101,114,111]⟩,.node 6 0 [],.node 0 0 [],0,0,0,0,0,[],[]⟩
def Zmt:ET:=⟨2,⟨#[115,117,99]⟩,.node 3 0 [.node 6 0 [],.node 6 0 []],.node 0 0 [],0,1,0,0,0,[],[]⟩
def Jj:List ET:=[Zkn,Zka,Zmt]
theorem Z5c:Zg8 Jj 0 Zkn=true:=by kernel_rfl
theorem Z18:Zkm Jj 1 Zka=true:=by kernel_rfl
theorem Z19:Zkm Jj 2 Zmt=true:=by kernel_rfl
theorem Z49:J4 Zkn.t (0:Nat)=true:=by kernel_rfl
theorem Z5a:J4 Zka.t (1:Nat)=true:=by kernel_rfl
theorem Z5b:J4 Zmt.t (2:Nat)=true:=by kernel_rfl
theorem Zth:Zcd Zkn=true∧Zcd Zka=true∧Zcd Zmt=true:=⟨by kernel_rfl,by kernel_rfl,by kernel_rfl⟩
theorem Z2a:Zfx (Zan Jj)=true:=by kernel_rfl
theorem Z7f:Zdr ⟨#[78,97,116]⟩ [78,97,116]:=by
 refine⟨?_,by decide,by unfold Ziy;rw[Qt];decide,by decide,by decide⟩;have h:Zc0 (Zw [78,97,116]) [78,97,116] []:=Zkh (by intro n hn;simp at hn;rcases hn with rfl|rfl|rfl<;>decide);exact h
theorem Z5e:Zdr ⟨#[122,101,114,111]⟩ [122,101,114,111]:=by
 refine⟨?_,by decide,by unfold Ziy;rw[Qt];decide,by decide,by decide⟩;have h:Zc0 (Zw [122,101,114,111]) [122,101,114,111] []:=Zkh (by intro n hn;simp at hn;rcases hn with rfl|rfl|rfl|rfl<;>decide);exact h
theorem Z7g:Zdr ⟨#[115,117,99]⟩ [115,117,99]:=by
 refine⟨?_,by decide,by unfold Ziy;rw[Qt];decide,by decide,by decide⟩;have h:Zc0 (Zw [115,117,99]) [115,117,99] []:=Zkh (by intro n hn;simp at hn;rcases hn with rfl|rfl|rfl<;>decide);exact h
theorem Zja:Zs Jj=true:=by
 unfold Zs;have h0:Zfk Jj 0=true:=by
  rw[Zfy (l:=Jj) (i:=0) (by decide)];show Zcs Jj 0 Zkn=true
  unfold Zcs;rw[show nmB Zkn.s=true from Zk7 Z7f,Z49,Zth.1,if_pos (show Zkn.k=1 from rfl),Z5c];rfl
 have h1:Zfk Jj 1=true:=by
  rw[Zfy (l:=Jj) (i:=1) (by decide)];show Zcs Jj 1 Zka=true
  unfold Zcs;rw[show nmB Zka.s=true from Zk7 Z5e,Z5a,Zth.2.1,if_neg (show ¬ Zka.k=1 by decide),if_pos (show Zka.k=2 from rfl),Z18];rfl
 have h2:Zfk Jj 2=true:=by
  rw[Zfy (l:=Jj) (i:=2) (by decide)];show Zcs Jj 2 Zmt=true
  unfold Zcs;rw[show nmB Zmt.s=true from Zk7 Z7g,Z5b,Zth.2.2,if_neg (show ¬ Zmt.k=1 by decide),if_pos (show Zmt.k=2 from rfl),Z19];rfl
 rw[Z2a,Zef (show Jj.length≤256 by decide)];show(true && (true && (((true && Zfk Jj 0) && Zfk Jj 1) && Zfk Jj 2)))=true
 rw[h0,h1,h2];rfl
theorem Zsz:(⟨#[78,97,116]⟩:ByteArray).size≤maxLen∧(⟨#[122,101,114,111]⟩:ByteArray).size≤maxLen∧(⟨#[115,117,99]⟩:ByteArray).size≤maxLen:=by unfold maxLen;decide
theorem Zk8 (w:World)(lo hi:Nat)(A:Option Addr):Zby w lo hi A []:=fun i h=>by cases h
theorem Z7b {w:World}{g1 g2 g3:Nat}(h1:Bk w g1 3 #[.int .i64 1,.int .i64 2])(h2:Bk w g2 27 #[.int .i64 6,.int .i64 0,.slice none 0 0,.int .i64 6,.int .i64 0,.slice none 0 0])
    (h3:Bk w g3 36 #[.int .i64 1,.string ⟨#[78,97,116]⟩,.int .i64 2,.int .i64 0,.slice none 0 0,.int .i64 0,.int .i64 0,.slice none 0 0,.int .i64 0,.int .i64 0,.int .i64 0,.int .i64 0,.int .i64 0,.slice (some ⟨g1,0,none⟩) 2 2,.slice none 0 0,.int .i64 2,.string ⟨#[122,101,114,111]⟩,.int .i64 6,.int .i64 0,.slice none 0 0,.int .i64 0,.int .i64 0,.slice none 0 0,.int .i64 0,.int .i64 0,.int .i64 0,.int .i64 0,.int .i64 0,.slice none 0 0,.slice none 0 0,.int .i64 2,.string ⟨#[115,117,99]⟩,.int .i64 3,.int .i64 0,.slice (some ⟨g2,0,none⟩) 2 2,.int .i64 0,.int .i64 0,.slice none 0 0,.int .i64 0,.int .i64 1,.int .i64 0,.int .i64 0,.int .i64 0,.slice none 0 0,.slice none 0 0]):Zr w 0 w.heap.size (some ⟨g3,0,none⟩) Jj:=by
  intro i hi;have hm:(2:Nat)≤maxLen∧(0:Nat)≤maxLen:=by unfold maxLen;decide
  rcases(show i=0∨i=1∨i=2 by have:i<3:=hi;omega)with rfl|rfl|rfl
  · refine⟨g3,0,⟨none,0,none,0,some ⟨g1,0,none⟩,2,none,0⟩,rfl,Qn _,h3.lt,⟨h3.cell 0,h3.cell 1,h3.cell 2,h3.cell 3,h3.cell 4,h3.cell 5,h3.cell 6,h3.cell 7,h3.cell 8,h3.cell 9,h3.cell 10,h3.cell 11,h3.cell 12,h3.cell 13,h3.cell 14⟩,⟨Zsz.1,Zas _ _ 2 0,Zas _ _ 0 0,Qm 2,hm.1,fun j hj=> ?_,Qm 0,hm.2,Zk8 _ _ _ _,(show(0:Int)≤9223372036854775807 by decide)⟩⟩;refine⟨g1,0,rfl,Qn _,h1.lt, ?_⟩;rcases(show j=0∨j=1 by have:j<2:=hj;omega)with rfl|rfl
    · exact h1.cell 0
    · exact h1.cell 1
  · exact⟨g3,0,⟨none,0,none,0,none,0,none,0⟩,rfl,Qn _,h3.lt,⟨h3.cell 15,h3.cell 16,h3.cell 17,h3.cell 18,h3.cell 19,h3.cell 20,h3.cell 21,h3.cell 22,h3.cell 23,h3.cell 24,h3.cell 25,h3.cell 26,h3.cell 27,h3.cell 28,h3.cell 29⟩,⟨Zsz.2.1,Zas _ _ 6 0,Zas _ _ 0 0,Qm 0,hm.2,Zk8 _ _ _ _,Qm 0,hm.2,Zk8 _ _ _ _,(show(0:Int)≤9223372036854775807 by decide)⟩⟩
  · exact⟨g3,0,⟨some ⟨g2,0,none⟩,2,none,0,none,0,none,0⟩,rfl,Qn _,h3.lt,⟨h3.cell 30,h3.cell 31,h3.cell 32,h3.cell 33,h3.cell 34,h3.cell 35,h3.cell 36,h3.cell 37,h3.cell 38,h3.cell 39,h3.cell 40,h3.cell 41,h3.cell 42,h3.cell 43,h3.cell 44⟩,⟨Zsz.2.2,Zt1 (Zas _ _ 6 0) (Zas _ _ 6 0) h2 ⟨Qn _,h2.lt⟩ 3 0,Zas _ _ 0 0,Qm 0,hm.2,Zk8 _ _ _ _,Qm 0,hm.2,Zk8 _ _ _ _,(show(0:Int)≤9223372036854775807 by decide)⟩⟩
