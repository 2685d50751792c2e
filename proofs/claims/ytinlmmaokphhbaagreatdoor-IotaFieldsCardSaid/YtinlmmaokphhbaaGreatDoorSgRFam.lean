import Derived.Test.YtinlmmaokphhbaaGreatDoorC2
import Derived.Test.YtinlmmaokphhbaaGreatDoorSgFam
import Derived.Test.YtinlmmaokphhbaaGreatDoorSgTele
import Derived.Test.YtinlmmaokphhbaaGreatDoorM9
namespace Go.Proofs.YtinlmmaokphhbaaGreatDoor
open Go.RowKit
set_option linter.unusedVariables false
set_option maxRecDepth 100000
open Lib(hid)
open Go.Proofs.Tryz
open _root_.List renaming setIfInBounds_toArray→Qa,set_cons_zero→Qb,set_cons_succ→Qc,getElem?_eq_getElem→Qd
open Go.Ground renaming data→Qe,guard→Qf,chain→Qg
open Go.Operand renaming tmp→Qh,func→Qi,const→Qj
open Go.Act renaming put→Qk
open Go.AllReadyH renaming cons→Ql,nil→Qm
open Go renaming wp_region_held_drew→Qn,wpAnyH_ready→Qo,wpAnyH_done→Qp
open Go.Callee renaming value→Qq
open _root_.Nat renaming le_trans→Qr,le_refl→Qs
open Go.IntWalk renaming i64_in→Qt
open Go.Op renaming call→Qu
theorem J3{p:Prop}[Decidable p](h:¬p):decide p=false:=decide_eq_false h
theorem Zae{p:Prop}[Decidable p](h:p):decide p=true:=decide_eq_true h
theorem Zav{a b c:World}(x:Hid (Below a.heap.size a b))(y:Below b.heap.size b c):Below a.heap.size a c:=x.out.trans (y.mono x.out.size)
theorem Z3w {l:List ET}{i first:Int}{places:List Int}{k:Int}(hf:0≤first)(h:Zc1 l i first places k=true):places.length≤l.length:=by
 cases hp:places.length with
 | zero=>omega
 | succ q=>
  unfold Zc1 at h;rw[hp]at h;have h1:=Zay.1 h q (by omega);unfold Ze8 at h1;rw[Qd (by omega)]at h1;simp only[Zf4,Bool.and_eq_true,decide_eq_true_eq]at h1;obtain⟨e1,e2,_⟩:=h1;obtain⟨m,e3,hm,_⟩:=Zat e2;omega
set_option maxHeartbeats 16000000 in
theorem Z2p (l:List ET)(A:Option Addr)(cap i:Nat)(hi:i<l.length)(lo hh:Nat)(w:World)(hl:l.length≤600)(hn:Zr w lo hh A l)(hhh:hh≤w.heap.size):
  Calls prog 33 #[.slice A l.length cap,.int .i64 i] w fun e w'=>e= .returned (.bool (Zlq l i l[i]))∧Below w.heap.size w w':=by
 obtain⟨b,o,p,hA,hb1,hb2,hx,hent⟩:=hn i hi;have HN:=hid hn;have HNX:=hid (fun(hc:l[i].c.length=1)(hb:Zc1 l i ((i+1:Nat):Int) l[i].c 2=true)=>Zos hb hc);have HBL:=hid (fun(hb:Zc1 l i ((i:Int)+2) l[i].d 4=true)=>Z3w (by omega) hb);have HLL:=hid hl;have CRW:=hid (fun V (hV:Below w.heap.size w V)=>Zvz l A p.C cap p.cc i ((i+1:Nat):Int) 2 l[i].c lo hh lo hh V hl (hn.kept hV hhh) (hent.hc.kept hV hhh) (Qr hent.lc hent.mc) (by omega));have CRD:=hid (fun V (hV:Below w.heap.size w V)=>Zvz l A p.D cap p.dc i ((i+2:Nat):Int) 4 l[i].d lo hh lo hh V hl (hn.kept hV hhh) (hent.hd.kept hV hhh) (Qr hent.ld hent.md) (by omega));have hcl:=Qr hent.lc hent.mc;have hdl:=Qr hent.ld hent.md;have hra:=hent.ra;obtain⟨z,hz⟩:∃z,Zlq l i l[i]=z:=⟨_,rfl⟩;rw[hz];unfold Zlq Ztm at hz;obtain⟨bc,hbc⟩:∃r,Zc1 l i ((i:Int)+1) l[i].c 2=r:=⟨_,rfl⟩;obtain⟨bd,hbd⟩:∃r,Zc1 l i ((i:Int)+2) l[i].d 4=r:=⟨_,rfl⟩;rw[hbc,hbd]at hz;rw[show(((i+1:Nat):Int))=(i:Int)+1 by omega]at CRW HNX;rw[show(((i+2:Nat):Int))=(i:Int)+2 by omega]at CRD;rw[hbc]at CRW HNX;rw[hbd]at CRD HBL;clear hbc hbd;obtain⟨x,hxx⟩:∃x,l[i]=x:=⟨_,rfl⟩;rw[hxx]at hx hent hz CRW CRD hcl hdl hra HNX HBL;obtain⟨x0,x1,x2,x3,x4,x5,x6,x7,x8,x9,x10,x11,x12,x13,x14⟩:=hx;subst hA;have hbw:b<w.heap.size:=by omega
 have hi0':(i:Int)<(l.length:Int):=by omega
 have hi1:(i:Int)<600:=by omega
 have HZ:=hid hz;have HB1:=hid (show Below w.heap.size w (w.alloc (.cells (Z1 x p) 36))from(Below.refl _ _).alloc (Qs _) _);have KB:=hid (fun V (hV:Below (w.alloc (.cells (Z1 x p) 36)).heap.size (w.alloc (.cells (Z1 x p) 36)) V)=>(show Zlb V w.heap.size x p from((Bk.new w 36 (Z1 x p)).below hV (by simp)).boxE));have HENT:=hid (fun V (hV:Below w.heap.size w V)=>hent.kept hV hhh);have CSP:=hid (fun V (hV:Below w.heap.size w V)=>Zxp x.t p.T p.tc (x.a+x.i) hh V (((hent.kept hV hhh).ht).wide (Nat.zero_le _) (Qs _)) (by have:=hV.size;omega));have CZ:=hid (fun(V:World)=>Zrr x.b p.B p.bc V);obtain⟨zb,hzb⟩:∃r,Zdc x.b=r:=⟨_,rfl⟩;rw[hzb]at CZ;have HSO:=hid (show Zh4 x=(decide ((Zt x.t (x.a+x.i)).2.2=0) && (decide ((Zt x.t (x.a+x.i)).2.1.k=2) && decide ((Zt x.t (x.a+x.i)).2.1.n=x.v)))from rfl);have HSE:=hid (Zrt x.t (x.a+x.i));unfold maxLen at hcl hdl;have hcl':(x.c.length:Int)≤9223372036854775807:=by omega
 have hdl':(x.d.length:Int)≤9223372036854775807:=by omega
 have HZ1:=hid (show((decide (0≤x.a) && (decide (0≤x.i) && (decide (x.a+x.i≤24)))) && ((decide (x.f=0) && (decide (x.p=0) && zb)) && (Zh4 x && (decide (x.c.length≤16) && (bc && (decide (x.d.length=0)||(decide (x.i=0) && (decide (x.c.length=1) && (bd && Ziq l i x)))))))))=z from by
  have:=HZ.out;rw[hzb]at this;rw[←this];cases decide (0≤x.a)<;>cases decide (0≤x.i)<;>cases decide (x.a+x.i≤24)<;>cases decide (x.f=0)<;>cases decide (x.p=0)<;>rfl)
 clear hz hxx hent hn hl hb1 hb2 hcl hdl hzb HZ;unfold Z1 at HB1 KB;unfold Zc at CZ;unfold Zbk Zc at CSP;by_cases h1:0≤x.a
 case neg=>
  have t0:decide (x.a<0)=true:=Zae (by omega);obtain rfl:z=false:=by rw[←HZ1.out,J3 h1];rfl
  clear h1;go_enter func33,ntmps33;go_wp2_with fail;go_ret;exact⟨rfl,HB1.out⟩
 have t0:decide (x.a<0)=false:=J3 (by omega);by_cases h2:0≤x.i
 case neg=>
  have t1:decide (x.i<0)=true:=Zae (by omega);obtain rfl:z=false:=by rw[←HZ1.out,J3 h2];simp
  clear h1 h2;go_enter func33,ntmps33;go_wp2_with fail;go_ret;exact⟨rfl,HB1.out⟩
 have t1:decide (x.i<0)=false:=J3 (by omega);by_cases h3a:x.a≤24
 case neg=>
  have t2:decide ((24:Int)<x.a)=true:=Zae (by omega);have t2':decide (x.a>24)=true:=Zae (by omega);obtain rfl:z=false:=by rw[←HZ1.out,J3 (show ¬ x.a+x.i≤24 by omega)];simp
  clear h1 h2 h3a;go_enter func33,ntmps33;go_wp2_with fail;go_ret;exact⟨rfl,HB1.out⟩
 have t2:decide ((24:Int)<x.a)=false:=J3 (by omega);have t2':decide (x.a>24)=false:=J3 (by omega);by_cases h3b:x.i≤24
 case neg=>
  have t3:decide ((24:Int)<x.i)=true:=Zae (by omega);have t3':decide (x.i>24)=true:=Zae (by omega);obtain rfl:z=false:=by rw[←HZ1.out,J3 (show ¬ x.a+x.i≤24 by omega)];simp
  clear h1 h2 h3a h3b;go_enter func33,ntmps33;go_wp2_with fail;go_ret;exact⟨rfl,HB1.out⟩
 have t3:decide ((24:Int)<x.i)=false:=J3 (by omega);have t3':decide (x.i>24)=false:=J3 (by omega);have wr1:IntKind.i64.wrap (x.a+x.i)=x.a+x.i:=Qt _ (by omega);by_cases h3:x.a+x.i≤24
 case neg=>
  have t4:decide ((24:Int)<x.a+x.i)=true:=Zae (by omega);have t4':decide (x.a+x.i>24)=true:=Zae (by omega);obtain rfl:z=false:=by rw[←HZ1.out,J3 h3];simp
  clear h1 h2 h3a h3b h3;go_enter func33,ntmps33;go_wp2_with fail;go_ret;exact⟨rfl,HB1.out⟩
 have t4:decide ((24:Int)<x.a+x.i)=false:=J3 (by omega);have t4':decide (x.a+x.i>24)=false:=J3 (by omega);have HZ2:Hid (((decide (x.f=0) && (decide (x.p=0) && zb)) && (Zh4 x && (decide (x.c.length≤16) && (bc && (decide (x.d.length=0)||(decide (x.i=0) && (decide (x.c.length=1) && (bd && Ziq l i x))))))))=z):=hid (by
  have:=HZ1.out;rw[Zae h1,Zae h2,Zae h3]at this;exact this)
 have HAA:=hid (show 0≤x.a∧x.a≤24 from⟨h1,h3a⟩);clear HZ1 h1 h2 h3 h3b h3a;by_cases h5:x.f=0
 case neg=>
  have t5:(x.f !=0)=true:=by simpa using h5
  obtain rfl:z=false:=by rw[←HZ2.out,J3 h5];rfl
  clear h5;go_enter func33,ntmps33;go_wp2_with fail;go_ret;exact⟨rfl,HB1.out⟩
 have t5:(x.f !=0)=false:=by simpa using h5
 by_cases h6:x.p=0
 case neg=>
  have t6:(x.p !=0)=true:=by simpa using h6
  obtain rfl:z=false:=by rw[←HZ2.out,J3 h6];simp
  clear h5 h6;go_enter func33,ntmps33;go_wp2_with fail;go_ret;exact⟨rfl,HB1.out⟩
 have t6:(x.p !=0)=false:=by simpa using h6
 have HZ3:Hid ((zb && (Zh4 x && (decide (x.c.length≤16) && (bc && (decide (x.d.length=0)||(decide (x.i=0) && (decide (x.c.length=1) && (bd && Ziq l i x))))))))=z):=hid (by
  have:=HZ2.out;rw[Zae h5,Zae h6]at this;exact this)
 clear h5 h6 HZ2;go_enter func33,ntmps33;go_wp2_with fail;refine(CZ.out _).mono ?_;rintro e w1 ⟨rfl,hb1⟩;have HB2:=hid (HB1.out.trans (hb1.mono (by simp)));have HK2:=hid hb1;have hs1:w.heap.size<w1.heap.size:=by have:=hb1.size;simp at this;omega
 obtain⟨z0,z1,z2,z3,z4,z5,z6,z7,z8,z9,z10,z11,z12,z13,z14⟩:=KB.out _ hb1;clear hb1 x0 x1 x2 x3 x4 x5 x6 x7 x8 x9 x10 x11 x12 x13 x14;cases zb with
 | false=>
  obtain rfl:z=false:=by rw[←HZ3.out];rfl
  go_wp2_with fail;go_ret;exact⟨rfl,HB2.out⟩
 | true=>
 have HZ4:Hid ((Zh4 x && (decide (x.c.length≤16) && (bc && (decide (x.d.length=0)||(decide (x.i=0) && (decide (x.c.length=1) && (bd && Ziq l i x)))))))=z):=HZ3;have HZ5:=hid (show((decide ((Zt x.t (x.a+x.i)).2.2=0) && (decide ((Zt x.t (x.a+x.i)).2.1.k=2) && decide ((Zt x.t (x.a+x.i)).2.1.n=x.v))) && (decide (x.c.length≤16) && (bc && (decide (x.d.length=0)||(decide (x.i=0) && (decide (x.c.length=1) && (bd && Ziq l i x)))))))=z from by rw[←HSO.out];exact HZ4.out);obtain⟨R,hR⟩:∃R,Zt x.t (x.a+x.i)=R:=⟨_,rfl⟩;rw[hR]at CSP HSE HZ5;obtain⟨R1,u,er⟩:=R;simp only at CSP HSE HZ5;clear hR HSO HZ4 HZ3;go_wp2_with fail;refine(CSP.out _ HB2.out).mono ?_;rintro e w2 ⟨A1,c1,B1,d1,rfl, -, -,hb2⟩;have HB3:=hid (Zav HB2 hb2);have HK3:=hid (Zav HK2 hb2);have hs2:w.heap.size<w2.heap.size:=by have:=hb2.size;omega
 clear hb2 z0 z1 z2 z3 z4 z5 z6 z7 z8 z9 z10 z11 z12 z13 z14 hs1 CSP;obtain⟨z0,z1,z2,z3,z4,z5,z6,z7,z8,z9,z10,z11,z12,z13,z14⟩:=KB.out _ HK3.out;have HB3A:=hid (fun o=>HB3.out.alloc HB3.out.size o);by_cases he:er=0
 case neg=>
  have te:(er !=0)=true:=by simpa using he
  obtain rfl:z=false:=by rw[←HZ5.out,J3 he];rfl
  clear he;go_wp2_with fail;go_ret;exact⟨rfl,HB3A.out _⟩
 have te:(er !=0)=false:=by simpa using he
 subst he;by_cases h7:u.k=2
 case neg=>
  have t7:(u.k !=2)=true:=by simpa using h7
  obtain rfl:z=false:=by rw[←HZ5.out,J3 h7];simp
  clear h7;go_wp2_with fail;go_ret;exact⟨rfl,HB3A.out _⟩
 have t7:(u.k !=2)=false:=by simpa using h7
 by_cases h8:u.n=x.v
 case neg=>
  have t8:(u.n !=x.v)=true:=by simpa using h8
  obtain rfl:z=false:=by rw[←HZ5.out,J3 h8];simp
  clear h7 h8;go_wp2_with fail;go_ret;exact⟨rfl,HB3A.out _⟩
 have t8:(u.n !=x.v)=false:=by simpa using h8
 by_cases h9:x.c.length≤16
 case neg=>
  have t9:decide ((16:Int)<(x.c.length:Int))=true:=Zae (by omega);have t9':decide (16<x.c.length)=true:=Zae (by omega);obtain rfl:z=false:=by rw[←HZ5.out,J3 h9];simp
  clear h7 h8 h9;go_wp2_with fail;go_ret;exact⟨rfl,HB3A.out _⟩
 have t9:decide ((16:Int)<(x.c.length:Int))=false:=J3 (by omega);have t9':decide (16<x.c.length)=false:=J3 (by omega);have HZ6:Hid ((bc && (decide (x.d.length=0)||(decide (x.i=0) && (decide (x.c.length=1) && (bd && Ziq l i x)))))=z):=hid (by
  have:=HZ5.out;rw[Zae h7,Zae h8,Zae h9]at this;exact this)
 have wr3:IntKind.i64.wrap ((i:Int)+1)=(i:Int)+1:=Qt _ (by omega);have wr4:IntKind.i64.wrap ((i:Int)+2)=(i:Int)+2:=Qt _ (by omega);clear h7 h8 h9 HZ5;obtain⟨X,hX⟩:∃X,w2.alloc (.cells #[.int .i64 u.k,.int .i64 u.n,.slice B1 u.l.length d1] 27)=X:=⟨_,rfl⟩;have HWX:=hid (show Below w2.heap.size w2 X from by rw[←hX];exact(Below.refl _ _).alloc (Qs _) _);have HBX:=hid (Zav HB3 HWX.out);have HKX:=hid (show Bk X w2.heap.size 27 #[.int .i64 u.k,.int .i64 u.n,.slice B1 u.l.length d1]from by rw[←hX];exact Bk.new w2 _ _);have HBOX:=hid (fun V (hV:Below X.heap.size X V)=>KB.out V (HK3.out.trans ((Zav HWX hV).mono HK3.out.size)));have y0:=HKX.out.cell 0;have y1:=HKX.out.cell 1;change X.cell? ⟨w2.heap.size,0,none⟩=some (.int .i64 u.k)at y0
 change X.cell? ⟨w2.heap.size,1,none⟩=some (.int .i64 u.n)at y1
 have hsX:=HKX.out.lt;clear z0 z1 z2 z3 z4 z5 z6 z7 z8 z9 z10 z11 z12 z13 z14;obtain⟨z0,z1,z2,z3,z4,z5,z6,z7,z8,z9,z10,z11,z12,z13,z14⟩:=HBOX.out _ (Below.refl _ _);have hsX2:w.heap.size<X.heap.size:=by omega
 go_wp2_with fail;clear hX;refine(CRW.out _ HBX.out).mono ?_;rintro e w3 ⟨rfl,rfl⟩;cases bc with
 | false=>
  obtain rfl:z=false:=by rw[←HZ6.out];rfl
  go_wp2_with fail;go_ret;exact⟨rfl,HBX.out⟩
 | true=>
 by_cases h10:x.d.length=0
 ·have t10:((x.d.length:Int)==0)=true:=by simpa using h10
  obtain rfl:z=true:=by rw[←HZ6.out,Zae h10];rfl
  clear h10;go_wp2_with fail;go_ret;exact⟨rfl,HBX.out⟩
 have t10:((x.d.length:Int)==0)=false:=by simpa using h10
 have HZ7:Hid ((decide (x.i=0) && (decide (x.c.length=1) && (bd && Ziq l i x)))=z):=hid (by
  have:=HZ6.out;rw[J3 h10]at this;exact this)
 clear h10 HZ6;have hbk:=hid ((Below.refl X.heap.size X).drew);have HK:=hid (fun V (hV:Below X.heap.size X V)=>(show V.cell? ⟨w.heap.size,11,none⟩=some (.int .i64 x.i)∧V.cell? ⟨w.heap.size,13,none⟩=some (.slice p.C x.c.length p.cc)∧V.cell? ⟨w.heap.size,14,none⟩=some (.slice p.D x.d.length p.dc)∧V.cell? ⟨w.heap.size,10,none⟩=some (.int .i64 x.a)from
  ⟨(HBOX.out V hV).c11,(HBOX.out V hV).c13,(HBOX.out V hV).c14,(HBOX.out V hV).c10⟩))
 have CR:=hid (fun V (hV:Below X.heap.size X V)=>CRD.out V (Zav HBX hV));go_wp2_with fail;clear z0 z1 z2 z3 z4 z5 z6 z7 z8 z9 z10 z11 z12 z13 z14 y0 y1;by_cases h11:x.i=0
 case neg=>
  have t11:(x.i==0)=false:=by simpa using h11
  obtain rfl:z=false:=by rw[←HZ7.out,J3 h11];rfl
  clear h11;refine Qn (S:=fun w'=>w'.cell? ⟨w.heap.size,11,none⟩=some (.int .i64 x.i)∧w'.cell? ⟨w.heap.size,13,none⟩=some (.slice p.C x.c.length p.cc)∧w'.cell? ⟨w.heap.size,14,none⟩=some (.slice p.D x.d.length p.dc)∧w'.cell? ⟨w.heap.size,10,none⟩=some (.int .i64 x.a)) (by kernel_rfl) ?_ (fun hHeld=> ?_)
  ·exact HK.out _ hbk.out
  refine tkp [0,1,2,3] ?_;iterate 4 (refine tkr (HK.out _ hbk.out) ?_;simp only[Qk,Qa,Qb,Qc])
  refine tke ?_;refine tko (by kernel_rfl) (fun _ _ _ _ h=>h) (HK.out _ hbk.out) [(4,105),(5,106),(6,107),(7,108)] 4 rfl _ _ (by kernel_rfl) ?_;simp only[Js,Jt,Qk,Qa,Qb,Qc];refine tkp [8,9] ?_;iterate 2 (refine tkr (HK.out _ hbk.out) ?_;simp only[Qk,Qa,Qb,Qc])
  refine tke ?_;refine tko (by kernel_rfl) (fun _ _ _ _ h=>h) (HK.out _ hbk.out) [(10,111),(11,112),(12,113),(13,114),(14,115),(15,116),(16,117)] 7 rfl _ _ (by kernel_rfl) ?_;simp only[Js,Jt,Qk,Qa,Qb,Qc];refine tkp [17,18] ?_;iterate 2 (refine tkr (HK.out _ hbk.out) ?_;simp only[Qk,Qa,Qb,Qc])
  refine tke ?_;refine tko (by kernel_rfl) (fun _ _ _ _ h=>h) (HK.out _ hbk.out) [(19,120),(20,121),(21,122),(22,123),(23,124),(24,125),(25,126)] 7 rfl _ _ (by kernel_rfl) ?_;simp only[Js,Jt,Qk,Qa,Qb,Qc];refine tkp [26,27] ?_;iterate 2 (refine tkr (HK.out _ hbk.out) ?_;simp only[Qk,Qa,Qb,Qc])
  refine tke ?_;refine tko (by kernel_rfl) (fun _ _ _ _ h=>h) (HK.out _ hbk.out) [(28,129),(29,130),(30,131),(31,132),(32,133),(33,134),(34,135),(35,136),(36,137),(37,138),(38,139),(39,140),(40,141),(41,142),(42,143)] 15 rfl _ _ (by kernel_rfl) ?_;simp only[Js,Jt,Qk,Qa,Qb,Qc];refine tkp [43,44] ?_;iterate 2 (refine tkr (HK.out _ hbk.out) ?_;simp only[Qk,Qa,Qb,Qc])
  refine tke ?_;refine Qp (by kernel_rfl) ?_ _;go_wp2_with fail;go_ret;exact⟨rfl,Zav HBX hbk.out⟩
 have t11:(x.i==0)=true:=by simpa using h11
 by_cases h12:x.c.length=1
 case neg=>
  have t12:((x.c.length:Int)==1)=false:=by simp;omega
  obtain rfl:z=false:=by rw[←HZ7.out,J3 h12];simp
  clear h11 h12;refine Qn (S:=fun w'=>w'.cell? ⟨w.heap.size,11,none⟩=some (.int .i64 x.i)∧w'.cell? ⟨w.heap.size,13,none⟩=some (.slice p.C x.c.length p.cc)∧w'.cell? ⟨w.heap.size,14,none⟩=some (.slice p.D x.d.length p.dc)∧w'.cell? ⟨w.heap.size,10,none⟩=some (.int .i64 x.a)) (by kernel_rfl) ?_ (fun hHeld=> ?_)
  ·exact HK.out _ hbk.out
  refine tkp [0,1,2,3,4,5,6,7,8,9] ?_;iterate 10 (refine tkr (HK.out _ hbk.out) ?_;simp only[Qk,Qa,Qb,Qc])
  refine tke ?_;refine tko (by kernel_rfl) (fun _ _ _ _ h=>h) (HK.out _ hbk.out) [(10,111),(11,112),(12,113),(13,114),(14,115),(15,116),(16,117)] 7 rfl _ _ (by kernel_rfl) ?_;simp only[Js,Jt,Qk,Qa,Qb,Qc];refine tkp [17,18] ?_;iterate 2 (refine tkr (HK.out _ hbk.out) ?_;simp only[Qk,Qa,Qb,Qc])
  refine tke ?_;refine tko (by kernel_rfl) (fun _ _ _ _ h=>h) (HK.out _ hbk.out) [(19,120),(20,121),(21,122),(22,123),(23,124),(24,125),(25,126)] 7 rfl _ _ (by kernel_rfl) ?_;simp only[Js,Jt,Qk,Qa,Qb,Qc];refine tkp [26,27] ?_;iterate 2 (refine tkr (HK.out _ hbk.out) ?_;simp only[Qk,Qa,Qb,Qc])
  refine tke ?_;refine tko (by kernel_rfl) (fun _ _ _ _ h=>h) (HK.out _ hbk.out) [(28,129),(29,130),(30,131),(31,132),(32,133),(33,134),(34,135),(35,136),(36,137),(37,138),(38,139),(39,140),(40,141),(41,142),(42,143)] 15 rfl _ _ (by kernel_rfl) ?_;simp only[Js,Jt,Qk,Qa,Qb,Qc];refine tkp [43,44] ?_;iterate 2 (refine tkr (HK.out _ hbk.out) ?_;simp only[Qk,Qa,Qb,Qc])
  refine tke ?_;refine Qp (by kernel_rfl) ?_ _;go_wp2_with fail;go_ret;exact⟨rfl,Zav HBX hbk.out⟩
 have t12:((x.c.length:Int)==1)=true:=by simp;omega
 have HZ8:Hid ((bd && Ziq l i x)=z):=hid (by
  have:=HZ7.out;rw[Zae h11,Zae h12]at this;exact this)
 obtain⟨hi2, -⟩:=HNX.out h12 (by first|rfl|trivial);cases bd with
 | false=>
  obtain rfl:z=false:=by rw[←HZ8.out];rfl
  clear h11 h12;refine Qn (S:=fun w'=>w'.cell? ⟨w.heap.size,11,none⟩=some (.int .i64 x.i)∧w'.cell? ⟨w.heap.size,13,none⟩=some (.slice p.C x.c.length p.cc)∧w'.cell? ⟨w.heap.size,14,none⟩=some (.slice p.D x.d.length p.dc)∧w'.cell? ⟨w.heap.size,10,none⟩=some (.int .i64 x.a)) (by kernel_rfl) ?_ (fun hHeld=> ?_)
  ·exact HK.out _ hbk.out
  refine tkp [0,1,2,3,4,5,6,7,8,9,10,11,12,13,14,15] ?_;iterate 16 (refine tkr (HK.out _ hbk.out) ?_;simp only[Qk,Qa,Qb,Qc])
  refine tke ?_;refine Qo (rs:=[16]) (by kernel_rfl) (by simp) ?_;refine Ql (o:=({dst:=some 117,op:=Qu {callee:=Qq (Qi 66),args:= #[Qh 111,Qh 113,Qh 115,Qh 116,Qj (.int .i64 4)],argTypes:= #[22,34,3,3,3]},type:=4,pos:= "ref.go:78",after:= #[{on:=10,ground:=Qe},{on:=12,ground:=Qe},{on:=14,ground:=Qe},{on:=15,ground:=Qe},{on:=9,ground:=Qg},{on:=9,ground:=Qf}],guard:=some (9,true)}:Oper)) rfl (fun K hK=> ?_) Qm;go_simp;refine(CR.out _ hbk.out).mono ?_;rintro e w4 ⟨rfl,rfl⟩;try (dsimp only)
  try go_wp2_with fail
  refine hK.out _ _ (HK.out _ hbk.out) (fun hHeld=> ?_);clear hK K;try simp only[Qk,Qa,Qb,Qc]
  refine tkp [17,18] ?_;iterate 2 (refine tkr (HK.out _ hbk.out) ?_;simp only[Qk,Qa,Qb,Qc])
  refine tke ?_;refine tko (by kernel_rfl) (fun _ _ _ _ h=>h) (HK.out _ hbk.out) [(19,120),(20,121),(21,122),(22,123),(23,124),(24,125),(25,126)] 7 rfl _ _ (by kernel_rfl) ?_;simp only[Js,Jt,Qk,Qa,Qb,Qc];refine tkp [26,27] ?_;iterate 2 (refine tkr (HK.out _ hbk.out) ?_;simp only[Qk,Qa,Qb,Qc])
  refine tke ?_;refine tko (by kernel_rfl) (fun _ _ _ _ h=>h) (HK.out _ hbk.out) [(28,129),(29,130),(30,131),(31,132),(32,133),(33,134),(34,135),(35,136),(36,137),(37,138),(38,139),(39,140),(40,141),(41,142),(42,143)] 15 rfl _ _ (by kernel_rfl) ?_;simp only[Js,Jt,Qk,Qa,Qb,Qc];refine tkp [43,44] ?_;iterate 2 (refine tkr (HK.out _ hbk.out) ?_;simp only[Qk,Qa,Qb,Qc])
  refine tke ?_;refine Qp (by kernel_rfl) ?_ _;go_wp2_with fail;go_ret;exact⟨rfl,Zav HBX hbk.out⟩
 | true=>
 have hdl2:x.d.length≤600:=by have:=HBL.out rfl;have:=HLL.out;omega
 obtain⟨b',o',q,hA', -,hbh,hy,henty⟩:=HN.out (i+1) hi2;obtain⟨rfl,rfl⟩:b=b'∧o=o':=by
  injection hA' with r;injection r with r1 r2;exact⟨r1,r2⟩
 have hz9:=HZ8.out;unfold Ziq at hz9;rw[Qd hi2]at hz9;dsimp only at hz9
 have CSH0:=hid (fun V (hV:Below w.heap.size w V)=>Zgk l[i+1].t lo hh q.T q.tc V (henty.ht.kept hV hhh) (by have:=hV.size;omega));have CT0:Hid (∀(hs:Zb l[i+1].t=true) (V:World) (hV:Below w.heap.size w V),Calls prog 32 #[Zc l[i+1].t q.T q.tc] V fun e w'=>∃a c,e= .returned (.slice a (Zz l[i+1].t) c)∧Below V.heap.size V w'):=hid (fun hs V hV=>(Zty l[i+1].t lo hh q.T q.tc V (henty.ht.kept hV hhh) (by have:=hV.size;omega) hs).mono fun e w' ⟨a,c,ps,he,_,hp,hb⟩=>⟨a,c,by rw[he,←(Zcy hs).1,←hp,List.length_map],hb⟩);obtain⟨y,hyy⟩:∃y,l[i+1]=y:=⟨_,rfl⟩;rw[hyy]at hy hz9 CSH0 CT0;have HPD:=hid (fun(hs:Zb y.t=true)=>Qr (Zjc y.t) (Zh.1 hs).2.1);obtain⟨rs,hrs⟩:∃r,Zb y.t=r:=⟨_,rfl⟩;rw[hrs]at CSH0 CT0 hz9 HPD;obtain⟨m,hm⟩:∃m,Zz y.t=m:=⟨_,rfl⟩;rw[hm]at CT0 hz9 HPD;have HZ9:Hid ((rs && decide ((m:Int)=x.a+(x.d.length:Int)))=z):=hid hz9;have HK2:=hid (fun V (hV:Below X.heap.size X V)=>(show V.cell? ⟨w.heap.size,11,none⟩=some (.int .i64 x.i)∧V.cell? ⟨w.heap.size,13,none⟩=some (.slice p.C x.c.length p.cc)∧V.cell? ⟨w.heap.size,14,none⟩=some (.slice p.D x.d.length p.dc)∧V.cell? ⟨w.heap.size,10,none⟩=some (.int .i64 x.a)∧V.cell? ⟨b,o+(i+1)*15+2,none⟩=some (.int .i64 y.t.k)∧V.cell? ⟨b,o+(i+1)*15+2+1,none⟩=some (.int .i64 y.t.n)∧V.cell? ⟨b,o+(i+1)*15+2+2,none⟩=some (.slice q.T y.t.l.length q.tc)from by
  have hyV:=hy.kept (Zav HBX hV) hbw;exact⟨(HBOX.out V hV).c11,(HBOX.out V hV).c13,(HBOX.out V hV).c14,(HBOX.out V hV).c10,hyV.c2,hyV.c3,hyV.c4⟩))
 have CSH:=hid (fun V (hV:Below X.heap.size X V)=>CSH0.out V (Zav HBX hV));have CT:=hid (fun(hs:rs=true)(V:World)(hV:Below X.heap.size X V)=>CT0.out hs V (Zav HBX hV));unfold Zc at CSH CT;have wr5:IntKind.i64.wrap ((i:Int)+1)=((i+1:Nat):Int):=by rw[Qt _ (by omega)];omega
 have hi2':((i+1:Nat):Int)<(l.length:Int):=by omega
 have hi3':(i:Int)+1<(l.length:Int):=by omega
 have hti:((i:Int)+1).toNat=i+1:=by omega
 have hi4':(0:Int)≤(i:Int)+1:=by omega
 clear hz9 h11 h12 hrs hm hyy henty hA' HN HNX hy CSH0 CT0 HZ8 HZ7 wr5;cases rs with
 | false=>
  obtain rfl:z=false:=by rw[←HZ9.out];rfl
  refine Qn (S:=fun w'=>w'.cell? ⟨w.heap.size,11,none⟩=some (.int .i64 x.i)∧w'.cell? ⟨w.heap.size,13,none⟩=some (.slice p.C x.c.length p.cc)∧w'.cell? ⟨w.heap.size,14,none⟩=some (.slice p.D x.d.length p.dc)∧w'.cell? ⟨w.heap.size,10,none⟩=some (.int .i64 x.a)∧w'.cell? ⟨b,o+(i+1)*15+2,none⟩=some (.int .i64 y.t.k)∧w'.cell? ⟨b,o+(i+1)*15+2+1,none⟩=some (.int .i64 y.t.n)∧w'.cell? ⟨b,o+(i+1)*15+2+2,none⟩=some (.slice q.T y.t.l.length q.tc)) (by kernel_rfl) ?_ (fun hHeld=> ?_)
  ·exact HK2.out _ hbk.out
  refine tkp [0,1,2,3,4,5,6,7,8,9,10,11,12,13,14,15] ?_;iterate 16 (refine tkr (HK2.out _ hbk.out) ?_;simp only[Qk,Qa,Qb,Qc])
  refine tke ?_;refine Qo (rs:=[16]) (by kernel_rfl) (by simp) ?_;refine Ql (o:=({dst:=some 117,op:=Qu {callee:=Qq (Qi 66),args:= #[Qh 111,Qh 113,Qh 115,Qh 116,Qj (.int .i64 4)],argTypes:= #[22,34,3,3,3]},type:=4,pos:= "ref.go:78",after:= #[{on:=10,ground:=Qe},{on:=12,ground:=Qe},{on:=14,ground:=Qe},{on:=15,ground:=Qe},{on:=9,ground:=Qg},{on:=9,ground:=Qf}],guard:=some (9,true)}:Oper)) rfl (fun K hK=> ?_) Qm;go_simp;refine(CR.out _ hbk.out).mono ?_;rintro e w4 ⟨rfl,rfl⟩;try (dsimp only)
  try go_wp2_with fail
  refine hK.out _ _ (HK2.out _ hbk.out) (fun hHeld=> ?_);clear hK K;try simp only[Qk,Qa,Qb,Qc]
  refine tkp [17,18,19,20,21,22,23,24] ?_;iterate 8 (refine tkr (HK2.out _ hbk.out) ?_;simp only[Qk,Qa,Qb,Qc])
  refine tke ?_;refine Qo (rs:=[25]) (by kernel_rfl) (by simp) ?_;refine Ql (o:=({dst:=some 126,op:=Qu {callee:=Qq (Qi 22),args:= #[Qh 125],argTypes:= #[27]},type:=4,pos:= "ref.go:78",after:= #[{on:=24,ground:=Qe},{on:=18,ground:=Qg},{on:=18,ground:=Qf}],guard:=some (18,true)}:Oper)) rfl (fun K hK=> ?_) Qm;go_simp;refine(CSH.out _ hbk.out).mono ?_;rintro e w5 ⟨rfl,hbn⟩;have hbk:=hid (Zav hbk hbn);clear hbn;try (dsimp only)
  try go_wp2_with fail
  refine hK.out _ _ (HK2.out _ hbk.out) (fun hHeld=> ?_);clear hK K;try simp only[Qk,Qa,Qb,Qc]
  refine tkp [26,27] ?_;iterate 2 (refine tkr (HK2.out _ hbk.out) ?_;simp only[Qk,Qa,Qb,Qc])
  refine tke ?_;refine tko (by kernel_rfl) (fun _ _ _ _ h=>h) (HK2.out _ hbk.out) [(28,129),(29,130),(30,131),(31,132),(32,133),(33,134),(34,135),(35,136),(36,137),(37,138),(38,139),(39,140),(40,141),(41,142),(42,143)] 15 rfl _ _ (by kernel_rfl) ?_;simp only[Js,Jt,Qk,Qa,Qb,Qc];refine tkp [43,44] ?_;iterate 2 (refine tkr (HK2.out _ hbk.out) ?_;simp only[Qk,Qa,Qb,Qc])
  refine tke ?_;refine Qp (by kernel_rfl) ?_ _;go_wp2_with fail;go_ret;exact⟨rfl,Zav HBX hbk.out⟩
 | true=>
 have CT9:=hid (CT.out (by first|rfl|trivial));have hpd:m≤128:=HPD.out rfl;have ha2:=HAA.out.1;have ha3:=HAA.out.2;have wr6:IntKind.i64.wrap (x.a+(x.d.length:Int))=x.a+(x.d.length:Int):=Qt _ (by omega);have HZA:Hid (decide ((m:Int)=x.a+(x.d.length:Int))=z):=HZ9;clear CT;by_cases h13:(m:Int)=x.a+(x.d.length:Int)
 ·have t13:((m:Int)==x.a+(x.d.length:Int))=true:=by simpa using h13
  obtain rfl:z=true:=by rw[←HZA.out,Zae h13]
  clear h13 HZA HZ9;refine Qn (S:=fun w'=>w'.cell? ⟨w.heap.size,11,none⟩=some (.int .i64 x.i)∧w'.cell? ⟨w.heap.size,13,none⟩=some (.slice p.C x.c.length p.cc)∧w'.cell? ⟨w.heap.size,14,none⟩=some (.slice p.D x.d.length p.dc)∧w'.cell? ⟨w.heap.size,10,none⟩=some (.int .i64 x.a)∧w'.cell? ⟨b,o+(i+1)*15+2,none⟩=some (.int .i64 y.t.k)∧w'.cell? ⟨b,o+(i+1)*15+2+1,none⟩=some (.int .i64 y.t.n)∧w'.cell? ⟨b,o+(i+1)*15+2+2,none⟩=some (.slice q.T y.t.l.length q.tc)) (by kernel_rfl) ?_ (fun hHeld=> ?_)
  ·exact HK2.out _ hbk.out
  refine tkp [0,1,2,3,4,5,6,7,8,9,10,11,12,13,14,15] ?_;iterate 16 (refine tkr (HK2.out _ hbk.out) ?_;simp only[Qk,Qa,Qb,Qc])
  refine tke ?_;refine Qo (rs:=[16]) (by kernel_rfl) (by simp) ?_;refine Ql (o:=({dst:=some 117,op:=Qu {callee:=Qq (Qi 66),args:= #[Qh 111,Qh 113,Qh 115,Qh 116,Qj (.int .i64 4)],argTypes:= #[22,34,3,3,3]},type:=4,pos:= "ref.go:78",after:= #[{on:=10,ground:=Qe},{on:=12,ground:=Qe},{on:=14,ground:=Qe},{on:=15,ground:=Qe},{on:=9,ground:=Qg},{on:=9,ground:=Qf}],guard:=some (9,true)}:Oper)) rfl (fun K hK=> ?_) Qm;go_simp;refine(CR.out _ hbk.out).mono ?_;rintro e w4 ⟨rfl,rfl⟩;try (dsimp only)
  try go_wp2_with fail
  refine hK.out _ _ (HK2.out _ hbk.out) (fun hHeld=> ?_);clear hK K;try simp only[Qk,Qa,Qb,Qc]
  refine tkp [17,18,19,20,21,22,23,24] ?_;iterate 8 (refine tkr (HK2.out _ hbk.out) ?_;simp only[Qk,Qa,Qb,Qc])
  refine tke ?_;refine Qo (rs:=[25]) (by kernel_rfl) (by simp) ?_;refine Ql (o:=({dst:=some 126,op:=Qu {callee:=Qq (Qi 22),args:= #[Qh 125],argTypes:= #[27]},type:=4,pos:= "ref.go:78",after:= #[{on:=24,ground:=Qe},{on:=18,ground:=Qg},{on:=18,ground:=Qf}],guard:=some (18,true)}:Oper)) rfl (fun K hK=> ?_) Qm;go_simp;refine(CSH.out _ hbk.out).mono ?_;rintro e w5 ⟨rfl,hbn⟩;have hbk:=hid (Zav hbk hbn);clear hbn;try (dsimp only)
  try go_wp2_with fail
  refine hK.out _ _ (HK2.out _ hbk.out) (fun hHeld=> ?_);clear hK K;try simp only[Qk,Qa,Qb,Qc]
  refine tkp [26,27,28,29,30,31,32,33,36,37,38,39,40,41] ?_;iterate 14 (refine tkr (HK2.out _ hbk.out) ?_;simp only[Qk,Qa,Qb,Qc])
  refine tke ?_;refine Qo (rs:=[34]) (by kernel_rfl) (by simp) ?_;refine Ql (o:=({dst:=some 135,op:=Qu {callee:=Qq (Qi 32),args:= #[Qh 134],argTypes:= #[27]},type:=23,pos:= "ref.go:78",after:= #[{on:=33,ground:=Qe},{on:=27,ground:=Qg},{on:=27,ground:=Qf}],guard:=some (27,true)}:Oper)) rfl (fun K hK=> ?_) Qm;go_simp;refine(CT9.out _ hbk.out).mono ?_;rintro e w6 ⟨A7,c7,rfl,hbn⟩;have hbk:=hid (Zav hbk hbn);clear hbn;try (dsimp only)
  try go_wp2_with fail
  refine hK.out _ _ (HK2.out _ hbk.out) (fun hHeld=> ?_);clear hK K;try simp only[Qk,Qa,Qb,Qc]
  refine tkp [35,42,43,44] ?_;iterate 4 (refine tkr (HK2.out _ hbk.out) ?_;simp only[Qk,Qa,Qb,Qc])
  refine tke ?_;refine Qp (by kernel_rfl) ?_ _;go_wp2_with fail;go_ret;exact⟨rfl,Zav HBX hbk.out⟩
 ·have t13:((m:Int)==x.a+(x.d.length:Int))=false:=by simpa using h13
  obtain rfl:z=false:=by rw[←HZA.out,J3 h13]
  clear h13 HZA HZ9;refine Qn (S:=fun w'=>w'.cell? ⟨w.heap.size,11,none⟩=some (.int .i64 x.i)∧w'.cell? ⟨w.heap.size,13,none⟩=some (.slice p.C x.c.length p.cc)∧w'.cell? ⟨w.heap.size,14,none⟩=some (.slice p.D x.d.length p.dc)∧w'.cell? ⟨w.heap.size,10,none⟩=some (.int .i64 x.a)∧w'.cell? ⟨b,o+(i+1)*15+2,none⟩=some (.int .i64 y.t.k)∧w'.cell? ⟨b,o+(i+1)*15+2+1,none⟩=some (.int .i64 y.t.n)∧w'.cell? ⟨b,o+(i+1)*15+2+2,none⟩=some (.slice q.T y.t.l.length q.tc)) (by kernel_rfl) ?_ (fun hHeld=> ?_)
  ·exact HK2.out _ hbk.out
  refine tkp [0,1,2,3,4,5,6,7,8,9,10,11,12,13,14,15] ?_;iterate 16 (refine tkr (HK2.out _ hbk.out) ?_;simp only[Qk,Qa,Qb,Qc])
  refine tke ?_;refine Qo (rs:=[16]) (by kernel_rfl) (by simp) ?_;refine Ql (o:=({dst:=some 117,op:=Qu {callee:=Qq (Qi 66),args:= #[Qh 111,Qh 113,Qh 115,Qh 116,Qj (.int .i64 4)],argTypes:= #[22,34,3,3,3]},type:=4,pos:= "ref.go:78",after:= #[{on:=10,ground:=Qe},{on:=12,ground:=Qe},{on:=14,ground:=Qe},{on:=15,ground:=Qe},{on:=9,ground:=Qg},{on:=9,ground:=Qf}],guard:=some (9,true)}:Oper)) rfl (fun K hK=> ?_) Qm;go_simp;refine(CR.out _ hbk.out).mono ?_;rintro e w4 ⟨rfl,rfl⟩;try (dsimp only)
  try go_wp2_with fail
  refine hK.out _ _ (HK2.out _ hbk.out) (fun hHeld=> ?_);clear hK K;try simp only[Qk,Qa,Qb,Qc]
  refine tkp [17,18,19,20,21,22,23,24] ?_;iterate 8 (refine tkr (HK2.out _ hbk.out) ?_;simp only[Qk,Qa,Qb,Qc])
  refine tke ?_;refine Qo (rs:=[25]) (by kernel_rfl) (by simp) ?_;refine Ql (o:=({dst:=some 126,op:=Qu {callee:=Qq (Qi 22),args:= #[Qh 125],argTypes:= #[27]},type:=4,pos:= "ref.go:78",after:= #[{on:=24,ground:=Qe},{on:=18,ground:=Qg},{on:=18,ground:=Qf}],guard:=some (18,true)}:Oper)) rfl (fun K hK=> ?_) Qm;go_simp;refine(CSH.out _ hbk.out).mono ?_;rintro e w5 ⟨rfl,hbn⟩;have hbk:=hid (Zav hbk hbn);clear hbn;try (dsimp only)
  try go_wp2_with fail
  refine hK.out _ _ (HK2.out _ hbk.out) (fun hHeld=> ?_);clear hK K;try simp only[Qk,Qa,Qb,Qc]
  refine tkp [26,27,28,29,30,31,32,33,36,37,38,39,40,41] ?_;iterate 14 (refine tkr (HK2.out _ hbk.out) ?_;simp only[Qk,Qa,Qb,Qc])
  refine tke ?_;refine Qo (rs:=[34]) (by kernel_rfl) (by simp) ?_;refine Ql (o:=({dst:=some 135,op:=Qu {callee:=Qq (Qi 32),args:= #[Qh 134],argTypes:= #[27]},type:=23,pos:= "ref.go:78",after:= #[{on:=33,ground:=Qe},{on:=27,ground:=Qg},{on:=27,ground:=Qf}],guard:=some (27,true)}:Oper)) rfl (fun K hK=> ?_) Qm;go_simp;refine(CT9.out _ hbk.out).mono ?_;rintro e w6 ⟨A7,c7,rfl,hbn⟩;have hbk:=hid (Zav hbk hbn);clear hbn;try (dsimp only)
  try go_wp2_with fail
  refine hK.out _ _ (HK2.out _ hbk.out) (fun hHeld=> ?_);clear hK K;try simp only[Qk,Qa,Qb,Qc]
  refine tkp [35,42,43,44] ?_;iterate 4 (refine tkr (HK2.out _ hbk.out) ?_;simp only[Qk,Qa,Qb,Qc])
  refine tke ?_;refine Qp (by kernel_rfl) ?_ _;go_wp2_with fail;go_ret;exact⟨rfl,Zav HBX hbk.out⟩
