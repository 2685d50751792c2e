import Derived.Test.YtinlmmaokphhbaaGreatDoorC2
import Derived.Test.YtinlmmaokphhbaaGreatDoorS6
namespace Go.Proofs.YtinlmmaokphhbaaGreatDoor
open Go.RowKit
set_option linter.unusedVariables false
set_option maxRecDepth 100000
open Lib(hid)
open Go.Proofs.Tryz
open _root_.List renaming setIfInBounds_toArray→Qa,set_cons_zero→Qb,set_cons_succ→Qc
open _root_.Nat renaming le_refl→Qd,le_trans→Qe
open Go.Ground renaming data→Qf,guard→Qg,chain→Qh
open Go.Operand renaming tmp→Qi,func→Qj
open Go.Act renaming put→Qk
theorem Zdf{p:Prop}[Decidable p](h:¬p):decide p=false:=decide_eq_false h
theorem Zeg{p:Prop}[Decidable p](h:p):decide p=true:=decide_eq_true h
theorem Zhw{a b c:World}(x:Hid (Below a.heap.size a b))(y:Below b.heap.size b c):Below a.heap.size a c:=x.out.trans (y.mono x.out.size)
theorem Zz8 {u:TM}{m:Int}(hs:Zb u=true):Zfu u (.node 2 m [])=(decide (u.k=2) && decide (u.n=m)):=by
 obtain⟨k,n,l⟩:=u;unfold Zfu;rw[hs,Bool.true_and,Ze3];show(decide (k=2) && (decide (n=m) && Zci Jw l []))=(decide (k=2) && decide (n=m))
 by_cases hk:k=2
 ·subst hk;have h:=(Jo (by
   have hg:=(Zh.1 hs).2.2;rw[Zo,Bool.and_eq_true]at hg;exact hg.1)).2.2.1
  have:l=[]:=List.length_eq_zero_iff.1 (h.trans rfl);subst this;rw[show Zci Jw [] []=true from rfl,Bool.and_true]
 ·rw[Zdf hk];rfl
theorem Zuy:∀{m:Nat} {t u:TM} {l:List TM},Zb t=true→Ju m t=some (l,u)→Zb u=true:=by
 intro m;induction m with
 | zero=>
  intro t u l hs h;rw[Ju]at h;injection h with h;injection h with _ h;subst h;exact hs
 | succ m ih=>
  intro t u l hs h;by_cases hk:t.k=3
  ·obtain⟨n,a,b,rfl,ha,hb⟩:=Zdl (Zh.1 hs).2.2 hk;rw[Zfs]at h;cases e:Ju m b with
   | none=>rw[e]at h;cases h
   | some q=>
    rw[e]at h;obtain⟨q1,q2⟩:=q;injection h with h;injection h with _ h;simp only at h;subst h;exact ih (Znc hs).2 e
  ·rw[Zim hk]at h;cases h
theorem Znn {t:TM}{n:Int}(h:(Zt t n).2.2=0):Zb (Zt t n).2.1=true:=by
 unfold Zt at h⊢;cases hs:(Zb t && decide (0≤n))with
 | false=>rw[hs]at h;simp at h
 | true=>
  rw[hs]at h;rw[if_pos rfl]at h⊢;by_cases h24:24<n
  ·rw[if_pos h24]at h;simp at h
  ·rw[if_neg h24]at h⊢;cases e:Ju n.toNat t with
   | none=>rw[e]at h;simp at h
   | some q=>
    obtain⟨q1,q2⟩:=q;rw[Bool.and_eq_true]at hs;exact Zuy hs.1 e
theorem Zrt (t:TM)(n:Int):(Zt t n).2.2=0∨(Zt t n).2.2=2∨(Zt t n).2.2=5∨(Zt t n).2.2=6:=by
 unfold Zt;split
 ·split
  ·exact .inr (.inl rfl)
  ·split
   ·exact .inl rfl
   ·exact .inr (.inr (.inr rfl))
 ·exact .inr (.inr (.inl rfl))
set_option maxHeartbeats 8000000 in
theorem Z33 (l:List ET)(A:Option Addr)(cap i:Nat)(hi:i<l.length)(lo hh:Nat)(w:World)(hl:l.length≤600)(hn:Zr w lo hh A l)(hhh:hh≤w.heap.size)(hS:Zi w):
  Calls prog 107 #[.slice A l.length cap,.int .i64 i] w fun e w'=>e= .returned (.bool (Zg8 l i l[i]))∧Below w.heap.size w w':=by
 obtain⟨b,o,p,hA,hb1,hb2,hx,hent⟩:=hn i hi;have HRC:=hid (fun(ha:0≤l[i].a∧l[i].a≤24)(hb:Zc1 l i ((i+1:Nat):Int) l[i].c 2=true) (V:World) (hV:Below w.heap.size w V)=>Z5r l A cap i hi lo hh V hl (hn.kept hV hhh) (by have:=hV.size;omega) (hS.kept hV) ha hb);have HBE:=hid (fun V (hV:Below w.heap.size w V)=>Zpt l A p.C cap p.cc i ((i+1:Nat):Int) 2 l[i].c lo hh lo hh V hl (hn.kept hV hhh) (hent.hc.kept hV hhh) (Qe hent.lc hent.mc) (by omega));have hcl:=Qe hent.lc hent.mc;have hdl:=Qe hent.ld hent.md;have hra:=hent.ra;obtain⟨z,hz⟩:∃z,Zg8 l i l[i]=z:=⟨_,rfl⟩;rw[hz];unfold Zg8 at hz;obtain⟨bc,hbc⟩:∃r,Zc1 l i ((i:Int)+1) l[i].c 2=r:=⟨_,rfl⟩;obtain⟨rr,hrr⟩:∃r,Zng l i l[i]=r:=⟨_,rfl⟩;rw[hbc,hrr]at hz;rw[show(((i+1:Nat):Int))=(i:Int)+1 by omega,hbc]at HBE HRC;rw[hrr]at HRC;clear hbc hrr;obtain⟨x,hxx⟩:∃x,l[i]=x:=⟨_,rfl⟩;rw[hxx]at hx hent hz HBE HRC hcl hdl hra;obtain⟨x0,x1,x2,x3,x4,x5,x6,x7,x8,x9,x10,x11,x12,x13,x14⟩:=hx;subst hA;have hbw:b<w.heap.size:=by omega
 have hi0':(i:Int)<(l.length:Int):=by omega
 have hi1:(i:Int)<600:=by omega
 have HZ:=hid hz;have HB1:=hid (show Below w.heap.size w (w.alloc (.cells (Z1 x p) 36))from(Below.refl _ _).alloc (Qd _) _);have KB:=hid (fun V (hV:Below (w.alloc (.cells (Z1 x p) 36)).heap.size (w.alloc (.cells (Z1 x p) 36)) V)=>(show Zlb V w.heap.size x p from((Bk.new w 36 (Z1 x p)).below hV (by simp)).boxE));have HENT:=hid (fun V (hV:Below w.heap.size w V)=>hent.kept hV hhh);have HSS:=hid (fun V (hV:Below w.heap.size w V)=>hS.kept hV);have CSP:=hid (fun(n:Int) V (hV:Below w.heap.size w V)=>Zil x.t p.T p.tc n V (((hent.kept hV hhh).ht).wide (Nat.zero_le _) (by have:=hV.size;omega)) (HSS.out V hV));have HSO:=hid (show Zh4 x=(decide ((Zt x.t (x.a+x.i)).2.2=0) && (decide ((Zt x.t (x.a+x.i)).2.1.k=2) && decide ((Zt x.t (x.a+x.i)).2.1.n=x.v)))from rfl);have HSE:=hid (Zrt x.t (x.a+x.i));have HSH:=hid (fun h=>Znn (t:=x.t) (n:=x.a+x.i) h);unfold maxLen at hcl hdl;have hcl':(x.c.length:Int)≤9223372036854775807:=by omega
 have hdl':(x.d.length:Int)≤9223372036854775807:=by omega
 clear hz hxx hent hn hS hl hb1 hb2 hcl hdl;unfold Z1 at HB1 KB;by_cases h1:0≤x.a
 case neg=>
  have t0:decide (x.a<0)=true:=Zeg (by omega);obtain rfl:z=false:=by rw[←HZ.out,Zdf h1];rfl
  clear h1;go_enter func107,ntmps107;go_wp2_with fail;go_ret;exact⟨rfl,HB1.out⟩
 have t0:decide (x.a<0)=false:=Zdf (by omega);by_cases h2:0≤x.i
 case neg=>
  have t1:decide (x.i<0)=true:=Zeg (by omega);obtain rfl:z=false:=by rw[←HZ.out,Zdf h2];simp
  clear h1 h2;go_enter func107,ntmps107;go_wp2_with fail;go_ret;exact⟨rfl,HB1.out⟩
 have t1:decide (x.i<0)=false:=Zdf (by omega);have wr1:IntKind.i64.wrap (24 - x.a)=24 - x.a:=IntWalk.i64_in _ (by omega);by_cases h3:x.a+x.i≤24
 case neg=>
  have t2:decide (24 - x.a<x.i)=true:=Zeg (by omega);have t2':decide (x.i>24 - x.a)=true:=Zeg (by omega);obtain rfl:z=false:=by rw[←HZ.out,Zdf h3];simp
  clear h1 h2 h3;go_enter func107,ntmps107;go_wp2_with fail;go_ret;exact⟨rfl,HB1.out⟩
 have t2:decide (24 - x.a<x.i)=false:=Zdf (by omega);have t2':decide (x.i>24 - x.a)=false:=Zdf (by omega);by_cases h4:x.c.length≤16
 case neg=>
  have t3:decide ((16:Int)<(x.c.length:Int))=true:=Zeg (by omega);have t3':decide ((x.c.length:Int)>16)=true:=Zeg (by omega);obtain rfl:z=false:=by rw[←HZ.out,Zdf h4];simp
  clear h1 h2 h3 h4;go_enter func107,ntmps107;go_wp2_with fail;go_ret;exact⟨rfl,HB1.out⟩
 have t3:decide ((16:Int)<(x.c.length:Int))=false:=Zdf (by omega);have t3':decide ((x.c.length:Int)>16)=false:=Zdf (by omega);have hza:((Zh4 x) && (bc && (decide (x.d.length=0)||rr)))=z:=by
  have:=HZ.out;rw[Zeg h1,Zeg h2,Zeg h3,Zeg h4]at this;simpa using this
 have HZ2:=hid hza;have HAA:=hid (show 0≤x.a∧x.a≤24 from⟨h1,by omega⟩);have wr2:IntKind.i64.wrap (x.a+x.i)=x.a+x.i:=IntWalk.i64_in _ (by omega);have wr3:IntKind.i64.wrap ((i:Int)+1)=(i:Int)+1:=IntWalk.i64_in _ (by omega);have CS1:=hid (CSP.out (x.a+x.i));rw[HSO.out]at hza;have HZ3:=hid hza;obtain⟨R,hR⟩:∃R,Zt x.t (x.a+x.i)=R:=⟨_,rfl⟩;rw[hR]at CS1 HSE HSH HZ3 HSO;obtain⟨R1,u,er⟩:=R;unfold Zbk Zc at CS1;simp only at HSE HSH HZ3 HSO;clear h1 h2 h3 h4 hza hR HZ CSP;go_enter func107,ntmps107;go_wp2_with fail;refine(CS1.out _ HB1.out).mono ?_;rintro e w1 ⟨A1,c1,B1,d1,rfl, -,hru,hb1⟩;have HBX0:=hid (HB1.out.trans (hb1.mono (by simp)));have HRU:=hid hru;have hsz1:w.heap.size<w1.heap.size:=by have:=hb1.size;simp at this;omega
 obtain⟨X,hX⟩:∃X,w1.alloc (.cells #[.int .i64 u.k,.int .i64 u.n,.slice B1 u.l.length d1] 27)=X:=⟨_,rfl⟩;have HBX:=hid (show Below w.heap.size w X from by rw[←hX];exact HBX0.out.alloc HBX0.out.size _);have HKX:=hid (show Bk X w1.heap.size 27 #[.int .i64 u.k,.int .i64 u.n,.slice B1 u.l.length d1]from by rw[←hX];exact Bk.new w1 _ _);have HRX:=hid (show Zd X (fun b=>w.heap.size≤b∧b<w1.heap.size) u B1 d1 from by rw[←hX];exact Za.alloc (lo:=w.heap.size) (hi:=w1.heap.size) (HRU.out.imp (fun _ _ _=>rfl) (fun b hb=>⟨by have:=hb.1;simp at this;omega,hb.2⟩)) (Qd _) _);have HWX:=hid (show Below w1.heap.size w1 X from by rw[←hX];exact(Below.refl _ _).alloc (Qd _) _);have HBOX:=hid (fun V (hV:Below X.heap.size X V)=>KB.out V (hb1.trans ((Zhw HWX hV).mono hb1.size)));have HXS:=hid (show w1.heap.size<X.heap.size from HKX.out.lt);obtain⟨c0,c1',c2,c3,c4,c5,c6,c7,c8,c9,c10,c11,c12,c13,c14⟩:=HBOX.out _ (Below.refl _ _);clear hru hb1 CS1 HBX0 HRU x0 x1 x2 x3 x4 x5 x6 x7 x8 x9 x10 x11 x12 x13 x14;go_wp2_with fail;clear hX c0 c1' c2 c3 c4 c5 c6 c7 c8 c9 c10 c11 c12 c13 c14;have hbk:=hid ((Below.refl X.heap.size X).drew);have HK:=hid (fun V (hV:Below X.heap.size X V)=>(show V.cell? ⟨w1.heap.size,0,none⟩=some (.int .i64 u.k)∧V.cell? ⟨w1.heap.size,1,none⟩=some (.int .i64 u.n)∧V.cell? ⟨w1.heap.size,2,none⟩=some (.slice B1 u.l.length d1)∧V.cell? ⟨w.heap.size,12,none⟩=some (.int .i64 x.v)from
  ⟨(HKX.out.below hV HXS.out).cell 0,(HKX.out.below hV HXS.out).cell 1,(HKX.out.below hV HXS.out).cell 2,(HBOX.out V hV).c12⟩))
 by_cases he:er=0
 case neg=>
  have te:(er !=0)=true:=by simpa using he
  obtain rfl:z=false:=by rw[←HZ3.out,Zdf he];rfl
  clear he;refine wp_region_held_drew (S:=fun w'=>w'.cell? ⟨w1.heap.size,0,none⟩=some (.int .i64 u.k)∧w'.cell? ⟨w1.heap.size,1,none⟩=some (.int .i64 u.n)∧w'.cell? ⟨w1.heap.size,2,none⟩=some (.slice B1 u.l.length d1)∧w'.cell? ⟨w.heap.size,12,none⟩=some (.int .i64 x.v)) (by kernel_rfl) ?_ (fun hHeld=> ?_)
  ·exact HK.out _ hbk.out
  refine tkp [0,1,2] ?_;iterate 3 (refine tkr (HK.out _ hbk.out) ?_;simp only[Qk,Qa,Qb,Qc])
  refine tke ?_;refine tko (by kernel_rfl) (fun _ _ _ _ h=>h) (HK.out _ hbk.out) [(3,50),(4,51),(5,52),(6,53),(7,54),(8,55)] 6 rfl _ _ (by kernel_rfl) ?_;simp only[Js,Jt,Qk,Qa,Qb,Qc];refine tkp [9] ?_;iterate 1 (refine tkr (HK.out _ hbk.out) ?_;simp only[Qk,Qa,Qb,Qc])
  refine tke ?_;refine wpAnyH_done (by kernel_rfl) ?_ _;go_wp2_with fail;go_ret;exact⟨rfl,Zhw HBX hbk.out⟩
 have te:(er !=0)=false:=by simpa using he
 subst he;have CC:=hid (fun(V:World)=>(Zvs x.v V).mono fun e w' h=>(show e= .returned (.agg #[.int .i64 2,.int .i64 x.v,.slice none 0 0])∧Below V.heap.size V w' from⟨h.1,by rw[h.2];exact(Below.refl _ _).alloc (Qd _) _⟩));obtain⟨rb,hrb⟩:∃r,(decide (u.k=2) && decide (u.n=x.v))=r:=⟨_,rfl⟩;have HSM:=hid (Zz8 (m:=x.v) (HSH.out rfl));rw[hrb]at HSM HZ3;have CS2:Hid (∀(V:World),Below X.heap.size X V→Calls prog 111 #[.agg #[.int .i64 u.k,.int .i64 u.n,.slice B1 u.l.length d1],.agg #[.int .i64 2,.int .i64 x.v,.slice none 0 0]] V fun e w'=>e= .returned (.bool rb)∧Below V.heap.size V w'):=hid (fun V hV=>by
  have:=Zmb u (.node 2 x.v []) w.heap.size w1.heap.size 0 V.heap.size B1 none d1 0 V (Za.kept (lo:=w.heap.size) (hi:=w1.heap.size) HRX.out hV (by have:=HXS.out;omega)) (Zas _ _ _ _) (by have:=hV.size;have:=HXS.out;omega) (Qd _) (HSS.out V (Zhw HBX hV));rw[HSM.out]at this;exact this)
 clear hrb HSM HSO HSE HSH;refine wp_region_held_drew (S:=fun w'=>w'.cell? ⟨w1.heap.size,0,none⟩=some (.int .i64 u.k)∧w'.cell? ⟨w1.heap.size,1,none⟩=some (.int .i64 u.n)∧w'.cell? ⟨w1.heap.size,2,none⟩=some (.slice B1 u.l.length d1)∧w'.cell? ⟨w.heap.size,12,none⟩=some (.int .i64 x.v)) (by kernel_rfl) ?_ (fun hHeld=> ?_)
 ·exact HK.out _ hbk.out
 refine tkp [0,1,2,3,4,5] ?_;iterate 6 (refine tkr (HK.out _ hbk.out) ?_;simp only[Qk,Qa,Qb,Qc])
 refine tke ?_;refine wpAnyH_ready (rs:=[6]) (by kernel_rfl) (by simp) ?_;refine AllReadyH.cons (o:=({dst:=some 53,op:=Op.call {callee:=Callee.value (Qj 74),args:= #[Qi 52],argTypes:= #[3]},type:=27,pos:= "sign.go:202",after:= #[{on:=5,ground:=Qf},{on:=2,ground:=Qh},{on:=2,ground:=Qg}],guard:=some (2,false)}:Oper)) rfl (fun K hK=> ?_) AllReadyH.nil;go_simp;refine(CC.out _).mono ?_;rintro e w3 ⟨rfl,hbn⟩;have hbk:=hid (Zhw hbk hbn);clear hbn;try (dsimp only)
 try go_wp2_with fail
 refine hK.out _ _ (HK.out _ hbk.out) (fun hHeld=> ?_);clear hK K;try simp only[Qk,Qa,Qb,Qc]
 refine wpAnyH_ready (rs:=[7]) (by kernel_rfl) (by simp) ?_;refine AllReadyH.cons (o:=({dst:=some 54,op:=Op.call {callee:=Callee.value (Qj 111),args:= #[Qi 50,Qi 53],argTypes:= #[27,27]},type:=4,pos:= "sign.go:202",after:= #[{on:=3,ground:=Qf},{on:=6,ground:=Qf},{on:=6,ground:=Qh},{on:=2,ground:=Qg}],guard:=some (2,false)}:Oper)) rfl (fun K hK=> ?_) AllReadyH.nil;go_simp;refine(CS2.out _ hbk.out).mono ?_;rintro e w4 ⟨rfl,hbn⟩;have hbk:=hid (Zhw hbk hbn);clear hbn;try (dsimp only)
 try go_wp2_with fail
 refine hK.out _ _ (HK.out _ hbk.out) (fun hHeld=> ?_);clear hK K;try simp only[Qk,Qa,Qb,Qc]
 refine tkp [8,9] ?_;iterate 2 (refine tkr (HK.out _ hbk.out) ?_;simp only[Qk,Qa,Qb,Qc])
 refine tke ?_;refine wpAnyH_done (by kernel_rfl) ?_ _;have HBY:=hid (Zhw HBX hbk.out);obtain⟨-, -, -, -, -, -, -, -, -, -, -, -, -,c13,c14⟩:=HBOX.out _ hbk.out;have hsz4:w.heap.size<w4.heap.size:=by have:=hbk.out.size;have:=HXS.out;omega
 cases rb with
 | false=>
  obtain rfl:z=false:=by rw[←HZ3.out];rfl
  go_wp2_with fail;go_ret;exact⟨rfl,HBY.out⟩
 | true=>
 have HZ4:Hid ((bc && (decide (x.d.length=0)||rr))=z):=HZ3;go_wp2_with fail;refine(HBE.out _ HBY.out).mono ?_;rintro e w5 ⟨rfl,rfl⟩;cases bc with
 | false=>
  obtain rfl:z=false:=by rw[←HZ4.out];rfl
  go_wp2_with fail;go_ret;exact⟨rfl,HBY.out⟩
 | true=>
 have HR:=hid (HRC.out HAA.out rfl _ HBY.out);by_cases h5:x.d.length=0
 ·have t5:((x.d.length:Int)==0)=true:=by simpa using h5
  obtain rfl:z=true:=by rw[←HZ4.out,Zeg h5];rfl
  clear h5;go_wp2_with fail;go_ret;exact⟨rfl,HBY.out⟩
 ·have t5:((x.d.length:Int)==0)=false:=by simpa using h5
  obtain rfl:rr=z:=by rw[←HZ4.out,Zdf h5];rfl
  clear h5;go_wp2_with fail;refine HR.out.mono ?_;rintro e w6 ⟨rfl,hb6⟩;go_wp2_with fail;go_ret;exact⟨rfl,Zhw HBY hb6⟩
