import Derived.Test.YtchllgkgjompgaaGreatDoorC2
import Derived.Test.YtchllgkgjompgaaGreatDoorS6
namespace Go.Proofs.YtchllgkgjompgaaGreatDoor
set_option maxHeartbeats 8000000
set_option maxRecDepth 100000
open Go.RowKit
set_option linter.unusedVariables false
open Lib(hid)
open List(setIfInBounds_toArray set_cons_zero set_cons_succ)
open Go.Proofs.Tryz
theorem dfS9{p:Prop}[Decidable p](h:¬p):decide p=false:=decide_eq_false h
theorem dtS9{p:Prop}[Decidable p](h:p):decide p=true:=decide_eq_true h
theorem lrS9{n:Nat}:n≤n:=Nat.le_refl n
theorem trS9{a b c:World}(x:Hid (Below a.heap.size a b))(y:Below b.heap.size b c):Below a.heap.size a c:=x.out.trans (y.mono x.out.size)
theorem same_sort {u:TM} {m:Int} (hs:shapedB u=true):tsameB u (.node 2 m [])=(decide (u.k=2) && decide (u.n=m)):=by
 obtain⟨k,n,l⟩:=u;unfold tsameB;rw[hs,Bool.true_and,alikeT_node];show(decide (k=2) && (decide (n=m) && pairsM alikeT l []))=(decide (k=2) && decide (n=m))
 by_cases hk:k=2
 ·subst hk;have h:=(ttop_facts (by
   have hg:=(shapedB_true.1 hs).2.2;rw[tgoodB_node,Bool.and_eq_true]at hg;exact hg.1)).2.2.1
  have:l=[]:=List.length_eq_zero_iff.1 (h.trans rfl);subst this;rw[show pairsM alikeT [] []=true from rfl,Bool.and_true]
 ·rw[dfS9 hk];rfl
theorem take_shaped:∀{m:Nat} {t u:TM} {l:List TM},shapedB t=true→takeT m t=some (l,u)→shapedB u=true:=by
 intro m;induction m with
 | zero=>
  intro t u l hs h;rw[takeT]at h;injection h with h;injection h with _ h;subst h;exact hs
 | succ m ih=>
  intro t u l hs h;by_cases hk:t.k=3
  ·obtain⟨n,a,b,rfl,ha,hb⟩:=pi_parts (shapedB_true.1 hs).2.2 hk;rw[takeT_pi]at h;cases e:takeT m b with
   | none=>rw[e]at h;cases h
   | some q=>
    rw[e]at h;obtain⟨q1,q2⟩:=q;injection h with h;injection h with _ h;simp only at h;subst h;exact ih (pi_shaped hs).2 e
  ·rw[takeT_not hk]at h;cases h
theorem split_shaped {t:TM} {n:Int} (h:(splitX t n).2.2=0):shapedB (splitX t n).2.1=true:=by
 unfold splitX at h⊢;cases hs:(shapedB t && decide (0≤n))with
 | false=>rw[hs]at h;simp at h
 | true=>
  rw[hs]at h;rw[if_pos rfl]at h⊢;by_cases h24:24<n
  ·rw[if_pos h24]at h;simp at h
  ·rw[if_neg h24]at h⊢;cases e:takeT n.toNat t with
   | none=>rw[e]at h;simp at h
   | some q=>
    obtain⟨q1,q2⟩:=q;rw[Bool.and_eq_true]at hs;exact take_shaped hs.1 e
theorem split_err (t:TM) (n:Int):(splitX t n).2.2=0∨(splitX t n).2.2=2∨(splitX t n).2.2=5∨(splitX t n).2.2=6:=by
 unfold splitX;split
 ·split
  ·exact .inr (.inl rfl)
  ·split
   ·exact .inl rfl
   ·exact .inr (.inr (.inr rfl))
 ·exact .inr (.inr (.inl rfl))
theorem fam_any (l:List ET) (A:Option Addr) (cap i:Nat) (hi:i<l.length) (lo hh:Nat) (w:World) (hl:l.length≤600) (hn:EntsAt w lo hh A l) (hhh:hh≤w.heap.size) (hS:ShapesM w):
  Calls prog 187 #[.slice A l.length cap,.int .i64 i] w fun e w'=>e= .returned (.bool (famB l i l[i]))∧Below w.heap.size w w':=by
 obtain⟨b,o,p,hA,hb1,hb2,hx,hent⟩:=hn i hi;have HRC:=hid (fun(ha:0≤l[i].a∧l[i].a≤24) (hb:behB l i ((i+1:Nat):Int) l[i].c 2=true) (V:World) (hV:Below w.heap.size w V)=>rec_any l A cap i hi lo hh V hl (hn.kept hV hhh) (by have:=hV.size;omega) (hS.kept hV) ha hb);have HBE:=hid (fun V (hV:Below w.heap.size w V)=>behind_any l A p.C cap p.cc i ((i+1:Nat):Int) 2 l[i].c lo hh lo hh V hl (hn.kept hV hhh) (hent.hc.kept hV hhh) (Nat.le_trans hent.lc hent.mc) (by omega));have hcl:=Nat.le_trans hent.lc hent.mc;have hdl:=Nat.le_trans hent.ld hent.md;have hra:=hent.ra;obtain⟨z,hz⟩:∃z,famB l i l[i]=z:=⟨_,rfl⟩;rw[hz];unfold famB at hz;obtain⟨bc,hbc⟩:∃r,behB l i ((i:Int)+1) l[i].c 2=r:=⟨_,rfl⟩;obtain⟨rr,hrr⟩:∃r,recB l i l[i]=r:=⟨_,rfl⟩;rw[hbc,hrr]at hz;rw[show(((i+1:Nat):Int))=(i:Int)+1 by omega,hbc]at HBE HRC;rw[hrr]at HRC;clear hbc hrr;obtain⟨x,hxx⟩:∃x,l[i]=x:=⟨_,rfl⟩;rw[hxx]at hx hent hz HBE HRC hcl hdl hra;obtain⟨x0,x1,x2,x3,x4,x5,x6,x7,x8,x9,x10,x11,x12,x13,x14⟩:=hx;subst hA;have hbw:b<w.heap.size:=by omega
 have hi0':(i:Int)<(l.length:Int):=by omega
 have hi1:(i:Int)<600:=by omega
 have HZ:=hid hz;have HB1:=hid (show Below w.heap.size w (w.alloc (.cells (entC x p) 43))from(Below.refl _ _).alloc lrS9 _);have KB:=hid (fun V (hV:Below (w.alloc (.cells (entC x p) 43)).heap.size (w.alloc (.cells (entC x p) 43)) V)=>(show BoxE V w.heap.size x p from((Bk.new w 43 (entC x p)).below hV (by simp)).boxE));have HENT:=hid (fun V (hV:Below w.heap.size w V)=>hent.kept hV hhh);have HSS:=hid (fun V (hV:Below w.heap.size w V)=>hS.kept hV);have CSP:=hid (fun(n:Int) V (hV:Below w.heap.size w V)=>split_any x.t p.T p.tc n V (((hent.kept hV hhh).ht).wide (Nat.zero_le _) (by have:=hV.size;omega)) (HSS.out V hV));have HSO:=hid (show sortB x=(decide ((splitX x.t (x.a+x.i)).2.2=0) && (decide ((splitX x.t (x.a+x.i)).2.1.k=2) && decide ((splitX x.t (x.a+x.i)).2.1.n=x.v)))from rfl);have HSE:=hid (split_err x.t (x.a+x.i));have HSH:=hid (fun h=>split_shaped (t:=x.t) (n:=x.a+x.i) h);unfold maxLen at hcl hdl;have hcl':(x.c.length:Int)≤9223372036854775807:=by omega
 have hdl':(x.d.length:Int)≤9223372036854775807:=by omega
 clear hz hxx hent hn hS hl hb1 hb2 hcl hdl;unfold entC at HB1 KB;by_cases h1:0≤x.a
 case neg=>
  have t0:decide (x.a<0)=true:=dtS9 (by omega);obtain rfl:z=false:=by rw[←HZ.out,dfS9 h1];rfl
  clear h1;go_enter func187,ntmps187;go_wp2_with fail;go_ret;exact⟨rfl,HB1.out⟩
 have t0:decide (x.a<0)=false:=dfS9 (by omega);by_cases h2:0≤x.i
 case neg=>
  have t1:decide (x.i<0)=true:=dtS9 (by omega);obtain rfl:z=false:=by rw[←HZ.out,dfS9 h2];simp
  clear h1 h2;go_enter func187,ntmps187;go_wp2_with fail;go_ret;exact⟨rfl,HB1.out⟩
 have t1:decide (x.i<0)=false:=dfS9 (by omega);have wr1:IntKind.i64.wrap (24 - x.a)=24 - x.a:=IntWalk.i64_in _ (by omega);by_cases h3:x.a+x.i≤24
 case neg=>
  have t2:decide (24 - x.a<x.i)=true:=dtS9 (by omega);have t2':decide (x.i>24 - x.a)=true:=dtS9 (by omega);obtain rfl:z=false:=by rw[←HZ.out,dfS9 h3];simp
  clear h1 h2 h3;go_enter func187,ntmps187;go_wp2_with fail;go_ret;exact⟨rfl,HB1.out⟩
 have t2:decide (24 - x.a<x.i)=false:=dfS9 (by omega);have t2':decide (x.i>24 - x.a)=false:=dfS9 (by omega);by_cases h4:x.c.length≤16
 case neg=>
  have t3:decide ((16:Int)<(x.c.length:Int))=true:=dtS9 (by omega);have t3':decide ((x.c.length:Int)>16)=true:=dtS9 (by omega);obtain rfl:z=false:=by rw[←HZ.out,dfS9 h4];simp
  clear h1 h2 h3 h4;go_enter func187,ntmps187;go_wp2_with fail;go_ret;exact⟨rfl,HB1.out⟩
 have t3:decide ((16:Int)<(x.c.length:Int))=false:=dfS9 (by omega);have t3':decide ((x.c.length:Int)>16)=false:=dfS9 (by omega);have hza:((sortB x) && (bc && (decide (x.d.length=0)||rr)))=z:=by
  have:=HZ.out;rw[dtS9 h1,dtS9 h2,dtS9 h3,dtS9 h4]at this;simpa using this
 have HZ2:=hid hza;have HAA:=hid (show 0≤x.a∧x.a≤24 from⟨h1,by omega⟩);have wr2:IntKind.i64.wrap (x.a+x.i)=x.a+x.i:=IntWalk.i64_in _ (by omega);have wr3:IntKind.i64.wrap ((i:Int)+1)=(i:Int)+1:=IntWalk.i64_in _ (by omega);have CS1:=hid (CSP.out (x.a+x.i));rw[HSO.out]at hza;have HZ3:=hid hza;obtain⟨R,hR⟩:∃R,splitX x.t (x.a+x.i)=R:=⟨_,rfl⟩;rw[hR]at CS1 HSE HSH HZ3 HSO;obtain⟨R1,u,er⟩:=R;unfold GivesS termV at CS1;simp only at HSE HSH HZ3 HSO;clear h1 h2 h3 h4 hza hR HZ CSP;go_enter func187,ntmps187;go_wp2_with fail;refine(CS1.out _ HB1.out).mono ?_;rintro e w1 ⟨A1,c1,B1,d1,rfl, -,hru,hb1⟩;have HBX0:=hid (HB1.out.trans (hb1.mono (by simp)));have HRU:=hid hru;have hsz1:w.heap.size<w1.heap.size:=by have:=hb1.size;simp at this;omega
 obtain⟨X,hX⟩:∃X,w1.alloc (.cells #[.int .i64 u.k,.int .i64 u.n,.slice B1 u.l.length d1] 25)=X:=⟨_,rfl⟩;have HBX:=hid (show Below w.heap.size w X from by rw[←hX];exact HBX0.out.alloc HBX0.out.size _);have HKX:=hid (show Bk X w1.heap.size 25 #[.int .i64 u.k,.int .i64 u.n,.slice B1 u.l.length d1]from by rw[←hX];exact Bk.new w1 _ _);have HRX:=hid (show TermIn X (fun b=>w.heap.size≤b∧b<w1.heap.size) u B1 d1 from by rw[←hX];exact IsTerm.alloc (lo:=w.heap.size) (hi:=w1.heap.size) (HRU.out.imp (fun _ _ _=>rfl) (fun b hb=>⟨by have:=hb.1;simp at this;omega,hb.2⟩)) lrS9 _);have HWX:=hid (show Below w1.heap.size w1 X from by rw[←hX];exact(Below.refl _ _).alloc lrS9 _);have HBOX:=hid (fun V (hV:Below X.heap.size X V)=>KB.out V (hb1.trans ((trS9 HWX hV).mono hb1.size)));have HXS:=hid (show w1.heap.size<X.heap.size from HKX.out.lt);obtain⟨c0,c1',c2,c3,c4,c5,c6,c7,c8,c9,c10,c11,c12,c13,c14⟩:=HBOX.out _ (Below.refl _ _);clear hru hb1 CS1 HBX0 HRU x0 x1 x2 x3 x4 x5 x6 x7 x8 x9 x10 x11 x12 x13 x14;go_wp2_with fail;clear hX c0 c1' c2 c3 c4 c5 c6 c7 c8 c9 c10 c11 c12 c13 c14;have hbk:=hid ((Below.refl X.heap.size X).drew);have HK:=hid (fun V (hV:Below X.heap.size X V)=>(show V.cell? ⟨w1.heap.size,0,none⟩=some (.int .i64 u.k)∧V.cell? ⟨w1.heap.size,1,none⟩=some (.int .i64 u.n)∧V.cell? ⟨w1.heap.size,2,none⟩=some (.slice B1 u.l.length d1)∧V.cell? ⟨w.heap.size,12,none⟩=some (.int .i64 x.v)from
  ⟨(HKX.out.below hV HXS.out).cell 0,(HKX.out.below hV HXS.out).cell 1,(HKX.out.below hV HXS.out).cell 2,(HBOX.out V hV).c12⟩))
 by_cases he:er=0
 case neg=>
  have te:(er !=0)=true:=by simpa using he
  obtain rfl:z=false:=by rw[←HZ3.out,dfS9 he];rfl
  clear he;refine wp_region_held_drew (S:=fun w'=>w'.cell? ⟨w1.heap.size,0,none⟩=some (.int .i64 u.k)∧w'.cell? ⟨w1.heap.size,1,none⟩=some (.int .i64 u.n)∧w'.cell? ⟨w1.heap.size,2,none⟩=some (.slice B1 u.l.length d1)∧w'.cell? ⟨w.heap.size,12,none⟩=some (.int .i64 x.v)) (by kernel_rfl) ?_ (fun hHeld=> ?_)
  ·exact HK.out _ hbk.out
  refine tkp [0,1,2] ?_;iterate 3 (refine tkr (HK.out _ hbk.out) ?_;simp only[Act.put,setIfInBounds_toArray,set_cons_zero,set_cons_succ])
  refine tke ?_;refine tko (by kernel_rfl) (fun _ _ _ _ h=>h) (HK.out _ hbk.out) [(3,50),(4,51),(5,52),(6,53),(7,54),(8,55)] 6 rfl _ _ (by kernel_rfl) ?_;simp only[offA,offL,Act.put,setIfInBounds_toArray,set_cons_zero,set_cons_succ];refine tkp [9] ?_;iterate 1 (refine tkr (HK.out _ hbk.out) ?_;simp only[Act.put,setIfInBounds_toArray,set_cons_zero,set_cons_succ])
  refine tke ?_;refine wpAnyH_done (by kernel_rfl) ?_ _;go_wp2_with fail;go_ret;exact⟨rfl,trS9 HBX hbk.out⟩
 have te:(er !=0)=false:=by simpa using he
 subst he;have CC:=hid (fun(V:World)=>(mk_sort x.v V).mono fun e w' h=>(show e= .returned (.agg #[.int .i64 2,.int .i64 x.v,.slice none 0 0])∧Below V.heap.size V w' from⟨h.1,by rw[h.2];exact(Below.refl _ _).alloc lrS9 _⟩));obtain⟨rb,hrb⟩:∃r,(decide (u.k=2) && decide (u.n=x.v))=r:=⟨_,rfl⟩;have HSM:=hid (same_sort (m:=x.v) (HSH.out rfl));rw[hrb]at HSM HZ3;have CS2:Hid (∀(V:World),Below X.heap.size X V→Calls prog 191 #[.agg #[.int .i64 u.k,.int .i64 u.n,.slice B1 u.l.length d1],.agg #[.int .i64 2,.int .i64 x.v,.slice none 0 0]] V fun e w'=>e= .returned (.bool rb)∧Below V.heap.size V w'):=hid (fun V hV=>by
  have:=tmSame_any u (.node 2 x.v []) w.heap.size w1.heap.size 0 V.heap.size B1 none d1 0 V (IsTerm.kept (lo:=w.heap.size) (hi:=w1.heap.size) HRX.out hV (by have:=HXS.out;omega)) (leaf_in _ _ _ _) (by have:=hV.size;have:=HXS.out;omega) lrS9 (HSS.out V (trS9 HBX hV));rw[HSM.out]at this;exact this)
 clear hrb HSM HSO HSE HSH;refine wp_region_held_drew (S:=fun w'=>w'.cell? ⟨w1.heap.size,0,none⟩=some (.int .i64 u.k)∧w'.cell? ⟨w1.heap.size,1,none⟩=some (.int .i64 u.n)∧w'.cell? ⟨w1.heap.size,2,none⟩=some (.slice B1 u.l.length d1)∧w'.cell? ⟨w.heap.size,12,none⟩=some (.int .i64 x.v)) (by kernel_rfl) ?_ (fun hHeld=> ?_)
 ·exact HK.out _ hbk.out
 refine tkp [0,1,2,3,4,5] ?_;iterate 6 (refine tkr (HK.out _ hbk.out) ?_;simp only[Act.put,setIfInBounds_toArray,set_cons_zero,set_cons_succ])
 refine tke ?_;refine wpAnyH_ready (rs:=[6]) (by kernel_rfl) (by simp) ?_;refine AllReadyH.cons (o:=({dst:=some 53,op:=Op.call {callee:=Callee.value (Operand.func 176),args:= #[Operand.tmp 52],argTypes:= #[3]},type:=25,pos:= "sign.go:202",after:= #[{on:=5,ground:=Ground.data},{on:=2,ground:=Ground.chain},{on:=2,ground:=Ground.guard}],guard:=some (2,false)}:Oper)) rfl (fun K hK=> ?_) AllReadyH.nil;go_simp;refine(CC.out _).mono ?_;rintro e w3 ⟨rfl,hbn⟩;have hbk:=hid (trS9 hbk hbn);clear hbn;try (dsimp only)
 try go_wp2_with fail
 refine hK.out _ _ (HK.out _ hbk.out) (fun hHeld=> ?_);clear hK K;try simp only[Act.put,setIfInBounds_toArray,set_cons_zero,set_cons_succ]
 refine wpAnyH_ready (rs:=[7]) (by kernel_rfl) (by simp) ?_;refine AllReadyH.cons (o:=({dst:=some 54,op:=Op.call {callee:=Callee.value (Operand.func 191),args:= #[Operand.tmp 50,Operand.tmp 53],argTypes:= #[25,25]},type:=4,pos:= "sign.go:202",after:= #[{on:=3,ground:=Ground.data},{on:=6,ground:=Ground.data},{on:=6,ground:=Ground.chain},{on:=2,ground:=Ground.guard}],guard:=some (2,false)}:Oper)) rfl (fun K hK=> ?_) AllReadyH.nil;go_simp;refine(CS2.out _ hbk.out).mono ?_;rintro e w4 ⟨rfl,hbn⟩;have hbk:=hid (trS9 hbk hbn);clear hbn;try (dsimp only)
 try go_wp2_with fail
 refine hK.out _ _ (HK.out _ hbk.out) (fun hHeld=> ?_);clear hK K;try simp only[Act.put,setIfInBounds_toArray,set_cons_zero,set_cons_succ]
 refine tkp [8,9] ?_;iterate 2 (refine tkr (HK.out _ hbk.out) ?_;simp only[Act.put,setIfInBounds_toArray,set_cons_zero,set_cons_succ])
 refine tke ?_;refine wpAnyH_done (by kernel_rfl) ?_ _;have HBY:=hid (trS9 HBX hbk.out);obtain⟨-, -, -, -, -, -, -, -, -, -, -, -, -,c13,c14⟩:=HBOX.out _ hbk.out;have hsz4:w.heap.size<w4.heap.size:=by have:=hbk.out.size;have:=HXS.out;omega
 cases rb with
 | false=>
  obtain rfl:z=false:=by rw[←HZ3.out];rfl
  go_wp2_with fail;go_ret;exact⟨rfl,HBY.out⟩
 | true=>
 have HZ4:Hid ((bc && (decide (x.d.length=0)||rr))=z):=HZ3;go_wp2_with fail;refine(HBE.out _ HBY.out).mono ?_;rintro e w5 ⟨rfl,rfl⟩;cases bc with
 | false=>
  obtain rfl:z=false:=by rw[←HZ4.out];rfl
  go_wp2_with fail;go_ret;exact⟨rfl,HBY.out⟩
 | true=>
 have HR:=hid (HRC.out HAA.out rfl _ HBY.out);by_cases h5:x.d.length=0
 ·have t5:((x.d.length:Int)==0)=true:=by simpa using h5
  obtain rfl:z=true:=by rw[←HZ4.out,dtS9 h5];rfl
  clear h5;go_wp2_with fail;go_ret;exact⟨rfl,HBY.out⟩
 ·have t5:((x.d.length:Int)==0)=false:=by simpa using h5
  obtain rfl:rr=z:=by rw[←HZ4.out,dfS9 h5];rfl
  clear h5;go_wp2_with fail;refine HR.out.mono ?_;rintro e w6 ⟨rfl,hb6⟩;go_wp2_with fail;go_ret;exact⟨rfl,trS9 HBY hb6⟩
theorem isB_take {l:List ET} {i:Nat} {n k:Int} (h:isB (l.take i) n k=true):∃j:Nat,n=(j:Int)∧j<i∧∃hj:j<l.length,l[j].k=k:=by
 obtain⟨m,rfl,hm,hk⟩:=isB_true h;rw[List.length_take]at hm;rw[List.getElem_take]at hk;exact⟨m,rfl,by omega,by omega,hk⟩
theorem famAt_nat {l:List ET} {x:ET} {j:Nat} (hf:x.f=(j:Int)) (hj:j<l.length):famAt l x=some l[j]:=by
 unfold famAt;rw[if_pos (by omega),hf,Int.toNat_natCast,List.getElem?_eq_getElem hj]
theorem con_any (l:List ET) (A:Option Addr) (cap i:Nat) (hi:i<l.length) (lo hh:Nat) (w:World) (hl:l.length≤600) (hlc:l.length≤cap) (hn:EntsAt w lo hh A l) (hhh:hh≤w.heap.size) (hS:ShapesM w)
    (hfo:FamOk l i) (hsh:shapedB l[i].t=true):
    Calls prog 188 #[.slice A l.length cap,.int .i64 i] w fun e w'=>e= .returned (.bool (conB l i l[i]))∧Below w.heap.size w w':=by
  obtain⟨b,o,p,hA,hb1,hb2,hx,hent⟩:=hn i hi;have HN:=hid hn;have HFO:=hid hfo;have HIS0:=hid (fun(n:Int) V (hV:Below w.heap.size w V)=>isOf_any (l.take i) A cap lo hh n 1 V (by rw[List.length_take];unfold maxLen;omega) ((hn.kept hV hhh).take i));have HLT:=hid (show(l.take i).length=i by rw[List.length_take];omega);have HND:=hid (fun(j:Nat) (hj:j<l.length) (t:TM) (T:Option Addr) (tc bs lo' hi':Nat) (V:World) (hV:Below w.heap.size w V) h1 h2 h3 h4 h5 h6 h7 h8=>ind_any l A cap j hj t T tc bs lo hh lo' hi' V hl (hn.kept hV hhh) (by have:=hV.size;omega) h1 h2 (hS.kept hV) h3 h4 h5 h6 h7 h8);have HLL:=hid hl;obtain⟨z,hz⟩:∃z,conB l i l[i]=z:=⟨_,rfl⟩;rw[hz];unfold conB at hz;obtain⟨x,hxx⟩:∃x,l[i]=x:=⟨_,rfl⟩;rw[hxx]at hx hent hz hsh;obtain⟨x0,x1,x2,x3,x4,x5,x6,x7,x8,x9,x10,x11,x12,x13,x14⟩:=hx;subst hA;have hbw:b<w.heap.size:=by omega
  have hi0':(i:Int)<(l.length:Int):=by omega
  have hi1:(i:Int)<600:=by omega
  have HZ:=hid hz;have HB1:=hid (show Below w.heap.size w (w.alloc (.cells (entC x p) 43))from(Below.refl _ _).alloc lrS9 _);have KB:=hid (fun V (hV:Below (w.alloc (.cells (entC x p) 43)).heap.size (w.alloc (.cells (entC x p) 43)) V)=>(show BoxE V w.heap.size x p from((Bk.new w 43 (entC x p)).below hV (by simp)).boxE));have HENT:=hid (fun V (hV:Below w.heap.size w V)=>hent.kept hV hhh);have HSS:=hid (fun V (hV:Below w.heap.size w V)=>hS.kept hV);have HSH:=hid hsh;have hra:=hent.ra;have hlc':(l.length:Int)≤(cap:Int):=by omega
  have hic:(i:Int)≤(cap:Int):=by omega
  have HIS:Hid (∀(V:World),Below w.heap.size w V→Calls prog 136 #[.slice (some ⟨b,o,none⟩) i cap,.int .i64 x.f,.int .i64 1] V fun e w'=>e= .returned (.bool (isB (l.take i) x.f 1))∧V=w'):=hid (fun V hV=>by
    have:=HIS0.out x.f V hV;rw[HLT.out]at this;exact this)
  clear hz hxx hent hn hS hl hb1 hb2 hfo hsh hlc HIS0;obtain⟨X,hX⟩:∃X,w.alloc (.cells (entC x p) 43)=X:=⟨_,rfl⟩;rw[hX]at HB1 KB;have HBX:=hid HB1.out;have HXS:=hid (show w.heap.size<X.heap.size from by rw[←hX];simp);have hbk:=hid ((Below.refl X.heap.size X).drew);have HKA:=hid (fun V (hV:Below X.heap.size X V)=>(KB.out V hV).c8);unfold entC at hX;obtain⟨rb,hrb⟩:∃r,isB (l.take i) x.f 1=r:=⟨_,rfl⟩;rw[hrb]at HIS;have CIS:=hid (fun V (hV:Below X.heap.size X V)=>HIS.out V (trS9 HBX hV));cases rb with
  | false=>
    obtain rfl:z=false:=by rw[←HZ.out,hrb];rfl
    clear hrb;go_enter func188,ntmps188;go_wp2_with fail;clear hX;refine wp_region_held_drew (S:=fun w'=>w'.cell? ⟨w.heap.size,8,none⟩=some (.int .i64 x.f)) (by kernel_rfl) ?_ (fun hHeld=> ?_)
    · exact HKA.out _ hbk.out
    refine tkp [0,1,2,3,4] ?_;iterate 5 (refine tkr (HKA.out _ hbk.out) ?_;simp only[Act.put,setIfInBounds_toArray,set_cons_zero,set_cons_succ])
    refine tke ?_;refine wpAnyH_ready (rs:=[5]) (by kernel_rfl) (by simp) ?_;refine AllReadyH.cons (o:=({dst:=some 20,op:=Op.call {callee:=Callee.value (Operand.func 136),args:= #[Operand.tmp 17,Operand.tmp 19,Operand.const (.int .i64 1)],argTypes:= #[22,3,3]},type:=4,pos:= "sign.go:231",after:= #[{on:=2,ground:=Ground.data},{on:=4,ground:=Ground.data}],guard:=none}:Oper)) rfl (fun K hK=> ?_) AllReadyH.nil;go_simp;refine(CIS.out _ hbk.out).mono ?_;rintro e w3 ⟨rfl,rfl⟩;try (dsimp only)
    try go_wp2_with fail
    refine hK.out _ _ (HKA.out _ hbk.out) (fun hHeld=> ?_);clear hK K;try simp only[Act.put,setIfInBounds_toArray,set_cons_zero,set_cons_succ]
    refine tkp [6,7] ?_;iterate 2 (refine tkr (HKA.out _ hbk.out) ?_;simp only[Act.put,setIfInBounds_toArray,set_cons_zero,set_cons_succ])
    refine tke ?_;refine tko (by kernel_rfl) (fun _ _ _ _ h=>h) (HKA.out _ hbk.out) [(8,23),(9,24),(10,25),(11,26),(12,27),(13,28),(14,29),(15,30),(16,31)] 9 rfl _ _ (by kernel_rfl) ?_;simp only[offA,offL,Act.put,setIfInBounds_toArray,set_cons_zero,set_cons_succ];refine tkp [17,18] ?_;iterate 2 (refine tkr (HKA.out _ hbk.out) ?_;simp only[Act.put,setIfInBounds_toArray,set_cons_zero,set_cons_succ])
    refine tke ?_;refine tko (by kernel_rfl) (fun _ _ _ _ h=>h) (HKA.out _ hbk.out) [(19,34),(20,35),(21,36),(22,37),(23,38),(24,39),(25,40),(26,41),(27,42)] 9 rfl _ _ (by kernel_rfl) ?_;simp only[offA,offL,Act.put,setIfInBounds_toArray,set_cons_zero,set_cons_succ];refine tkp [28] ?_;iterate 1 (refine tkr (HKA.out _ hbk.out) ?_;simp only[Act.put,setIfInBounds_toArray,set_cons_zero,set_cons_succ])
    refine tke ?_;refine wpAnyH_done (by kernel_rfl) ?_ _;go_wp2_with fail;go_ret;exact⟨rfl,trS9 HBX hbk.out⟩
  | true=>
  obtain⟨j,hf,hji,hj,hjk⟩:=isB_take hrb;have hfo:=HFO.out j hj hji hjk;obtain⟨b',o',q,hA', -,hbh,hy,henty⟩:=HN.out j hj;obtain⟨rfl,rfl⟩:b=b'∧o=o':=by
    injection hA' with r;injection r with r1 r2;exact⟨r1,r2⟩
  have hz2:=HZ.out;rw[hrb,famAt_nat hf hj,Bool.true_and]at hz2;have CCO0:=hid (fun V (hV:Below w.heap.size w V)=>contains_any l[j].c (i:Int) q.C q.cc lo hh V (Nat.le_trans henty.lc henty.mc) ((henty.hc).kept hV hhh));have CIN:=hid (fun(t:TM) (T:Option Addr) (tc bs lo' hi':Nat) (V:World) (hV:Below w.heap.size w V) h1 h2 h4 h7 h8=>HND.out j hj t T tc bs lo' hi' V hV h1 h2 h4 hfo.1 hfo.2.1 hfo.2.2 h7 h8);obtain⟨y,hyy⟩:∃y,l[j]=y:=⟨_,rfl⟩;rw[hyy]at hy hz2 CCO0 CIN hfo;have HKB:=hid (fun V (hV:Below X.heap.size X V)=>(show V.cell? ⟨w.heap.size,8,none⟩=some (.int .i64 j)∧V.cell? ⟨w.heap.size,10,none⟩=some (.int .i64 x.a)∧V.cell? ⟨b,o+j*15+13,none⟩=some (.slice q.C y.c.length q.cc)∧V.cell? ⟨b,o+j*15+10,none⟩=some (.int .i64 y.a)from
    ⟨by rw[(KB.out V hV).c8,hf],(KB.out V hV).c10,(hy.kept (trS9 HBX hV) hbw).c13,(hy.kept (trS9 HBX hV) hbw).c10⟩))
  obtain⟨rc,hrc⟩:∃r,y.c.contains (i:Int)=r:=⟨_,rfl⟩;dsimp only at hz2
  rw[hrc]at CCO0 hz2;have CCO:=hid (fun V (hV:Below X.heap.size X V)=>CCO0.out V (trS9 HBX hV));rw[hf]at CIS;have HF:=hid hf;have HZ2:Hid ((rc && (decide (x.a=y.a) && (decide (pisN x.t≤24) && (decide (x.a≤(pisN x.t:Int)) && appB (benT x.t) x.f x.a.toNat y.i.toNat (pisN x.t)))))=z):=hid hz2;have HFY:=hid hfo;have hj0:(j:Int)<(l.length:Int):=by omega
  have hj1:(j:Int)<600:=by omega
  clear hrb hz2 hrc henty hA' hy hyy hfo hjk hf HZ HIS HKA;cases rc with
  | false=>
    obtain rfl:z=false:=by rw[←HZ2.out];rfl
    go_enter func188,ntmps188;go_wp2_with fail;clear hX;refine wp_region_held_drew (S:=fun w'=>w'.cell? ⟨w.heap.size,8,none⟩=some (.int .i64 j)∧w'.cell? ⟨w.heap.size,10,none⟩=some (.int .i64 x.a)∧w'.cell? ⟨b,o+j*15+13,none⟩=some (.slice q.C y.c.length q.cc)∧w'.cell? ⟨b,o+j*15+10,none⟩=some (.int .i64 y.a)) (by kernel_rfl) ?_ (fun hHeld=> ?_)
    · exact HKB.out _ hbk.out
    refine tkp [0,1,2,3,4] ?_;iterate 5 (refine tkr (HKB.out _ hbk.out) ?_;simp only[Act.put,setIfInBounds_toArray,set_cons_zero,set_cons_succ])
    refine tke ?_;refine wpAnyH_ready (rs:=[5]) (by kernel_rfl) (by simp) ?_;refine AllReadyH.cons (o:=({dst:=some 20,op:=Op.call {callee:=Callee.value (Operand.func 136),args:= #[Operand.tmp 17,Operand.tmp 19,Operand.const (.int .i64 1)],argTypes:= #[22,3,3]},type:=4,pos:= "sign.go:231",after:= #[{on:=2,ground:=Ground.data},{on:=4,ground:=Ground.data}],guard:=none}:Oper)) rfl (fun K hK=> ?_) AllReadyH.nil;go_simp;refine(CIS.out _ hbk.out).mono ?_;rintro e w3 ⟨rfl,rfl⟩;try (dsimp only)
    try go_wp2_with fail
    refine hK.out _ _ (HKB.out _ hbk.out) (fun hHeld=> ?_);clear hK K;try simp only[Act.put,setIfInBounds_toArray,set_cons_zero,set_cons_succ]
    refine tkp [6,7,8,9,10,11,12,13,14] ?_;iterate 9 (refine tkr (HKB.out _ hbk.out) ?_;simp only[Act.put,setIfInBounds_toArray,set_cons_zero,set_cons_succ])
    refine tke ?_;refine wpAnyH_ready (rs:=[15]) (by kernel_rfl) (by simp) ?_;refine AllReadyH.cons (o:=({dst:=some 30,op:=Op.call {callee:=Callee.value (Operand.func 209),args:= #[Operand.tmp 28,Operand.tmp 29],argTypes:= #[41,3]},type:=4,pos:= "sign.go:231",after:= #[{on:=13,ground:=Ground.data},{on:=14,ground:=Ground.data},{on:=7,ground:=Ground.chain},{on:=7,ground:=Ground.guard}],guard:=some (7,false)}:Oper)) rfl (fun K hK=> ?_) AllReadyH.nil;go_simp;refine(CCO.out _ hbk.out).mono ?_;rintro e w4 ⟨rfl,rfl⟩;try (dsimp only)
    try go_wp2_with fail
    refine hK.out _ _ (HKB.out _ hbk.out) (fun hHeld=> ?_);clear hK K;try simp only[Act.put,setIfInBounds_toArray,set_cons_zero,set_cons_succ]
    refine tkp [16,17,18] ?_;iterate 3 (refine tkr (HKB.out _ hbk.out) ?_;simp only[Act.put,setIfInBounds_toArray,set_cons_zero,set_cons_succ])
    refine tke ?_;refine tko (by kernel_rfl) (fun _ _ _ _ h=>h) (HKB.out _ hbk.out) [(19,34),(20,35),(21,36),(22,37),(23,38),(24,39),(25,40),(26,41),(27,42)] 9 rfl _ _ (by kernel_rfl) ?_;simp only[offA,offL,Act.put,setIfInBounds_toArray,set_cons_zero,set_cons_succ];refine tkp [28] ?_;iterate 1 (refine tkr (HKB.out _ hbk.out) ?_;simp only[Act.put,setIfInBounds_toArray,set_cons_zero,set_cons_succ])
    refine tke ?_;refine wpAnyH_done (by kernel_rfl) ?_ _;go_wp2_with fail;go_ret;exact⟨rfl,trS9 HBX hbk.out⟩
  | true=>
  rw[Bool.true_and]at HZ2;by_cases hpa:x.a=y.a
  case neg=>
    have t0:(x.a !=y.a)=true:=by simpa using hpa
    obtain rfl:z=false:=by rw[←HZ2.out,dfS9 hpa];rfl
    clear hpa;go_enter func188,ntmps188;go_wp2_with fail;clear hX;refine wp_region_held_drew (S:=fun w'=>w'.cell? ⟨w.heap.size,8,none⟩=some (.int .i64 j)∧w'.cell? ⟨w.heap.size,10,none⟩=some (.int .i64 x.a)∧w'.cell? ⟨b,o+j*15+13,none⟩=some (.slice q.C y.c.length q.cc)∧w'.cell? ⟨b,o+j*15+10,none⟩=some (.int .i64 y.a)) (by kernel_rfl) ?_ (fun hHeld=> ?_)
    · exact HKB.out _ hbk.out
    refine tkp [0,1,2,3,4] ?_;iterate 5 (refine tkr (HKB.out _ hbk.out) ?_;simp only[Act.put,setIfInBounds_toArray,set_cons_zero,set_cons_succ])
    refine tke ?_;refine wpAnyH_ready (rs:=[5]) (by kernel_rfl) (by simp) ?_;refine AllReadyH.cons (o:=({dst:=some 20,op:=Op.call {callee:=Callee.value (Operand.func 136),args:= #[Operand.tmp 17,Operand.tmp 19,Operand.const (.int .i64 1)],argTypes:= #[22,3,3]},type:=4,pos:= "sign.go:231",after:= #[{on:=2,ground:=Ground.data},{on:=4,ground:=Ground.data}],guard:=none}:Oper)) rfl (fun K hK=> ?_) AllReadyH.nil;go_simp;refine(CIS.out _ hbk.out).mono ?_;rintro e w3 ⟨rfl,rfl⟩;try (dsimp only)
    try go_wp2_with fail
    refine hK.out _ _ (HKB.out _ hbk.out) (fun hHeld=> ?_);clear hK K;try simp only[Act.put,setIfInBounds_toArray,set_cons_zero,set_cons_succ]
    refine tkp [6,7,8,9,10,11,12,13,14] ?_;iterate 9 (refine tkr (HKB.out _ hbk.out) ?_;simp only[Act.put,setIfInBounds_toArray,set_cons_zero,set_cons_succ])
    refine tke ?_;refine wpAnyH_ready (rs:=[15]) (by kernel_rfl) (by simp) ?_;refine AllReadyH.cons (o:=({dst:=some 30,op:=Op.call {callee:=Callee.value (Operand.func 209),args:= #[Operand.tmp 28,Operand.tmp 29],argTypes:= #[41,3]},type:=4,pos:= "sign.go:231",after:= #[{on:=13,ground:=Ground.data},{on:=14,ground:=Ground.data},{on:=7,ground:=Ground.chain},{on:=7,ground:=Ground.guard}],guard:=some (7,false)}:Oper)) rfl (fun K hK=> ?_) AllReadyH.nil;go_simp;refine(CCO.out _ hbk.out).mono ?_;rintro e w4 ⟨rfl,rfl⟩;try (dsimp only)
    try go_wp2_with fail
    refine hK.out _ _ (HKB.out _ hbk.out) (fun hHeld=> ?_);clear hK K;try simp only[Act.put,setIfInBounds_toArray,set_cons_zero,set_cons_succ]
    refine tkp [16,17,18,19,20,21,22,23,24,25,26,27,28] ?_;iterate 13 (refine tkr (HKB.out _ hbk.out) ?_;simp only[Act.put,setIfInBounds_toArray,set_cons_zero,set_cons_succ])
    refine tke ?_;refine wpAnyH_done (by kernel_rfl) ?_ _;go_wp2_with fail;go_ret;exact⟨rfl,trS9 HBX hbk.out⟩
  have t0:(x.a !=y.a)=false:=by simpa using hpa
  obtain⟨ps,hps⟩:∃n:Nat,x.a=(n:Int):=⟨x.a.toNat,by have:=HFY.out;omega⟩;have hps24:(ps:Int)≤24:=by have:=HFY.out;omega
  have HZ3:Hid ((decide (pisN x.t≤24) && (decide (ps≤pisN x.t) && appB (benT x.t) (j:Int) y.a.toNat y.i.toNat (pisN x.t)))=z):=hid (by
    have:=HZ2.out;rw[dtS9 hpa,HF.out,Bool.true_and,hps]at this;rw[←hpa,hps,←this];have e:decide (ps≤pisN x.t)=decide ((ps:Int)≤(pisN x.t:Int)):=by congr 1;apply propext;omega
    rw[e,←hps])
  have HPY:=hid (show y.a=(ps:Int)by rw[←hpa,hps]);have HPS:=hid hps;clear HZ2 hpa hps;go_enter func188,ntmps188;go_wp2_with fail;clear hX;refine wp_region_held_drew (S:=fun w'=>w'.cell? ⟨w.heap.size,8,none⟩=some (.int .i64 j)∧w'.cell? ⟨w.heap.size,10,none⟩=some (.int .i64 x.a)∧w'.cell? ⟨b,o+j*15+13,none⟩=some (.slice q.C y.c.length q.cc)∧w'.cell? ⟨b,o+j*15+10,none⟩=some (.int .i64 y.a)) (by kernel_rfl) ?_ (fun hHeld=> ?_)
  · exact HKB.out _ hbk.out
  refine tkp [0,1,2,3,4] ?_;iterate 5 (refine tkr (HKB.out _ hbk.out) ?_;simp only[Act.put,setIfInBounds_toArray,set_cons_zero,set_cons_succ])
  refine tke ?_;refine wpAnyH_ready (rs:=[5]) (by kernel_rfl) (by simp) ?_;refine AllReadyH.cons (o:=({dst:=some 20,op:=Op.call {callee:=Callee.value (Operand.func 136),args:= #[Operand.tmp 17,Operand.tmp 19,Operand.const (.int .i64 1)],argTypes:= #[22,3,3]},type:=4,pos:= "sign.go:231",after:= #[{on:=2,ground:=Ground.data},{on:=4,ground:=Ground.data}],guard:=none}:Oper)) rfl (fun K hK=> ?_) AllReadyH.nil;go_simp;refine(CIS.out _ hbk.out).mono ?_;rintro e w3 ⟨rfl,rfl⟩;try (dsimp only)
  try go_wp2_with fail
  refine hK.out _ _ (HKB.out _ hbk.out) (fun hHeld=> ?_);clear hK K;try simp only[Act.put,setIfInBounds_toArray,set_cons_zero,set_cons_succ]
  refine tkp [6,7,8,9,10,11,12,13,14] ?_;iterate 9 (refine tkr (HKB.out _ hbk.out) ?_;simp only[Act.put,setIfInBounds_toArray,set_cons_zero,set_cons_succ])
  refine tke ?_;refine wpAnyH_ready (rs:=[15]) (by kernel_rfl) (by simp) ?_;refine AllReadyH.cons (o:=({dst:=some 30,op:=Op.call {callee:=Callee.value (Operand.func 209),args:= #[Operand.tmp 28,Operand.tmp 29],argTypes:= #[41,3]},type:=4,pos:= "sign.go:231",after:= #[{on:=13,ground:=Ground.data},{on:=14,ground:=Ground.data},{on:=7,ground:=Ground.chain},{on:=7,ground:=Ground.guard}],guard:=some (7,false)}:Oper)) rfl (fun K hK=> ?_) AllReadyH.nil;go_simp;refine(CCO.out _ hbk.out).mono ?_;rintro e w4 ⟨rfl,rfl⟩;try (dsimp only)
  try go_wp2_with fail
  refine hK.out _ _ (HKB.out _ hbk.out) (fun hHeld=> ?_);clear hK K;try simp only[Act.put,setIfInBounds_toArray,set_cons_zero,set_cons_succ]
  refine tkp [16,17,18,19,20,21,22,23,24,25,26,27,28] ?_;iterate 13 (refine tkr (HKB.out _ hbk.out) ?_;simp only[Act.put,setIfInBounds_toArray,set_cons_zero,set_cons_succ])
  refine tke ?_;refine wpAnyH_done (by kernel_rfl) ?_ _;have CW:=hid (fun V (hV:Below w.heap.size w V)=>whole_any x.t p.T p.tc V (((HENT.out V hV).ht).wide (Nat.zero_le _) (by have:=hV.size;omega)) (HSS.out V hV));unfold GivesS termV at CW;obtain⟨-, -,c2,c3,c4, -, -, -,c8, -,c10, -, -, -, -⟩:=KB.out _ hbk.out;have HBY:=hid (trS9 HBX hbk.out);have HWC:=hid (whole_cases x.t);have HTF:=hid (tel_facts HSH.out);obtain⟨R,hR⟩:∃R,wholeX x.t=R:=⟨_,rfl⟩;rw[hR]at CW HWC;clear hR CIS CCO HKB;go_wp2_with fail;refine(CW.out _ HBY.out).mono ?_;rintro e w5 ⟨A1,c1,B1,d1,rfl, -,hru,hb5⟩;have HB5:=hid (trS9 HBY hb5);have HBK5:=hid (trS9 hbk hb5);have HRU:=hid hru;clear hb5 hru CW c2 c3 c4 c8 c10;obtain⟨-, -, -, -, -, -, -, -,c8, -,c10, -, -, -, -⟩:=KB.out _ HBK5.out;rw[HF.out]at c8;rw[HPS.out]at c10;have hsz5:w.heap.size<w5.heap.size:=by have:=HBK5.out.size;have:=HXS.out;omega
  have HB5A:=hid (fun o=>HB5.out.alloc HB5.out.size o);rcases HWC.out with ⟨hs,h24,hR⟩|⟨hno,c,hR,hc⟩
  · subst hR;simp only at HRU;have hlt:=HTF.out.1;obtain⟨ts,hts⟩:∃ts,telT x.t=ts:=⟨_,rfl⟩;obtain⟨u,hu⟩:∃u,benT x.t=u:=⟨_,rfl⟩;have HUS:=hid (show shapedB u=true from by rw[←hu];exact HTF.out.2.2.1);have HZ4:Hid ((decide (ps≤ts.length) && appB u (j:Int) y.a.toNat y.i.toNat ts.length)=z):=hid (by
      have:=HZ3.out;rw[dtS9 h24,←hlt,hts,hu]at this;simpa using this)
    have htl:(ts.length:Int)≤24:=by rw[←hts,hlt];omega
    rw[hts];rw[hu]at HRU⊢;clear hlt hs h24 hts hu HWC HTF HZ3;by_cases hpt:ps≤ts.length
    case neg=>
      have t5:decide ((ts.length:Int)<(ps:Int))=true:=dtS9 (by omega);have t5':decide (ts.length<ps)=true:=dtS9 (by omega);have t5'':ts.length<ps:=by omega
      obtain rfl:z=false:=by rw[←HZ4.out,dfS9 hpt];rfl
      clear hpt;go_wp2_with fail;go_ret;exact⟨rfl,HB5A.out _⟩
    have t5:decide ((ts.length:Int)<(ps:Int))=false:=dfS9 (by omega);have t5':decide (ts.length<ps)=false:=dfS9 (by omega);have t5'': ¬ ts.length<ps:=by omega
    have HZ5:Hid (appB u (j:Int) y.a.toNat y.i.toNat ts.length=z):=hid (by have:=HZ4.out;rw[dtS9 hpt,Bool.true_and]at this;exact this);obtain⟨Y,hY⟩:∃Y,w5.alloc (.cells #[.int .i64 u.k,.int .i64 u.n,.slice B1 u.l.length d1] 25)=Y:=⟨_,rfl⟩;have HWY:=hid (show Below w5.heap.size w5 Y from by rw[←hY];exact(Below.refl _ _).alloc lrS9 _);have HKY:=hid (show Bk Y w5.heap.size 25 #[.int .i64 u.k,.int .i64 u.n,.slice B1 u.l.length d1]from by rw[←hY];exact Bk.new w5 _ _);have HBYY:=hid (trS9 HB5 HWY.out);obtain⟨-, -, -, -, -, -, -, -,c8y, -,c10y, -, -, -, -⟩:=KB.out Y (trS9 HBK5 HWY.out);rw[HF.out]at c8y;rw[HPS.out]at c10y;have y0:=HKY.out.cell 0;have y1:=HKY.out.cell 1;have y2:=HKY.out.cell 2;have hyl:=HKY.out.lt;change Y.cell? ⟨w5.heap.size,0,none⟩=some (.int .i64 u.k)at y0
    change Y.cell? ⟨w5.heap.size,1,none⟩=some (.int .i64 u.n)at y1
    change Y.cell? ⟨w5.heap.size,2,none⟩=some (.slice B1 u.l.length d1)at y2
    have CI2:=hid (CIN.out u B1 d1 ts.length w.heap.size w5.heap.size Y HBYY.out
      (IsTerm.kept (lo:=w.heap.size) (hi:=w5.heap.size) (HRU.out.imp (fun _ _ _=>rfl) (fun b hb=>⟨by have:=hb.1;have:=HBY.out.size;omega,hb.2⟩)) HWY.out lrS9) (by omega) HUS.out (by rw[HPY.out];omega) (by omega))
    rw[HZ5.out]at CI2;unfold termV IndIs at CI2;clear hpt HZ5 HZ4 HKY HRU CIN HND;go_wp2_with fail;clear hY;refine CI2.out.mono ?_;rintro e w6 ⟨A7,n7,c7,rfl, -,hb6⟩;go_wp2_with fail;go_ret;exact⟨rfl,trS9 HBYY hb6⟩
  · subst hR;obtain rfl:z=false:=by
      rw[←HZ3.out];rw[HSH.out,Bool.true_and]at hno;rw[hno];rfl
    have tc:(c !=0)=true:=by rcases hc with rfl|rfl<;>rfl
    clear hno hc HZ3 HWC;go_wp2_with fail;go_ret;exact⟨rfl,HB5A.out _⟩
theorem fld_any (l:List ET) (A:Option Addr) (cap i:Nat) (hi:i<l.length) (lo hh:Nat) (w:World) (hl:l.length≤600) (hlc:l.length≤cap) (hn:EntsAt w lo hh A l) (hhh:hh≤w.heap.size) (hS:ShapesM w)
    (hfo:FamOk l i) (hsh:shapedB l[i].t=true):
    Calls prog 189 #[.slice A l.length cap,.int .i64 i] w fun e w'=>e= .returned (.bool (fldB l i l[i]))∧Below w.heap.size w w':=by
  obtain⟨b,o,p,hA,hb1,hb2,hx,hent⟩:=hn i hi;have HN:=hid hn;have HFO:=hid hfo;have HIS0:=hid (fun(n:Int) V (hV:Below w.heap.size w V)=>isOf_any (l.take i) A cap lo hh n 1 V (by rw[List.length_take];unfold maxLen;omega) ((hn.kept hV hhh).take i));have HLT:=hid (show(l.take i).length=i by rw[List.length_take];omega);have HND:=hid (fun(j:Nat) (hj:j<l.length) (t:TM) (T:Option Addr) (tc bs lo' hi':Nat) (V:World) (hV:Below w.heap.size w V) h1 h2 h3 h4 h5 h6 h7 h8=>ind_any l A cap j hj t T tc bs lo hh lo' hi' V hl (hn.kept hV hhh) (by have:=hV.size;omega) h1 h2 (hS.kept hV) h3 h4 h5 h6 h7 h8);have HLL:=hid hl;obtain⟨z,hz⟩:∃z,fldB l i l[i]=z:=⟨_,rfl⟩;rw[hz];unfold fldB at hz;obtain⟨x,hxx⟩:∃x,l[i]=x:=⟨_,rfl⟩;rw[hxx]at hx hent hz hsh;obtain⟨x0,x1,x2,x3,x4,x5,x6,x7,x8,x9,x10,x11,x12,x13,x14⟩:=hx;subst hA;have hbw:b<w.heap.size:=by omega
  have hi0':(i:Int)<(l.length:Int):=by omega
  have hi1:(i:Int)<600:=by omega
  have HZ:=hid hz;have HB1:=hid (show Below w.heap.size w (w.alloc (.cells (entC x p) 43))from(Below.refl _ _).alloc lrS9 _);have KB:=hid (fun V (hV:Below (w.alloc (.cells (entC x p) 43)).heap.size (w.alloc (.cells (entC x p) 43)) V)=>(show BoxE V w.heap.size x p from((Bk.new w 43 (entC x p)).below hV (by simp)).boxE));have HENT:=hid (fun V (hV:Below w.heap.size w V)=>hent.kept hV hhh);have HSS:=hid (fun V (hV:Below w.heap.size w V)=>hS.kept hV);have HSH:=hid hsh;have hra:=hent.ra;have hlc':(l.length:Int)≤(cap:Int):=by omega
  have hic:(i:Int)≤(cap:Int):=by omega
  have HIS:Hid (∀(V:World),Below w.heap.size w V→Calls prog 136 #[.slice (some ⟨b,o,none⟩) i cap,.int .i64 x.f,.int .i64 1] V fun e w'=>e= .returned (.bool (isB (l.take i) x.f 1))∧V=w'):=hid (fun V hV=>by
    have:=HIS0.out x.f V hV;rw[HLT.out]at this;exact this)
  clear hz hxx hent hn hS hl hb1 hb2 hfo hsh hlc HIS0;obtain⟨X,hX⟩:∃X,w.alloc (.cells (entC x p) 43)=X:=⟨_,rfl⟩;rw[hX]at HB1 KB;have HBX:=hid HB1.out;have HXS:=hid (show w.heap.size<X.heap.size from by rw[←hX];simp);have hbk:=hid ((Below.refl X.heap.size X).drew);have HKA:=hid (fun V (hV:Below X.heap.size X V)=>(KB.out V hV).c8);unfold entC at hX;obtain⟨rb,hrb⟩:∃r,isB (l.take i) x.f 1=r:=⟨_,rfl⟩;rw[hrb]at HIS;have CIS:=hid (fun V (hV:Below X.heap.size X V)=>HIS.out V (trS9 HBX hV));cases rb with
  | false=>
    obtain rfl:z=false:=by rw[←HZ.out,hrb];rfl
    clear hrb;go_enter func189,ntmps189;go_wp2_with fail;clear hX;refine wp_region_held_drew (S:=fun w'=>w'.cell? ⟨w.heap.size,8,none⟩=some (.int .i64 x.f)) (by kernel_rfl) ?_ (fun hHeld=> ?_)
    · exact HKA.out _ hbk.out
    refine tkp [0,1,2,3,4] ?_;iterate 5 (refine tkr (HKA.out _ hbk.out) ?_;simp only[Act.put,setIfInBounds_toArray,set_cons_zero,set_cons_succ])
    refine tke ?_;refine wpAnyH_ready (rs:=[5]) (by kernel_rfl) (by simp) ?_;refine AllReadyH.cons (o:=({dst:=some 20,op:=Op.call {callee:=Callee.value (Operand.func 136),args:= #[Operand.tmp 17,Operand.tmp 19,Operand.const (.int .i64 1)],argTypes:= #[22,3,3]},type:=4,pos:= "sign.go:245",after:= #[{on:=2,ground:=Ground.data},{on:=4,ground:=Ground.data}],guard:=none}:Oper)) rfl (fun K hK=> ?_) AllReadyH.nil;go_simp;refine(CIS.out _ hbk.out).mono ?_;rintro e w3 ⟨rfl,rfl⟩;try (dsimp only)
    try go_wp2_with fail
    refine hK.out _ _ (HKA.out _ hbk.out) (fun hHeld=> ?_);clear hK K;try simp only[Act.put,setIfInBounds_toArray,set_cons_zero,set_cons_succ]
    refine tkp [6,7] ?_;iterate 2 (refine tkr (HKA.out _ hbk.out) ?_;simp only[Act.put,setIfInBounds_toArray,set_cons_zero,set_cons_succ])
    refine tke ?_;refine tko (by kernel_rfl) (fun _ _ _ _ h=>h) (HKA.out _ hbk.out) [(8,23),(9,24),(10,25),(11,26),(12,27),(13,28),(14,29),(15,30),(16,31)] 9 rfl _ _ (by kernel_rfl) ?_;simp only[offA,offL,Act.put,setIfInBounds_toArray,set_cons_zero,set_cons_succ];refine tkp [17,18] ?_;iterate 2 (refine tkr (HKA.out _ hbk.out) ?_;simp only[Act.put,setIfInBounds_toArray,set_cons_zero,set_cons_succ])
    refine tke ?_;refine tko (by kernel_rfl) (fun _ _ _ _ h=>h) (HKA.out _ hbk.out) [(19,34),(20,35),(21,36),(22,37),(23,38),(24,39),(25,40),(26,41),(27,42)] 9 rfl _ _ (by kernel_rfl) ?_;simp only[offA,offL,Act.put,setIfInBounds_toArray,set_cons_zero,set_cons_succ];refine tkp [28] ?_;iterate 1 (refine tkr (HKA.out _ hbk.out) ?_;simp only[Act.put,setIfInBounds_toArray,set_cons_zero,set_cons_succ])
    refine tke ?_;refine wpAnyH_done (by kernel_rfl) ?_ _;go_wp2_with fail;go_ret;exact⟨rfl,trS9 HBX hbk.out⟩
  | true=>
  obtain⟨j,hf,hji,hj,hjk⟩:=isB_take hrb;have hfo:=HFO.out j hj hji hjk;obtain⟨b',o',q,hA', -,hbh,hy,henty⟩:=HN.out j hj;obtain⟨rfl,rfl⟩:b=b'∧o=o':=by
    injection hA' with r;injection r with r1 r2;exact⟨r1,r2⟩
  have hz2:=HZ.out;rw[hrb,famAt_nat hf hj,Bool.true_and]at hz2;have CCO0:=hid (fun V (hV:Below w.heap.size w V)=>contains_any l[j].d (i:Int) q.D q.dc lo hh V (Nat.le_trans henty.ld henty.md) ((henty.hd).kept hV hhh));have CIN:=hid (fun(t:TM) (T:Option Addr) (tc bs lo' hi':Nat) (V:World) (hV:Below w.heap.size w V) h1 h2 h4 h7 h8=>HND.out j hj t T tc bs lo' hi' V hV h1 h2 h4 hfo.1 hfo.2.1 hfo.2.2 h7 h8);obtain⟨y,hyy⟩:∃y,l[j]=y:=⟨_,rfl⟩;rw[hyy]at hy hz2 CCO0 CIN hfo;have HKB:=hid (fun V (hV:Below X.heap.size X V)=>(show V.cell? ⟨w.heap.size,8,none⟩=some (.int .i64 j)∧V.cell? ⟨w.heap.size,10,none⟩=some (.int .i64 x.a)∧V.cell? ⟨b,o+j*15+14,none⟩=some (.slice q.D y.d.length q.dc)∧V.cell? ⟨b,o+j*15+10,none⟩=some (.int .i64 y.a)from
    ⟨by rw[(KB.out V hV).c8,hf],(KB.out V hV).c10,(hy.kept (trS9 HBX hV) hbw).c14,(hy.kept (trS9 HBX hV) hbw).c10⟩))
  obtain⟨rc,hrc⟩:∃r,y.d.contains (i:Int)=r:=⟨_,rfl⟩;dsimp only at hz2
  rw[hrc]at CCO0 hz2;have CCO:=hid (fun V (hV:Below X.heap.size X V)=>CCO0.out V (trS9 HBX hV));rw[hf]at CIS;have HF:=hid hf;have HZ2:Hid ((rc && (decide (x.a=y.a) && (decide (x.a+1≤24) && (decide (x.a+1≤(pisN x.t:Int)) && appB (fldT x) x.f x.a.toNat y.i.toNat x.a.toNat))))=z):=hid hz2;have HFY:=hid hfo;have hj0:(j:Int)<(l.length:Int):=by omega
  have hj1:(j:Int)<600:=by omega
  clear hrb hz2 hrc henty hA' hy hyy hfo hjk hf HZ HIS HKA;cases rc with
  | false=>
    obtain rfl:z=false:=by rw[←HZ2.out];rfl
    go_enter func189,ntmps189;go_wp2_with fail;clear hX;refine wp_region_held_drew (S:=fun w'=>w'.cell? ⟨w.heap.size,8,none⟩=some (.int .i64 j)∧w'.cell? ⟨w.heap.size,10,none⟩=some (.int .i64 x.a)∧w'.cell? ⟨b,o+j*15+14,none⟩=some (.slice q.D y.d.length q.dc)∧w'.cell? ⟨b,o+j*15+10,none⟩=some (.int .i64 y.a)) (by kernel_rfl) ?_ (fun hHeld=> ?_)
    · exact HKB.out _ hbk.out
    refine tkp [0,1,2,3,4] ?_;iterate 5 (refine tkr (HKB.out _ hbk.out) ?_;simp only[Act.put,setIfInBounds_toArray,set_cons_zero,set_cons_succ])
    refine tke ?_;refine wpAnyH_ready (rs:=[5]) (by kernel_rfl) (by simp) ?_;refine AllReadyH.cons (o:=({dst:=some 20,op:=Op.call {callee:=Callee.value (Operand.func 136),args:= #[Operand.tmp 17,Operand.tmp 19,Operand.const (.int .i64 1)],argTypes:= #[22,3,3]},type:=4,pos:= "sign.go:245",after:= #[{on:=2,ground:=Ground.data},{on:=4,ground:=Ground.data}],guard:=none}:Oper)) rfl (fun K hK=> ?_) AllReadyH.nil;go_simp;refine(CIS.out _ hbk.out).mono ?_;rintro e w3 ⟨rfl,rfl⟩;try (dsimp only)
    try go_wp2_with fail
    refine hK.out _ _ (HKB.out _ hbk.out) (fun hHeld=> ?_);clear hK K;try simp only[Act.put,setIfInBounds_toArray,set_cons_zero,set_cons_succ]
    refine tkp [6,7,8,9,10,11,12,13,14] ?_;iterate 9 (refine tkr (HKB.out _ hbk.out) ?_;simp only[Act.put,setIfInBounds_toArray,set_cons_zero,set_cons_succ])
    refine tke ?_;refine wpAnyH_ready (rs:=[15]) (by kernel_rfl) (by simp) ?_;refine AllReadyH.cons (o:=({dst:=some 30,op:=Op.call {callee:=Callee.value (Operand.func 209),args:= #[Operand.tmp 28,Operand.tmp 29],argTypes:= #[41,3]},type:=4,pos:= "sign.go:245",after:= #[{on:=13,ground:=Ground.data},{on:=14,ground:=Ground.data},{on:=7,ground:=Ground.chain},{on:=7,ground:=Ground.guard}],guard:=some (7,false)}:Oper)) rfl (fun K hK=> ?_) AllReadyH.nil;go_simp;refine(CCO.out _ hbk.out).mono ?_;rintro e w4 ⟨rfl,rfl⟩;try (dsimp only)
    try go_wp2_with fail
    refine hK.out _ _ (HKB.out _ hbk.out) (fun hHeld=> ?_);clear hK K;try simp only[Act.put,setIfInBounds_toArray,set_cons_zero,set_cons_succ]
    refine tkp [16,17,18] ?_;iterate 3 (refine tkr (HKB.out _ hbk.out) ?_;simp only[Act.put,setIfInBounds_toArray,set_cons_zero,set_cons_succ])
    refine tke ?_;refine tko (by kernel_rfl) (fun _ _ _ _ h=>h) (HKB.out _ hbk.out) [(19,34),(20,35),(21,36),(22,37),(23,38),(24,39),(25,40),(26,41),(27,42)] 9 rfl _ _ (by kernel_rfl) ?_;simp only[offA,offL,Act.put,setIfInBounds_toArray,set_cons_zero,set_cons_succ];refine tkp [28] ?_;iterate 1 (refine tkr (HKB.out _ hbk.out) ?_;simp only[Act.put,setIfInBounds_toArray,set_cons_zero,set_cons_succ])
    refine tke ?_;refine wpAnyH_done (by kernel_rfl) ?_ _;go_wp2_with fail;go_ret;exact⟨rfl,trS9 HBX hbk.out⟩
  | true=>
  rw[Bool.true_and]at HZ2;by_cases hpa:x.a=y.a
  case neg=>
    have t0:(x.a !=y.a)=true:=by simpa using hpa
    obtain rfl:z=false:=by rw[←HZ2.out,dfS9 hpa];rfl
    clear hpa;go_enter func189,ntmps189;go_wp2_with fail;clear hX;refine wp_region_held_drew (S:=fun w'=>w'.cell? ⟨w.heap.size,8,none⟩=some (.int .i64 j)∧w'.cell? ⟨w.heap.size,10,none⟩=some (.int .i64 x.a)∧w'.cell? ⟨b,o+j*15+14,none⟩=some (.slice q.D y.d.length q.dc)∧w'.cell? ⟨b,o+j*15+10,none⟩=some (.int .i64 y.a)) (by kernel_rfl) ?_ (fun hHeld=> ?_)
    · exact HKB.out _ hbk.out
    refine tkp [0,1,2,3,4] ?_;iterate 5 (refine tkr (HKB.out _ hbk.out) ?_;simp only[Act.put,setIfInBounds_toArray,set_cons_zero,set_cons_succ])
    refine tke ?_;refine wpAnyH_ready (rs:=[5]) (by kernel_rfl) (by simp) ?_;refine AllReadyH.cons (o:=({dst:=some 20,op:=Op.call {callee:=Callee.value (Operand.func 136),args:= #[Operand.tmp 17,Operand.tmp 19,Operand.const (.int .i64 1)],argTypes:= #[22,3,3]},type:=4,pos:= "sign.go:245",after:= #[{on:=2,ground:=Ground.data},{on:=4,ground:=Ground.data}],guard:=none}:Oper)) rfl (fun K hK=> ?_) AllReadyH.nil;go_simp;refine(CIS.out _ hbk.out).mono ?_;rintro e w3 ⟨rfl,rfl⟩;try (dsimp only)
    try go_wp2_with fail
    refine hK.out _ _ (HKB.out _ hbk.out) (fun hHeld=> ?_);clear hK K;try simp only[Act.put,setIfInBounds_toArray,set_cons_zero,set_cons_succ]
    refine tkp [6,7,8,9,10,11,12,13,14] ?_;iterate 9 (refine tkr (HKB.out _ hbk.out) ?_;simp only[Act.put,setIfInBounds_toArray,set_cons_zero,set_cons_succ])
    refine tke ?_;refine wpAnyH_ready (rs:=[15]) (by kernel_rfl) (by simp) ?_;refine AllReadyH.cons (o:=({dst:=some 30,op:=Op.call {callee:=Callee.value (Operand.func 209),args:= #[Operand.tmp 28,Operand.tmp 29],argTypes:= #[41,3]},type:=4,pos:= "sign.go:245",after:= #[{on:=13,ground:=Ground.data},{on:=14,ground:=Ground.data},{on:=7,ground:=Ground.chain},{on:=7,ground:=Ground.guard}],guard:=some (7,false)}:Oper)) rfl (fun K hK=> ?_) AllReadyH.nil;go_simp;refine(CCO.out _ hbk.out).mono ?_;rintro e w4 ⟨rfl,rfl⟩;try (dsimp only)
    try go_wp2_with fail
    refine hK.out _ _ (HKB.out _ hbk.out) (fun hHeld=> ?_);clear hK K;try simp only[Act.put,setIfInBounds_toArray,set_cons_zero,set_cons_succ]
    refine tkp [16,17,18,19,20,21,22,23,24,25,26,27,28] ?_;iterate 13 (refine tkr (HKB.out _ hbk.out) ?_;simp only[Act.put,setIfInBounds_toArray,set_cons_zero,set_cons_succ])
    refine tke ?_;refine wpAnyH_done (by kernel_rfl) ?_ _;go_wp2_with fail;go_ret;exact⟨rfl,trS9 HBX hbk.out⟩
  have t0:(x.a !=y.a)=false:=by simpa using hpa
  obtain⟨ps,hps⟩:∃n:Nat,x.a=(n:Int):=⟨x.a.toNat,by have:=HFY.out;omega⟩;have hps24:(ps:Int)≤24:=by have:=HFY.out;omega
  have HZ3:Hid ((decide (ps+1≤24) && (decide (ps+1≤pisN x.t) && appB (fldT x) (j:Int) y.a.toNat y.i.toNat ps))=z):=hid (by
    have:=HZ2.out;rw[dtS9 hpa,HF.out,Bool.true_and,hps]at this;rw[←hpa,hps,←this];have e:decide (ps+1≤pisN x.t)=decide ((ps:Int)+1≤(pisN x.t:Int)):=by congr 1;apply propext;omega
    have e2:decide (ps+1≤24)=decide ((ps:Int)+1≤24):=by congr 1;apply propext;omega
    rw[e,e2,Int.toNat_natCast])
  have HPY:=hid (show y.a=(ps:Int)by rw[←hpa,hps]);have HPS:=hid hps;clear HZ2 hpa hps;go_enter func189,ntmps189;go_wp2_with fail;clear hX;refine wp_region_held_drew (S:=fun w'=>w'.cell? ⟨w.heap.size,8,none⟩=some (.int .i64 j)∧w'.cell? ⟨w.heap.size,10,none⟩=some (.int .i64 x.a)∧w'.cell? ⟨b,o+j*15+14,none⟩=some (.slice q.D y.d.length q.dc)∧w'.cell? ⟨b,o+j*15+10,none⟩=some (.int .i64 y.a)) (by kernel_rfl) ?_ (fun hHeld=> ?_)
  · exact HKB.out _ hbk.out
  refine tkp [0,1,2,3,4] ?_;iterate 5 (refine tkr (HKB.out _ hbk.out) ?_;simp only[Act.put,setIfInBounds_toArray,set_cons_zero,set_cons_succ])
  refine tke ?_;refine wpAnyH_ready (rs:=[5]) (by kernel_rfl) (by simp) ?_;refine AllReadyH.cons (o:=({dst:=some 20,op:=Op.call {callee:=Callee.value (Operand.func 136),args:= #[Operand.tmp 17,Operand.tmp 19,Operand.const (.int .i64 1)],argTypes:= #[22,3,3]},type:=4,pos:= "sign.go:245",after:= #[{on:=2,ground:=Ground.data},{on:=4,ground:=Ground.data}],guard:=none}:Oper)) rfl (fun K hK=> ?_) AllReadyH.nil;go_simp;refine(CIS.out _ hbk.out).mono ?_;rintro e w3 ⟨rfl,rfl⟩;try (dsimp only)
  try go_wp2_with fail
  refine hK.out _ _ (HKB.out _ hbk.out) (fun hHeld=> ?_);clear hK K;try simp only[Act.put,setIfInBounds_toArray,set_cons_zero,set_cons_succ]
  refine tkp [6,7,8,9,10,11,12,13,14] ?_;iterate 9 (refine tkr (HKB.out _ hbk.out) ?_;simp only[Act.put,setIfInBounds_toArray,set_cons_zero,set_cons_succ])
  refine tke ?_;refine wpAnyH_ready (rs:=[15]) (by kernel_rfl) (by simp) ?_;refine AllReadyH.cons (o:=({dst:=some 30,op:=Op.call {callee:=Callee.value (Operand.func 209),args:= #[Operand.tmp 28,Operand.tmp 29],argTypes:= #[41,3]},type:=4,pos:= "sign.go:245",after:= #[{on:=13,ground:=Ground.data},{on:=14,ground:=Ground.data},{on:=7,ground:=Ground.chain},{on:=7,ground:=Ground.guard}],guard:=some (7,false)}:Oper)) rfl (fun K hK=> ?_) AllReadyH.nil;go_simp;refine(CCO.out _ hbk.out).mono ?_;rintro e w4 ⟨rfl,rfl⟩;try (dsimp only)
  try go_wp2_with fail
  refine hK.out _ _ (HKB.out _ hbk.out) (fun hHeld=> ?_);clear hK K;try simp only[Act.put,setIfInBounds_toArray,set_cons_zero,set_cons_succ]
  refine tkp [16,17,18,19,20,21,22,23,24,25,26,27,28] ?_;iterate 13 (refine tkr (HKB.out _ hbk.out) ?_;simp only[Act.put,setIfInBounds_toArray,set_cons_zero,set_cons_succ])
  refine tke ?_;refine wpAnyH_done (by kernel_rfl) ?_ _;have CW:=hid (fun V (hV:Below w.heap.size w V)=>split_any x.t p.T p.tc ((ps:Int)+1) V (((HENT.out V hV).ht).wide (Nat.zero_le _) (by have:=hV.size;omega)) (HSS.out V hV));unfold GivesS termV at CW;obtain⟨-, -,c2,c3,c4, -, -, -,c8, -,c10, -, -, -, -⟩:=KB.out _ hbk.out;have wr1:IntKind.i64.wrap (x.a+1)=(ps:Int)+1:=by rw[HPS.out];exact IntWalk.i64_in _ (by omega)
  have HBY:=hid (trS9 HBX hbk.out);have HTF:=hid (tel_facts HSH.out);have HRC:Hid ((∃u,splitX x.t ((ps:Int)+1)=((telT x.t).take (ps+1),u,0)∧ps+1≤pisN x.t∧appB (fldT x) (j:Int) y.a.toNat y.i.toNat ps=z)∨(z=false∧∃c,splitX x.t ((ps:Int)+1)=([],.node 0 0 [],c)∧(c=2∨c=6))):=hid (by
    have hz3:=HZ3.out;rw[show(ps:Int)+1=((ps+1:Nat):Int)by omega];by_cases h24:ps+1≤24
    · rw[dtS9 h24,Bool.true_and]at hz3;by_cases hp:ps+1≤pisN x.t
      · obtain⟨u,hu, -⟩:=split_few HSH.out h24 hp;rw[dtS9 hp,Bool.true_and]at hz3;exact .inl ⟨u,hu,hp,hz3⟩
      · rw[dfS9 hp]at hz3;exact .inr ⟨hz3.symm,6,split_many HSH.out h24 (by omega),.inr rfl⟩
    · rw[dfS9 h24]at hz3;exact .inr ⟨hz3.symm,2,split_long (by rw[HSH.out,dtS9 (show(0:Int)≤((ps+1:Nat):Int)by omega)];rfl) (by omega),.inl rfl⟩)
  have HTL:=hid (fun(hp:ps+1≤pisN x.t)=>(show ∃h:ps<((telT x.t).take (ps+1)).length,((telT x.t).take (ps+1))[ps]=fldT x∧shapedB (fldT x)=true from by
    have h1:=(tel_facts HSH.out).1;have h2:ps<(telT x.t).length:=by omega
    refine⟨by rw[List.length_take];omega, ?_, ?_⟩
    · rw[List.getElem_take];unfold fldT;rw[HPS.out,Int.toNat_natCast,List.getElem?_eq_getElem h2];rfl
    · unfold fldT;rw[HPS.out,Int.toNat_natCast,List.getElem?_eq_getElem h2];exact(tel_facts HSH.out).2.2.2 _ (List.getElem_mem h2)))
  obtain⟨R,hR⟩:∃R,splitX x.t ((ps:Int)+1)=R:=⟨_,rfl⟩;rw[hR]at CW HRC;clear hR CIS CCO HKB HZ3;go_wp2_with fail;refine(CW.out _ HBY.out).mono ?_;rintro e w5 ⟨A1,c1,B1,d1,rfl,hrt, -,hb5⟩;have HB5:=hid (trS9 HBY hb5);have HBK5:=hid (trS9 hbk hb5);have HRT:=hid hrt;clear hb5 hrt CW c2 c3 c4 c8 c10;have hsz5:w.heap.size<w5.heap.size:=by have:=HBK5.out.size;have:=HXS.out;omega
  have HB5A:=hid (fun o=>HB5.out.alloc HB5.out.size o);rcases HRC.out with ⟨u,hR,hp,hzz⟩|⟨hzf,c,hR,hc⟩
  · subst hR;obtain⟨hlp,hel,hsf⟩:=HTL.out hp;simp only at HRT;have HT5:=hid (show IsTerms w5 w.heap.size w5.heap.size ((telT x.t).take (ps+1)) A1 c1 from HRT.out.imp (fun _ _ _=>rfl) (fun b hb=>⟨by have:=hb.1;have:=HBY.out.size;omega,hb.2⟩));obtain⟨ts,hts⟩:∃ts,(telT x.t).take (ps+1)=ts:=⟨_,rfl⟩;rw[hts]at HT5 hlp⊢;simp only[hts]at hel;obtain⟨bt,ot,FT,CT,hAt, -,hbt,hxt,hnt⟩:=HT5.out.sub ps hlp;rw[hel]at hxt hnt;subst hAt;obtain⟨f,hf⟩:∃f,fldT x=f:=⟨_,rfl⟩;rw[hf]at hxt hnt hsf hzz;have HZ5:=hid hzz;have HHX:=hid hxt;have HNT:=hid hnt;have HSF:=hid hsf;have hpl:(ps:Int)<(ts.length:Int):=by omega
    have hbt5:bt<w5.heap.size:=hbt;clear hf hel hts hxt hnt hsf hzz hp HRC HTL HTF HRT hlp;obtain⟨Y,hY⟩:∃Y,w5.alloc (.cells #[.int .i64 u.k,.int .i64 u.n,.slice B1 u.l.length d1] 25)=Y:=⟨_,rfl⟩;have HWY:=hid (show Below w5.heap.size w5 Y from by rw[←hY];exact(Below.refl _ _).alloc lrS9 _);have HBYY:=hid (trS9 HB5 HWY.out);have HBKY:=hid (trS9 HBK5 HWY.out);have hby:=hid ((Below.refl Y.heap.size Y).drew);have HK7:=hid (fun V (hV:Below Y.heap.size Y V)=>(show V.cell? ⟨w.heap.size,8,none⟩=some (.int .i64 j)∧V.cell? ⟨w.heap.size,10,none⟩=some (.int .i64 ps)∧V.cell? ⟨bt,ot+ps*3,none⟩=some (.int .i64 f.k)∧V.cell? ⟨bt,ot+ps*3+1,none⟩=some (.int .i64 f.n)∧V.cell? ⟨bt,ot+ps*3+2,none⟩=some (.slice FT f.l.length CT)from by
      obtain⟨q0,q1,q2⟩:=HHX.out.kept (trS9 HWY hV) hbt5;exact⟨by rw[(KB.out V (trS9 HBKY hV)).c8,HF.out],by rw[(KB.out V (trS9 HBKY hV)).c10,HPS.out],q0,q1,q2⟩))
    have CI2:Hid (∀(V:World),Below Y.heap.size Y V→Calls prog 166 #[.slice (some ⟨b,o,none⟩) l.length cap,.int .i64 j,.agg #[.int .i64 f.k,.int .i64 f.n,.slice FT f.l.length CT],.int .i64 ps] V fun e w'=>(∃A7 n7 c7,e= .returned (.tuple #[.slice A7 n7 c7,.bool z]))∧Below V.heap.size V w'):=hid (fun V hV=>by
      have:=CIN.out f FT CT ps w.heap.size w5.heap.size V (trS9 HBYY hV) (HNT.out.kept (trS9 HWY hV) lrS9) (by have:=hV.size;have:=HWY.out.size;omega) HSF.out (by rw[HPY.out];omega) (by omega);rw[HZ5.out]at this;exact this.mono fun e w' ⟨A7,n7,c7,h1,_,h2⟩=>⟨⟨A7,n7,c7,h1⟩,h2⟩)
    clear HZ5 CIN HND HNT HHX;go_wp2_with fail;clear hY;have hbk:=hby
    refine wp_region_held_drew (S:=fun w'=>w'.cell? ⟨w.heap.size,8,none⟩=some (.int .i64 j)∧w'.cell? ⟨w.heap.size,10,none⟩=some (.int .i64 ps)∧w'.cell? ⟨bt,ot+ps*3,none⟩=some (.int .i64 f.k)∧w'.cell? ⟨bt,ot+ps*3+1,none⟩=some (.int .i64 f.n)∧w'.cell? ⟨bt,ot+ps*3+2,none⟩=some (.slice FT f.l.length CT)) (by kernel_rfl) ?_ (fun hHeld=> ?_)
    · exact HK7.out _ hbk.out
    refine tkp [0,1,2,3,4,5,6,7,8,9] ?_;iterate 10 (refine tkr (HK7.out _ hbk.out) ?_;simp only[Act.put,setIfInBounds_toArray,set_cons_zero,set_cons_succ])
    refine tke ?_;refine wpAnyH_ready (rs:=[10]) (by kernel_rfl) (by simp) ?_;refine AllReadyH.cons (o:=({dst:=some 67,op:=Op.call {callee:=Callee.value (Operand.func 166),args:= #[Operand.tmp 57,Operand.tmp 59,Operand.tmp 64,Operand.tmp 66],argTypes:= #[22,3,25,3]},type:=201,pos:= "sign.go:252",after:= #[{on:=0,ground:=Ground.data},{on:=2,ground:=Ground.data},{on:=7,ground:=Ground.data},{on:=9,ground:=Ground.data}],guard:=none}:Oper)) rfl (fun K hK=> ?_) AllReadyH.nil;go_simp;refine(CI2.out _ hbk.out).mono ?_;rintro e w6 ⟨⟨A7,n7,c7,rfl⟩,hbn⟩;have hbk:=hid (trS9 hbk hbn);clear hbn;try (dsimp only)
    try go_wp2_with fail
    refine hK.out _ _ (HK7.out _ hbk.out) (fun hHeld=> ?_);clear hK K;try simp only[Act.put,setIfInBounds_toArray,set_cons_zero,set_cons_succ]
    refine tkp [11,12,13,14,15] ?_;iterate 5 (refine tkr (HK7.out _ hbk.out) ?_;simp only[Act.put,setIfInBounds_toArray,set_cons_zero,set_cons_succ])
    refine tke ?_;refine wpAnyH_done (by kernel_rfl) ?_ _;go_wp2_with fail;go_ret;exact⟨rfl,trS9 HBYY hbk.out⟩
  · subst hR;subst hzf;have tc:(c !=0)=true:=by rcases hc with rfl|rfl<;>rfl
    clear hc HRC;go_wp2_with fail;go_ret;exact⟨rfl,HB5A.out _⟩
end Go.Proofs.YtchllgkgjompgaaGreatDoor
