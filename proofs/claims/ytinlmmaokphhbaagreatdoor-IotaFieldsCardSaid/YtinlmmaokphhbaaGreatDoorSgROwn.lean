import Derived.Test.YtinlmmaokphhbaaGreatDoorC2
import Derived.Test.YtinlmmaokphhbaaGreatDoorSgCon
namespace Go.Proofs.YtinlmmaokphhbaaGreatDoor
open Go.RowKit
set_option linter.unusedVariables false
set_option maxRecDepth 100000
open Lib(hid)
open Go.Proofs.Tryz
open _root_.List renaming setIfInBounds_toArray→Qa,set_cons_zero→Qb,set_cons_succ→Qc,getElem?_eq_getElem→Qd
open Go.Act renaming put→Qe
open Go.Operand renaming tmp→Qf,func→Qg,const→Qh
open Go.AllReadyH renaming cons→Qi,nil→Qj
open Go renaming wpAnyH_ready→Qk,wp_region_held_drew→Ql,wpAnyH_done→Qm
open Go.Ground renaming data→Qn,guard→Qo,chain→Qp
open Go.Callee renaming value→Qq
open Go.Op renaming call→Qr
open _root_.Nat renaming le_trans→Qs,zero_le→Qt
theorem Zcm{p:Prop}[Decidable p](h:¬p):decide p=false:=decide_eq_false h
theorem Zcn{p:Prop}[Decidable p](h:p):decide p=true:=decide_eq_true h
theorem Za1{a b c:World}(x:Hid (Below a.heap.size a b))(y:Below b.heap.size b c):Below a.heap.size a c:=x.out.trans (y.mono x.out.size)
set_option maxHeartbeats 16000000 in
theorem Z2r (l:List ET)(A:Option Addr)(cap i:Nat)(hi:i<l.length)(lo hh:Nat)(w:World)(hl:l.length≤600)(hn:Zr w lo hh A l)(hhh:hh≤w.heap.size):
  Calls prog 34 #[.slice A l.length cap,.int .i64 i] w fun e w'=>e= .returned (.bool (Zht l i l[i]))∧Below w.heap.size w w':=by
 obtain⟨b,o,p,hA,hb1,hb2,hx,hent⟩:=hn i hi;have HN:=hid hn;have HIS0:=hid (fun(n:Int) V (hV:Below w.heap.size w V)=>Zf5 l A cap lo hh n 1 V (by unfold maxLen;omega) (hn.kept hV hhh));have hcl:=Qs hent.lc hent.mc;have hdl:=Qs hent.ld hent.md;have hll6:(l.length:Int)≤600:=by omega
 obtain⟨z,hz⟩:∃z,Zht l i l[i]=z:=⟨_,rfl⟩;rw[hz];unfold Zht at hz;obtain⟨x,hxx⟩:∃x,l[i]=x:=⟨_,rfl⟩;rw[hxx]at hx hent hz hcl hdl;obtain⟨x0,x1,x2,x3,x4,x5,x6,x7,x8,x9,x10,x11,x12,x13,x14⟩:=hx;subst hA;have hbw:b<w.heap.size:=by omega
 have hi0':(i:Int)<(l.length:Int):=by omega
 have hi1:(i:Int)<600:=by omega
 have HZ:=hid hz;have HB1:=hid (show Below w.heap.size w (w.alloc (.cells (Z1 x p) 36))from(Below.refl _ _).alloc (Nat.le_refl _) _);have KB:=hid (fun V (hV:Below (w.alloc (.cells (Z1 x p) 36)).heap.size (w.alloc (.cells (Z1 x p) 36)) V)=>(show Zlb V w.heap.size x p from((Bk.new w 36 (Z1 x p)).below hV (by simp)).boxE));have HENT:=hid (fun V (hV:Below w.heap.size w V)=>hent.kept hV hhh);have CZ:=hid (fun V=>Zrr x.b p.B p.bc V);unfold Zc at CZ;unfold maxLen at hcl hdl;have hcl':(x.c.length:Int)≤9223372036854775807:=by omega
 have hdl':(x.d.length:Int)≤9223372036854775807:=by omega
 have HIS:=hid (HIS0.out x.f);clear hz hxx hent hn hl hb1 hb2 hcl hdl HIS0;obtain⟨X,hX⟩:∃X,w.alloc (.cells (Z1 x p) 36)=X:=⟨_,rfl⟩;rw[hX]at HB1 KB;have HBX:=hid HB1.out;have HXS:=hid (show w.heap.size<X.heap.size from by rw[←hX];simp);have hbk:=hid ((Below.refl X.heap.size X).drew);have HKA:=hid (fun V (hV:Below X.heap.size X V)=>(KB.out V hV).c8);unfold Z1 at hX;obtain⟨rb,hrb⟩:∃r,isB l x.f 1=r:=⟨_,rfl⟩;rw[hrb]at HIS;have CIS:=hid (fun V (hV:Below X.heap.size X V)=>HIS.out V (Za1 HBX hV));cases rb with
 | false=>
  obtain rfl:z=false:=by rw[←HZ.out,hrb];rfl
  clear hrb;go_enter func34,ntmps34;go_wp2_with fail;clear hX;refine Ql (S:=fun w'=>w'.cell? ⟨w.heap.size,8,none⟩=some (.int .i64 x.f)) (by kernel_rfl) ?_ (fun hHeld=> ?_)
  ·exact HKA.out _ hbk.out
  refine tkp [0,1,2] ?_;iterate 3 (refine tkr (HKA.out _ hbk.out) ?_;simp only[Qe,Qa,Qb,Qc])
  refine tke ?_;refine Qk (rs:=[3]) (by kernel_rfl) (by simp) ?_;refine Qi (o:=({dst:=some 15,op:=Qr {callee:=Qq (Qg 10),args:= #[Qf 12,Qf 14,Qh (.int .i64 1)],argTypes:= #[22,3,3]},type:=4,pos:= "ref.go:84",after:= #[{on:=0,ground:=Qn},{on:=2,ground:=Qn}],guard:=none}:Oper)) rfl (fun K hK=> ?_) Qj;go_simp;refine(CIS.out _ hbk.out).mono ?_;rintro e w3 ⟨rfl,rfl⟩;try (dsimp only)
  try go_wp2_with fail
  refine hK.out _ _ (HKA.out _ hbk.out) (fun hHeld=> ?_);clear hK K;try simp only[Qe,Qa,Qb,Qc]
  refine tkp [4,5] ?_;iterate 2 (refine tkr (HKA.out _ hbk.out) ?_;simp only[Qe,Qa,Qb,Qc])
  refine tke ?_;refine tko (by kernel_rfl) (fun _ _ _ _ h=>h) (HKA.out _ hbk.out) [(6,18),(7,19),(8,20),(9,21)] 4 rfl _ _ (by kernel_rfl) ?_;simp only[Js,Jt,Qe,Qa,Qb,Qc];refine tkp [10,11] ?_;iterate 2 (refine tkr (HKA.out _ hbk.out) ?_;simp only[Qe,Qa,Qb,Qc])
  refine tke ?_;refine tko (by kernel_rfl) (fun _ _ _ _ h=>h) (HKA.out _ hbk.out) [(12,24),(13,25),(14,26),(15,27)] 4 rfl _ _ (by kernel_rfl) ?_;simp only[Js,Jt,Qe,Qa,Qb,Qc];refine tkp [16,17] ?_;iterate 2 (refine tkr (HKA.out _ hbk.out) ?_;simp only[Qe,Qa,Qb,Qc])
  refine tke ?_;refine tko (by kernel_rfl) (fun _ _ _ _ h=>h) (HKA.out _ hbk.out) [(18,30),(19,31),(20,32)] 3 rfl _ _ (by kernel_rfl) ?_;simp only[Js,Jt,Qe,Qa,Qb,Qc];refine tkp [21,22] ?_;iterate 2 (refine tkr (HKA.out _ hbk.out) ?_;simp only[Qe,Qa,Qb,Qc])
  refine tke ?_;refine tko (by kernel_rfl) (fun _ _ _ _ h=>h) (HKA.out _ hbk.out) [(23,35),(24,36),(25,37)] 3 rfl _ _ (by kernel_rfl) ?_;simp only[Js,Jt,Qe,Qa,Qb,Qc];refine tkp [26,27] ?_;iterate 2 (refine tkr (HKA.out _ hbk.out) ?_;simp only[Qe,Qa,Qb,Qc])
  refine tke ?_;refine tko (by kernel_rfl) (fun _ _ _ _ h=>h) (HKA.out _ hbk.out) [(28,40),(29,41),(30,42),(31,43)] 4 rfl _ _ (by kernel_rfl) ?_;simp only[Js,Jt,Qe,Qa,Qb,Qc];refine tkp [32,33] ?_;iterate 2 (refine tkr (HKA.out _ hbk.out) ?_;simp only[Qe,Qa,Qb,Qc])
  refine tke ?_;refine tko (by kernel_rfl) (fun _ _ _ _ h=>h) (HKA.out _ hbk.out) [(34,46),(35,47),(36,48),(37,49)] 4 rfl _ _ (by kernel_rfl) ?_;simp only[Js,Jt,Qe,Qa,Qb,Qc];refine tkp [38,39] ?_;iterate 2 (refine tkr (HKA.out _ hbk.out) ?_;simp only[Qe,Qa,Qb,Qc])
  refine tke ?_;refine tko (by kernel_rfl) (fun _ _ _ _ h=>h) (HKA.out _ hbk.out) [(40,52),(41,53),(42,54),(43,55),(44,56),(45,57),(46,58),(47,59),(48,60)] 9 rfl _ _ (by kernel_rfl) ?_;simp only[Js,Jt,Qe,Qa,Qb,Qc];refine tkp [49] ?_;iterate 1 (refine tkr (HKA.out _ hbk.out) ?_;simp only[Qe,Qa,Qb,Qc])
  refine tke ?_;refine Qm (by kernel_rfl) ?_ _;go_wp2_with fail;go_ret;exact⟨rfl,Za1 HBX hbk.out⟩
 | true=>
 obtain⟨j,hf,hj,hjk⟩:=Zat hrb;obtain⟨b',o',q,hA', -,hbh,hy,henty⟩:=HN.out j hj;obtain⟨rfl,rfl⟩:b=b'∧o=o':=by
  injection hA' with r;injection r with r1 r2;exact⟨r1,r2⟩
 have hz2:=HZ.out;rw[hrb,Zak hf hj,Bool.true_and]at hz2;dsimp only at hz2
 obtain⟨y,hyy⟩:∃y,l[j]=y:=⟨_,rfl⟩;rw[hyy]at hy hz2 henty;have HKB:=hid (fun V (hV:Below X.heap.size X V)=>(show V.cell? ⟨w.heap.size,8,none⟩=some (.int .i64 j)∧V.cell? ⟨w.heap.size,5,none⟩=some (.int .i64 x.b.k)∧V.cell? ⟨w.heap.size,6,none⟩=some (.int .i64 x.b.n)∧V.cell? ⟨w.heap.size,7,none⟩=some (.slice p.B x.b.l.length p.bc)∧V.cell? ⟨w.heap.size,10,none⟩=some (.int .i64 x.a)∧V.cell? ⟨w.heap.size,11,none⟩=some (.int .i64 x.i)∧V.cell? ⟨w.heap.size,12,none⟩=some (.int .i64 x.v)∧V.cell? ⟨w.heap.size,13,none⟩=some (.slice p.C x.c.length p.cc)∧V.cell? ⟨w.heap.size,14,none⟩=some (.slice p.D x.d.length p.dc)∧V.cell? ⟨b,o+j*15+10,none⟩=some (.int .i64 y.a)from
  ⟨by rw[(KB.out V hV).c8,hf],(KB.out V hV).c5,(KB.out V hV).c6,(KB.out V hV).c7,(KB.out V hV).c10,(KB.out V hV).c11,(KB.out V hV).c12,(KB.out V hV).c13,(KB.out V hV).c14,(hy.kept (Za1 HBX hV) hbw).c10⟩))
 have HYL:=hid (fun V (hV:Below w.heap.size w V)=>(show V.cell? ⟨b,o+j*15+13,none⟩=some (.slice q.C y.c.length q.cc)∧V.cell? ⟨b,o+j*15+14,none⟩=some (.slice q.D y.d.length q.dc)∧Zby V lo hh q.C y.c∧Zby V lo hh q.D y.d from
  ⟨(hy.kept hV hbw).c13,(hy.kept hV hbw).c14,henty.hc.kept hV hhh,henty.hd.kept hV hhh⟩))
 have hycl:=Qs henty.lc henty.mc;have hydl:=Qs henty.ld henty.md;unfold maxLen at hycl hydl;have hycl':(y.c.length:Int)≤9223372036854775807:=by omega
 have hydl':(y.d.length:Int)≤9223372036854775807:=by omega
 rw[hf]at CIS;have HF:=hid hf;obtain⟨zb,hzb⟩:∃r,Zdc x.b=r:=⟨_,rfl⟩;rw[hzb]at CZ hz2;obtain⟨ra,hra⟩:∃r,(!(Zv (fun q=> !atB x i (Zdx x y) q) (Zdx x y).length))=r:=⟨_,rfl⟩;rw[hra]at hz2;have HRA:=hid hra;have HZ2:Hid ((decide (x.f<(i:Int)) && (zb && (decide (x.i=0) && (decide (x.v=0) && (decide (x.c.length=0) && (decide (x.d.length=0) && (decide (x.a=y.a) && ra)))))))=z):=hid hz2;have hj0:(j:Int)<(l.length:Int):=by omega
 have hj1:(j:Int)<600:=by omega
 clear hrb hz2 henty hA' hy hyy hjk hf HZ HIS HKA hzb hra hycl hydl;by_cases h1:j<i
 case neg=>
  have t0:decide ((i:Int)≤(j:Int))=true:=Zcn (by omega);have t0':decide ((j:Int)≥(i:Int))=true:=Zcn (by omega);have t0'':decide (i≤j)=true:=Zcn (by omega);have t0n:i≤j:=by omega
  obtain rfl:z=false:=by rw[←HZ2.out,Zcm (show ¬ x.f<(i:Int)by have:=HF.out;omega)];rfl
  clear h1;go_enter func34,ntmps34;go_wp2_with fail;clear hX;refine Ql (S:=fun w'=>w'.cell? ⟨w.heap.size,8,none⟩=some (.int .i64 j)∧w'.cell? ⟨w.heap.size,5,none⟩=some (.int .i64 x.b.k)∧w'.cell? ⟨w.heap.size,6,none⟩=some (.int .i64 x.b.n)∧w'.cell? ⟨w.heap.size,7,none⟩=some (.slice p.B x.b.l.length p.bc)∧w'.cell? ⟨w.heap.size,10,none⟩=some (.int .i64 x.a)∧w'.cell? ⟨w.heap.size,11,none⟩=some (.int .i64 x.i)∧w'.cell? ⟨w.heap.size,12,none⟩=some (.int .i64 x.v)∧w'.cell? ⟨w.heap.size,13,none⟩=some (.slice p.C x.c.length p.cc)∧w'.cell? ⟨w.heap.size,14,none⟩=some (.slice p.D x.d.length p.dc)∧w'.cell? ⟨b,o+j*15+10,none⟩=some (.int .i64 y.a)) (by kernel_rfl) ?_ (fun hHeld=> ?_)
  ·exact HKB.out _ hbk.out
  refine tkp [0,1,2] ?_;iterate 3 (refine tkr (HKB.out _ hbk.out) ?_;simp only[Qe,Qa,Qb,Qc])
  refine tke ?_;refine Qk (rs:=[3]) (by kernel_rfl) (by simp) ?_;refine Qi (o:=({dst:=some 15,op:=Qr {callee:=Qq (Qg 10),args:= #[Qf 12,Qf 14,Qh (.int .i64 1)],argTypes:= #[22,3,3]},type:=4,pos:= "ref.go:84",after:= #[{on:=0,ground:=Qn},{on:=2,ground:=Qn}],guard:=none}:Oper)) rfl (fun K hK=> ?_) Qj;go_simp;refine(CIS.out _ hbk.out).mono ?_;rintro e w3 ⟨rfl,rfl⟩;try (dsimp only)
  try go_wp2_with fail
  refine hK.out _ _ (HKB.out _ hbk.out) (fun hHeld=> ?_);clear hK K;try simp only[Qe,Qa,Qb,Qc]
  refine tkp [4,5,6,7,8,9,10,11] ?_;iterate 8 (refine tkr (HKB.out _ hbk.out) ?_;simp only[Qe,Qa,Qb,Qc])
  refine tke ?_;refine tko (by kernel_rfl) (fun _ _ _ _ h=>h) (HKB.out _ hbk.out) [(12,24),(13,25),(14,26),(15,27)] 4 rfl _ _ (by kernel_rfl) ?_;simp only[Js,Jt,Qe,Qa,Qb,Qc];refine tkp [16,17] ?_;iterate 2 (refine tkr (HKB.out _ hbk.out) ?_;simp only[Qe,Qa,Qb,Qc])
  refine tke ?_;refine tko (by kernel_rfl) (fun _ _ _ _ h=>h) (HKB.out _ hbk.out) [(18,30),(19,31),(20,32)] 3 rfl _ _ (by kernel_rfl) ?_;simp only[Js,Jt,Qe,Qa,Qb,Qc];refine tkp [21,22] ?_;iterate 2 (refine tkr (HKB.out _ hbk.out) ?_;simp only[Qe,Qa,Qb,Qc])
  refine tke ?_;refine tko (by kernel_rfl) (fun _ _ _ _ h=>h) (HKB.out _ hbk.out) [(23,35),(24,36),(25,37)] 3 rfl _ _ (by kernel_rfl) ?_;simp only[Js,Jt,Qe,Qa,Qb,Qc];refine tkp [26,27] ?_;iterate 2 (refine tkr (HKB.out _ hbk.out) ?_;simp only[Qe,Qa,Qb,Qc])
  refine tke ?_;refine tko (by kernel_rfl) (fun _ _ _ _ h=>h) (HKB.out _ hbk.out) [(28,40),(29,41),(30,42),(31,43)] 4 rfl _ _ (by kernel_rfl) ?_;simp only[Js,Jt,Qe,Qa,Qb,Qc];refine tkp [32,33] ?_;iterate 2 (refine tkr (HKB.out _ hbk.out) ?_;simp only[Qe,Qa,Qb,Qc])
  refine tke ?_;refine tko (by kernel_rfl) (fun _ _ _ _ h=>h) (HKB.out _ hbk.out) [(34,46),(35,47),(36,48),(37,49)] 4 rfl _ _ (by kernel_rfl) ?_;simp only[Js,Jt,Qe,Qa,Qb,Qc];refine tkp [38,39] ?_;iterate 2 (refine tkr (HKB.out _ hbk.out) ?_;simp only[Qe,Qa,Qb,Qc])
  refine tke ?_;refine tko (by kernel_rfl) (fun _ _ _ _ h=>h) (HKB.out _ hbk.out) [(40,52),(41,53),(42,54),(43,55),(44,56),(45,57),(46,58),(47,59),(48,60)] 9 rfl _ _ (by kernel_rfl) ?_;simp only[Js,Jt,Qe,Qa,Qb,Qc];refine tkp [49] ?_;iterate 1 (refine tkr (HKB.out _ hbk.out) ?_;simp only[Qe,Qa,Qb,Qc])
  refine tke ?_;refine Qm (by kernel_rfl) ?_ _;go_wp2_with fail;go_ret;exact⟨rfl,Za1 HBX hbk.out⟩
 have t0:decide ((i:Int)≤(j:Int))=false:=Zcm (by omega);have t0':decide ((j:Int)≥(i:Int))=false:=Zcm (by omega);have t0'':decide (i≤j)=false:=Zcm (by omega);have t0n: ¬ i≤j:=by omega
 have HZ3:Hid ((zb && (decide (x.i=0) && (decide (x.v=0) && (decide (x.c.length=0) && (decide (x.d.length=0) && (decide (x.a=y.a) && ra))))))=z):=hid (by
  have:=HZ2.out;rw[Zcn (show x.f<(i:Int)by have:=HF.out;omega)]at this;exact this)
 clear h1 HZ2;cases zb with
 | false=>
  obtain rfl:z=false:=by rw[←HZ3.out];rfl
  go_enter func34,ntmps34;go_wp2_with fail;clear hX;refine Ql (S:=fun w'=>w'.cell? ⟨w.heap.size,8,none⟩=some (.int .i64 j)∧w'.cell? ⟨w.heap.size,5,none⟩=some (.int .i64 x.b.k)∧w'.cell? ⟨w.heap.size,6,none⟩=some (.int .i64 x.b.n)∧w'.cell? ⟨w.heap.size,7,none⟩=some (.slice p.B x.b.l.length p.bc)∧w'.cell? ⟨w.heap.size,10,none⟩=some (.int .i64 x.a)∧w'.cell? ⟨w.heap.size,11,none⟩=some (.int .i64 x.i)∧w'.cell? ⟨w.heap.size,12,none⟩=some (.int .i64 x.v)∧w'.cell? ⟨w.heap.size,13,none⟩=some (.slice p.C x.c.length p.cc)∧w'.cell? ⟨w.heap.size,14,none⟩=some (.slice p.D x.d.length p.dc)∧w'.cell? ⟨b,o+j*15+10,none⟩=some (.int .i64 y.a)) (by kernel_rfl) ?_ (fun hHeld=> ?_)
  ·exact HKB.out _ hbk.out
  refine tkp [0,1,2] ?_;iterate 3 (refine tkr (HKB.out _ hbk.out) ?_;simp only[Qe,Qa,Qb,Qc])
  refine tke ?_;refine Qk (rs:=[3]) (by kernel_rfl) (by simp) ?_;refine Qi (o:=({dst:=some 15,op:=Qr {callee:=Qq (Qg 10),args:= #[Qf 12,Qf 14,Qh (.int .i64 1)],argTypes:= #[22,3,3]},type:=4,pos:= "ref.go:84",after:= #[{on:=0,ground:=Qn},{on:=2,ground:=Qn}],guard:=none}:Oper)) rfl (fun K hK=> ?_) Qj;go_simp;refine(CIS.out _ hbk.out).mono ?_;rintro e w3 ⟨rfl,rfl⟩;try (dsimp only)
  try go_wp2_with fail
  refine hK.out _ _ (HKB.out _ hbk.out) (fun hHeld=> ?_);clear hK K;try simp only[Qe,Qa,Qb,Qc]
  refine tkp [4,5,6,7,8,9,10,11,12,13] ?_;iterate 10 (refine tkr (HKB.out _ hbk.out) ?_;simp only[Qe,Qa,Qb,Qc])
  refine tke ?_;refine Qk (rs:=[14]) (by kernel_rfl) (by simp) ?_;refine Qi (o:=({dst:=some 26,op:=Qr {callee:=Qq (Qg 64),args:= #[Qf 25],argTypes:= #[27]},type:=4,pos:= "ref.go:84",after:= #[{on:=13,ground:=Qn},{on:=11,ground:=Qp},{on:=11,ground:=Qo}],guard:=some (11,false)}:Oper)) rfl (fun K hK=> ?_) Qj;go_simp;refine(CZ.out _).mono ?_;rintro e w4 ⟨rfl,hbn⟩;have hbk:=hid (Za1 hbk hbn);clear hbn;try (dsimp only)
  try go_wp2_with fail
  refine hK.out _ _ (HKB.out _ hbk.out) (fun hHeld=> ?_);clear hK K;try simp only[Qe,Qa,Qb,Qc]
  refine tkp [15,16,17] ?_;iterate 3 (refine tkr (HKB.out _ hbk.out) ?_;simp only[Qe,Qa,Qb,Qc])
  refine tke ?_;refine tko (by kernel_rfl) (fun _ _ _ _ h=>h) (HKB.out _ hbk.out) [(18,30),(19,31),(20,32)] 3 rfl _ _ (by kernel_rfl) ?_;simp only[Js,Jt,Qe,Qa,Qb,Qc];refine tkp [21,22] ?_;iterate 2 (refine tkr (HKB.out _ hbk.out) ?_;simp only[Qe,Qa,Qb,Qc])
  refine tke ?_;refine tko (by kernel_rfl) (fun _ _ _ _ h=>h) (HKB.out _ hbk.out) [(23,35),(24,36),(25,37)] 3 rfl _ _ (by kernel_rfl) ?_;simp only[Js,Jt,Qe,Qa,Qb,Qc];refine tkp [26,27] ?_;iterate 2 (refine tkr (HKB.out _ hbk.out) ?_;simp only[Qe,Qa,Qb,Qc])
  refine tke ?_;refine tko (by kernel_rfl) (fun _ _ _ _ h=>h) (HKB.out _ hbk.out) [(28,40),(29,41),(30,42),(31,43)] 4 rfl _ _ (by kernel_rfl) ?_;simp only[Js,Jt,Qe,Qa,Qb,Qc];refine tkp [32,33] ?_;iterate 2 (refine tkr (HKB.out _ hbk.out) ?_;simp only[Qe,Qa,Qb,Qc])
  refine tke ?_;refine tko (by kernel_rfl) (fun _ _ _ _ h=>h) (HKB.out _ hbk.out) [(34,46),(35,47),(36,48),(37,49)] 4 rfl _ _ (by kernel_rfl) ?_;simp only[Js,Jt,Qe,Qa,Qb,Qc];refine tkp [38,39] ?_;iterate 2 (refine tkr (HKB.out _ hbk.out) ?_;simp only[Qe,Qa,Qb,Qc])
  refine tke ?_;refine tko (by kernel_rfl) (fun _ _ _ _ h=>h) (HKB.out _ hbk.out) [(40,52),(41,53),(42,54),(43,55),(44,56),(45,57),(46,58),(47,59),(48,60)] 9 rfl _ _ (by kernel_rfl) ?_;simp only[Js,Jt,Qe,Qa,Qb,Qc];refine tkp [49] ?_;iterate 1 (refine tkr (HKB.out _ hbk.out) ?_;simp only[Qe,Qa,Qb,Qc])
  refine tke ?_;refine Qm (by kernel_rfl) ?_ _;go_wp2_with fail;go_ret;exact⟨rfl,Za1 HBX hbk.out⟩
 | true=>
 have HZ4:Hid ((decide (x.i=0) && (decide (x.v=0) && (decide (x.c.length=0) && (decide (x.d.length=0) && (decide (x.a=y.a) && ra)))))=z):=HZ3;clear HZ3;by_cases h2:x.i=0
 case neg=>
  have th2:(x.i !=0)=true:=by rw[bne_iff_ne];omega
  obtain rfl:z=false:=by rw[←HZ4.out,Zcm h2];simp
  clear h2;go_enter func34,ntmps34;go_wp2_with fail;clear hX;refine Ql (S:=fun w'=>w'.cell? ⟨w.heap.size,8,none⟩=some (.int .i64 j)∧w'.cell? ⟨w.heap.size,5,none⟩=some (.int .i64 x.b.k)∧w'.cell? ⟨w.heap.size,6,none⟩=some (.int .i64 x.b.n)∧w'.cell? ⟨w.heap.size,7,none⟩=some (.slice p.B x.b.l.length p.bc)∧w'.cell? ⟨w.heap.size,10,none⟩=some (.int .i64 x.a)∧w'.cell? ⟨w.heap.size,11,none⟩=some (.int .i64 x.i)∧w'.cell? ⟨w.heap.size,12,none⟩=some (.int .i64 x.v)∧w'.cell? ⟨w.heap.size,13,none⟩=some (.slice p.C x.c.length p.cc)∧w'.cell? ⟨w.heap.size,14,none⟩=some (.slice p.D x.d.length p.dc)∧w'.cell? ⟨b,o+j*15+10,none⟩=some (.int .i64 y.a)) (by kernel_rfl) ?_ (fun hHeld=> ?_)
  ·exact HKB.out _ hbk.out
  refine tkp [0,1,2] ?_;iterate 3 (refine tkr (HKB.out _ hbk.out) ?_;simp only[Qe,Qa,Qb,Qc])
  refine tke ?_;refine Qk (rs:=[3]) (by kernel_rfl) (by simp) ?_;refine Qi (o:=({dst:=some 15,op:=Qr {callee:=Qq (Qg 10),args:= #[Qf 12,Qf 14,Qh (.int .i64 1)],argTypes:= #[22,3,3]},type:=4,pos:= "ref.go:84",after:= #[{on:=0,ground:=Qn},{on:=2,ground:=Qn}],guard:=none}:Oper)) rfl (fun K hK=> ?_) Qj;go_simp;refine(CIS.out _ hbk.out).mono ?_;rintro e w3 ⟨rfl,rfl⟩;try (dsimp only)
  try go_wp2_with fail
  refine hK.out _ _ (HKB.out _ hbk.out) (fun hHeld=> ?_);clear hK K;try simp only[Qe,Qa,Qb,Qc]
  refine tkp [4,5,6,7,8,9,10,11,12,13] ?_;iterate 10 (refine tkr (HKB.out _ hbk.out) ?_;simp only[Qe,Qa,Qb,Qc])
  refine tke ?_;refine Qk (rs:=[14]) (by kernel_rfl) (by simp) ?_;refine Qi (o:=({dst:=some 26,op:=Qr {callee:=Qq (Qg 64),args:= #[Qf 25],argTypes:= #[27]},type:=4,pos:= "ref.go:84",after:= #[{on:=13,ground:=Qn},{on:=11,ground:=Qp},{on:=11,ground:=Qo}],guard:=some (11,false)}:Oper)) rfl (fun K hK=> ?_) Qj;go_simp;refine(CZ.out _).mono ?_;rintro e w4 ⟨rfl,hbn⟩;have hbk:=hid (Za1 hbk hbn);clear hbn;try (dsimp only)
  try go_wp2_with fail
  refine hK.out _ _ (HKB.out _ hbk.out) (fun hHeld=> ?_);clear hK K;try simp only[Qe,Qa,Qb,Qc]
  refine tkp [15,16,17,18,19,20,21,22] ?_;iterate 8 (refine tkr (HKB.out _ hbk.out) ?_;simp only[Qe,Qa,Qb,Qc])
  refine tke ?_;refine tko (by kernel_rfl) (fun _ _ _ _ h=>h) (HKB.out _ hbk.out) [(23,35),(24,36),(25,37)] 3 rfl _ _ (by kernel_rfl) ?_;simp only[Js,Jt,Qe,Qa,Qb,Qc];refine tkp [26,27] ?_;iterate 2 (refine tkr (HKB.out _ hbk.out) ?_;simp only[Qe,Qa,Qb,Qc])
  refine tke ?_;refine tko (by kernel_rfl) (fun _ _ _ _ h=>h) (HKB.out _ hbk.out) [(28,40),(29,41),(30,42),(31,43)] 4 rfl _ _ (by kernel_rfl) ?_;simp only[Js,Jt,Qe,Qa,Qb,Qc];refine tkp [32,33] ?_;iterate 2 (refine tkr (HKB.out _ hbk.out) ?_;simp only[Qe,Qa,Qb,Qc])
  refine tke ?_;refine tko (by kernel_rfl) (fun _ _ _ _ h=>h) (HKB.out _ hbk.out) [(34,46),(35,47),(36,48),(37,49)] 4 rfl _ _ (by kernel_rfl) ?_;simp only[Js,Jt,Qe,Qa,Qb,Qc];refine tkp [38,39] ?_;iterate 2 (refine tkr (HKB.out _ hbk.out) ?_;simp only[Qe,Qa,Qb,Qc])
  refine tke ?_;refine tko (by kernel_rfl) (fun _ _ _ _ h=>h) (HKB.out _ hbk.out) [(40,52),(41,53),(42,54),(43,55),(44,56),(45,57),(46,58),(47,59),(48,60)] 9 rfl _ _ (by kernel_rfl) ?_;simp only[Js,Jt,Qe,Qa,Qb,Qc];refine tkp [49] ?_;iterate 1 (refine tkr (HKB.out _ hbk.out) ?_;simp only[Qe,Qa,Qb,Qc])
  refine tke ?_;refine Qm (by kernel_rfl) ?_ _;go_wp2_with fail;go_ret;exact⟨rfl,Za1 HBX hbk.out⟩
 have th2:(x.i !=0)=false:=by rw[bne_eq_false_iff_eq];omega
 by_cases h3:x.v=0
 case neg=>
  have th3:(x.v !=0)=true:=by rw[bne_iff_ne];omega
  obtain rfl:z=false:=by rw[←HZ4.out,Zcm h3];simp
  clear h2 h3;go_enter func34,ntmps34;go_wp2_with fail;clear hX;refine Ql (S:=fun w'=>w'.cell? ⟨w.heap.size,8,none⟩=some (.int .i64 j)∧w'.cell? ⟨w.heap.size,5,none⟩=some (.int .i64 x.b.k)∧w'.cell? ⟨w.heap.size,6,none⟩=some (.int .i64 x.b.n)∧w'.cell? ⟨w.heap.size,7,none⟩=some (.slice p.B x.b.l.length p.bc)∧w'.cell? ⟨w.heap.size,10,none⟩=some (.int .i64 x.a)∧w'.cell? ⟨w.heap.size,11,none⟩=some (.int .i64 x.i)∧w'.cell? ⟨w.heap.size,12,none⟩=some (.int .i64 x.v)∧w'.cell? ⟨w.heap.size,13,none⟩=some (.slice p.C x.c.length p.cc)∧w'.cell? ⟨w.heap.size,14,none⟩=some (.slice p.D x.d.length p.dc)∧w'.cell? ⟨b,o+j*15+10,none⟩=some (.int .i64 y.a)) (by kernel_rfl) ?_ (fun hHeld=> ?_)
  ·exact HKB.out _ hbk.out
  refine tkp [0,1,2] ?_;iterate 3 (refine tkr (HKB.out _ hbk.out) ?_;simp only[Qe,Qa,Qb,Qc])
  refine tke ?_;refine Qk (rs:=[3]) (by kernel_rfl) (by simp) ?_;refine Qi (o:=({dst:=some 15,op:=Qr {callee:=Qq (Qg 10),args:= #[Qf 12,Qf 14,Qh (.int .i64 1)],argTypes:= #[22,3,3]},type:=4,pos:= "ref.go:84",after:= #[{on:=0,ground:=Qn},{on:=2,ground:=Qn}],guard:=none}:Oper)) rfl (fun K hK=> ?_) Qj;go_simp;refine(CIS.out _ hbk.out).mono ?_;rintro e w3 ⟨rfl,rfl⟩;try (dsimp only)
  try go_wp2_with fail
  refine hK.out _ _ (HKB.out _ hbk.out) (fun hHeld=> ?_);clear hK K;try simp only[Qe,Qa,Qb,Qc]
  refine tkp [4,5,6,7,8,9,10,11,12,13] ?_;iterate 10 (refine tkr (HKB.out _ hbk.out) ?_;simp only[Qe,Qa,Qb,Qc])
  refine tke ?_;refine Qk (rs:=[14]) (by kernel_rfl) (by simp) ?_;refine Qi (o:=({dst:=some 26,op:=Qr {callee:=Qq (Qg 64),args:= #[Qf 25],argTypes:= #[27]},type:=4,pos:= "ref.go:84",after:= #[{on:=13,ground:=Qn},{on:=11,ground:=Qp},{on:=11,ground:=Qo}],guard:=some (11,false)}:Oper)) rfl (fun K hK=> ?_) Qj;go_simp;refine(CZ.out _).mono ?_;rintro e w4 ⟨rfl,hbn⟩;have hbk:=hid (Za1 hbk hbn);clear hbn;try (dsimp only)
  try go_wp2_with fail
  refine hK.out _ _ (HKB.out _ hbk.out) (fun hHeld=> ?_);clear hK K;try simp only[Qe,Qa,Qb,Qc]
  refine tkp [15,16,17,18,19,20,21,22,23,24,25,26,27] ?_;iterate 13 (refine tkr (HKB.out _ hbk.out) ?_;simp only[Qe,Qa,Qb,Qc])
  refine tke ?_;refine tko (by kernel_rfl) (fun _ _ _ _ h=>h) (HKB.out _ hbk.out) [(28,40),(29,41),(30,42),(31,43)] 4 rfl _ _ (by kernel_rfl) ?_;simp only[Js,Jt,Qe,Qa,Qb,Qc];refine tkp [32,33] ?_;iterate 2 (refine tkr (HKB.out _ hbk.out) ?_;simp only[Qe,Qa,Qb,Qc])
  refine tke ?_;refine tko (by kernel_rfl) (fun _ _ _ _ h=>h) (HKB.out _ hbk.out) [(34,46),(35,47),(36,48),(37,49)] 4 rfl _ _ (by kernel_rfl) ?_;simp only[Js,Jt,Qe,Qa,Qb,Qc];refine tkp [38,39] ?_;iterate 2 (refine tkr (HKB.out _ hbk.out) ?_;simp only[Qe,Qa,Qb,Qc])
  refine tke ?_;refine tko (by kernel_rfl) (fun _ _ _ _ h=>h) (HKB.out _ hbk.out) [(40,52),(41,53),(42,54),(43,55),(44,56),(45,57),(46,58),(47,59),(48,60)] 9 rfl _ _ (by kernel_rfl) ?_;simp only[Js,Jt,Qe,Qa,Qb,Qc];refine tkp [49] ?_;iterate 1 (refine tkr (HKB.out _ hbk.out) ?_;simp only[Qe,Qa,Qb,Qc])
  refine tke ?_;refine Qm (by kernel_rfl) ?_ _;go_wp2_with fail;go_ret;exact⟨rfl,Za1 HBX hbk.out⟩
 have th3:(x.v !=0)=false:=by rw[bne_eq_false_iff_eq];omega
 by_cases h4:x.c.length=0
 case neg=>
  have th4:((x.c.length:Int) !=0)=true:=by rw[bne_iff_ne];omega
  obtain rfl:z=false:=by rw[←HZ4.out,Zcm h4];simp
  clear h2 h3 h4;go_enter func34,ntmps34;go_wp2_with fail;clear hX;refine Ql (S:=fun w'=>w'.cell? ⟨w.heap.size,8,none⟩=some (.int .i64 j)∧w'.cell? ⟨w.heap.size,5,none⟩=some (.int .i64 x.b.k)∧w'.cell? ⟨w.heap.size,6,none⟩=some (.int .i64 x.b.n)∧w'.cell? ⟨w.heap.size,7,none⟩=some (.slice p.B x.b.l.length p.bc)∧w'.cell? ⟨w.heap.size,10,none⟩=some (.int .i64 x.a)∧w'.cell? ⟨w.heap.size,11,none⟩=some (.int .i64 x.i)∧w'.cell? ⟨w.heap.size,12,none⟩=some (.int .i64 x.v)∧w'.cell? ⟨w.heap.size,13,none⟩=some (.slice p.C x.c.length p.cc)∧w'.cell? ⟨w.heap.size,14,none⟩=some (.slice p.D x.d.length p.dc)∧w'.cell? ⟨b,o+j*15+10,none⟩=some (.int .i64 y.a)) (by kernel_rfl) ?_ (fun hHeld=> ?_)
  ·exact HKB.out _ hbk.out
  refine tkp [0,1,2] ?_;iterate 3 (refine tkr (HKB.out _ hbk.out) ?_;simp only[Qe,Qa,Qb,Qc])
  refine tke ?_;refine Qk (rs:=[3]) (by kernel_rfl) (by simp) ?_;refine Qi (o:=({dst:=some 15,op:=Qr {callee:=Qq (Qg 10),args:= #[Qf 12,Qf 14,Qh (.int .i64 1)],argTypes:= #[22,3,3]},type:=4,pos:= "ref.go:84",after:= #[{on:=0,ground:=Qn},{on:=2,ground:=Qn}],guard:=none}:Oper)) rfl (fun K hK=> ?_) Qj;go_simp;refine(CIS.out _ hbk.out).mono ?_;rintro e w3 ⟨rfl,rfl⟩;try (dsimp only)
  try go_wp2_with fail
  refine hK.out _ _ (HKB.out _ hbk.out) (fun hHeld=> ?_);clear hK K;try simp only[Qe,Qa,Qb,Qc]
  refine tkp [4,5,6,7,8,9,10,11,12,13] ?_;iterate 10 (refine tkr (HKB.out _ hbk.out) ?_;simp only[Qe,Qa,Qb,Qc])
  refine tke ?_;refine Qk (rs:=[14]) (by kernel_rfl) (by simp) ?_;refine Qi (o:=({dst:=some 26,op:=Qr {callee:=Qq (Qg 64),args:= #[Qf 25],argTypes:= #[27]},type:=4,pos:= "ref.go:84",after:= #[{on:=13,ground:=Qn},{on:=11,ground:=Qp},{on:=11,ground:=Qo}],guard:=some (11,false)}:Oper)) rfl (fun K hK=> ?_) Qj;go_simp;refine(CZ.out _).mono ?_;rintro e w4 ⟨rfl,hbn⟩;have hbk:=hid (Za1 hbk hbn);clear hbn;try (dsimp only)
  try go_wp2_with fail
  refine hK.out _ _ (HKB.out _ hbk.out) (fun hHeld=> ?_);clear hK K;try simp only[Qe,Qa,Qb,Qc]
  refine tkp [15,16,17,18,19,20,21,22,23,24,25,26,27,28,29,30,31,32,33] ?_;iterate 19 (refine tkr (HKB.out _ hbk.out) ?_;simp only[Qe,Qa,Qb,Qc])
  refine tke ?_;refine tko (by kernel_rfl) (fun _ _ _ _ h=>h) (HKB.out _ hbk.out) [(34,46),(35,47),(36,48),(37,49)] 4 rfl _ _ (by kernel_rfl) ?_;simp only[Js,Jt,Qe,Qa,Qb,Qc];refine tkp [38,39] ?_;iterate 2 (refine tkr (HKB.out _ hbk.out) ?_;simp only[Qe,Qa,Qb,Qc])
  refine tke ?_;refine tko (by kernel_rfl) (fun _ _ _ _ h=>h) (HKB.out _ hbk.out) [(40,52),(41,53),(42,54),(43,55),(44,56),(45,57),(46,58),(47,59),(48,60)] 9 rfl _ _ (by kernel_rfl) ?_;simp only[Js,Jt,Qe,Qa,Qb,Qc];refine tkp [49] ?_;iterate 1 (refine tkr (HKB.out _ hbk.out) ?_;simp only[Qe,Qa,Qb,Qc])
  refine tke ?_;refine Qm (by kernel_rfl) ?_ _;go_wp2_with fail;go_ret;exact⟨rfl,Za1 HBX hbk.out⟩
 have th4:((x.c.length:Int) !=0)=false:=by rw[bne_eq_false_iff_eq];omega
 by_cases h5:x.d.length=0
 case neg=>
  have th5:((x.d.length:Int) !=0)=true:=by rw[bne_iff_ne];omega
  obtain rfl:z=false:=by rw[←HZ4.out,Zcm h5];simp
  clear h2 h3 h4 h5;go_enter func34,ntmps34;go_wp2_with fail;clear hX;refine Ql (S:=fun w'=>w'.cell? ⟨w.heap.size,8,none⟩=some (.int .i64 j)∧w'.cell? ⟨w.heap.size,5,none⟩=some (.int .i64 x.b.k)∧w'.cell? ⟨w.heap.size,6,none⟩=some (.int .i64 x.b.n)∧w'.cell? ⟨w.heap.size,7,none⟩=some (.slice p.B x.b.l.length p.bc)∧w'.cell? ⟨w.heap.size,10,none⟩=some (.int .i64 x.a)∧w'.cell? ⟨w.heap.size,11,none⟩=some (.int .i64 x.i)∧w'.cell? ⟨w.heap.size,12,none⟩=some (.int .i64 x.v)∧w'.cell? ⟨w.heap.size,13,none⟩=some (.slice p.C x.c.length p.cc)∧w'.cell? ⟨w.heap.size,14,none⟩=some (.slice p.D x.d.length p.dc)∧w'.cell? ⟨b,o+j*15+10,none⟩=some (.int .i64 y.a)) (by kernel_rfl) ?_ (fun hHeld=> ?_)
  ·exact HKB.out _ hbk.out
  refine tkp [0,1,2] ?_;iterate 3 (refine tkr (HKB.out _ hbk.out) ?_;simp only[Qe,Qa,Qb,Qc])
  refine tke ?_;refine Qk (rs:=[3]) (by kernel_rfl) (by simp) ?_;refine Qi (o:=({dst:=some 15,op:=Qr {callee:=Qq (Qg 10),args:= #[Qf 12,Qf 14,Qh (.int .i64 1)],argTypes:= #[22,3,3]},type:=4,pos:= "ref.go:84",after:= #[{on:=0,ground:=Qn},{on:=2,ground:=Qn}],guard:=none}:Oper)) rfl (fun K hK=> ?_) Qj;go_simp;refine(CIS.out _ hbk.out).mono ?_;rintro e w3 ⟨rfl,rfl⟩;try (dsimp only)
  try go_wp2_with fail
  refine hK.out _ _ (HKB.out _ hbk.out) (fun hHeld=> ?_);clear hK K;try simp only[Qe,Qa,Qb,Qc]
  refine tkp [4,5,6,7,8,9,10,11,12,13] ?_;iterate 10 (refine tkr (HKB.out _ hbk.out) ?_;simp only[Qe,Qa,Qb,Qc])
  refine tke ?_;refine Qk (rs:=[14]) (by kernel_rfl) (by simp) ?_;refine Qi (o:=({dst:=some 26,op:=Qr {callee:=Qq (Qg 64),args:= #[Qf 25],argTypes:= #[27]},type:=4,pos:= "ref.go:84",after:= #[{on:=13,ground:=Qn},{on:=11,ground:=Qp},{on:=11,ground:=Qo}],guard:=some (11,false)}:Oper)) rfl (fun K hK=> ?_) Qj;go_simp;refine(CZ.out _).mono ?_;rintro e w4 ⟨rfl,hbn⟩;have hbk:=hid (Za1 hbk hbn);clear hbn;try (dsimp only)
  try go_wp2_with fail
  refine hK.out _ _ (HKB.out _ hbk.out) (fun hHeld=> ?_);clear hK K;try simp only[Qe,Qa,Qb,Qc]
  refine tkp [15,16,17,18,19,20,21,22,23,24,25,26,27,28,29,30,31,32,33,34,35,36,37,38,39] ?_;iterate 25 (refine tkr (HKB.out _ hbk.out) ?_;simp only[Qe,Qa,Qb,Qc])
  refine tke ?_;refine tko (by kernel_rfl) (fun _ _ _ _ h=>h) (HKB.out _ hbk.out) [(40,52),(41,53),(42,54),(43,55),(44,56),(45,57),(46,58),(47,59),(48,60)] 9 rfl _ _ (by kernel_rfl) ?_;simp only[Js,Jt,Qe,Qa,Qb,Qc];refine tkp [49] ?_;iterate 1 (refine tkr (HKB.out _ hbk.out) ?_;simp only[Qe,Qa,Qb,Qc])
  refine tke ?_;refine Qm (by kernel_rfl) ?_ _;go_wp2_with fail;go_ret;exact⟨rfl,Za1 HBX hbk.out⟩
 have th5:((x.d.length:Int) !=0)=false:=by rw[bne_eq_false_iff_eq];omega
 have HZ5:Hid ((decide (x.a=y.a) && ra)=z):=hid (by
  have:=HZ4.out;rw[Zcn h2,Zcn h3,Zcn h4,Zcn h5]at this;exact this)
 clear HZ4 h2 h3 h4 h5;by_cases h6:x.a=y.a
 case neg=>
  have t6:(x.a !=y.a)=true:=by simpa using h6
  obtain rfl:z=false:=by rw[←HZ5.out,Zcm h6];rfl
  clear h6;go_enter func34,ntmps34;go_wp2_with fail;clear hX;refine Ql (S:=fun w'=>w'.cell? ⟨w.heap.size,8,none⟩=some (.int .i64 j)∧w'.cell? ⟨w.heap.size,5,none⟩=some (.int .i64 x.b.k)∧w'.cell? ⟨w.heap.size,6,none⟩=some (.int .i64 x.b.n)∧w'.cell? ⟨w.heap.size,7,none⟩=some (.slice p.B x.b.l.length p.bc)∧w'.cell? ⟨w.heap.size,10,none⟩=some (.int .i64 x.a)∧w'.cell? ⟨w.heap.size,11,none⟩=some (.int .i64 x.i)∧w'.cell? ⟨w.heap.size,12,none⟩=some (.int .i64 x.v)∧w'.cell? ⟨w.heap.size,13,none⟩=some (.slice p.C x.c.length p.cc)∧w'.cell? ⟨w.heap.size,14,none⟩=some (.slice p.D x.d.length p.dc)∧w'.cell? ⟨b,o+j*15+10,none⟩=some (.int .i64 y.a)) (by kernel_rfl) ?_ (fun hHeld=> ?_)
  ·exact HKB.out _ hbk.out
  refine tkp [0,1,2] ?_;iterate 3 (refine tkr (HKB.out _ hbk.out) ?_;simp only[Qe,Qa,Qb,Qc])
  refine tke ?_;refine Qk (rs:=[3]) (by kernel_rfl) (by simp) ?_;refine Qi (o:=({dst:=some 15,op:=Qr {callee:=Qq (Qg 10),args:= #[Qf 12,Qf 14,Qh (.int .i64 1)],argTypes:= #[22,3,3]},type:=4,pos:= "ref.go:84",after:= #[{on:=0,ground:=Qn},{on:=2,ground:=Qn}],guard:=none}:Oper)) rfl (fun K hK=> ?_) Qj;go_simp;refine(CIS.out _ hbk.out).mono ?_;rintro e w3 ⟨rfl,rfl⟩;try (dsimp only)
  try go_wp2_with fail
  refine hK.out _ _ (HKB.out _ hbk.out) (fun hHeld=> ?_);clear hK K;try simp only[Qe,Qa,Qb,Qc]
  refine tkp [4,5,6,7,8,9,10,11,12,13] ?_;iterate 10 (refine tkr (HKB.out _ hbk.out) ?_;simp only[Qe,Qa,Qb,Qc])
  refine tke ?_;refine Qk (rs:=[14]) (by kernel_rfl) (by simp) ?_;refine Qi (o:=({dst:=some 26,op:=Qr {callee:=Qq (Qg 64),args:= #[Qf 25],argTypes:= #[27]},type:=4,pos:= "ref.go:84",after:= #[{on:=13,ground:=Qn},{on:=11,ground:=Qp},{on:=11,ground:=Qo}],guard:=some (11,false)}:Oper)) rfl (fun K hK=> ?_) Qj;go_simp;refine(CZ.out _).mono ?_;rintro e w4 ⟨rfl,hbn⟩;have hbk:=hid (Za1 hbk hbn);clear hbn;try (dsimp only)
  try go_wp2_with fail
  refine hK.out _ _ (HKB.out _ hbk.out) (fun hHeld=> ?_);clear hK K;try simp only[Qe,Qa,Qb,Qc]
  refine tkp [15,16,17,18,19,20,21,22,23,24,25,26,27,28,29,30,31,32,33,34,35,36,37,38,39,40,41,42,43,44,45,46,47,48,49] ?_;iterate 35 (refine tkr (HKB.out _ hbk.out) ?_;simp only[Qe,Qa,Qb,Qc])
  refine tke ?_;refine Qm (by kernel_rfl) ?_ _;go_wp2_with fail;go_ret;exact⟨rfl,Za1 HBX hbk.out⟩
 have t6:(x.a !=y.a)=false:=by simpa using h6
 obtain rfl:ra=z:=by rw[←HZ5.out,Zcn h6];rfl
 clear h6 HZ5;go_enter func34,ntmps34;go_wp2_with fail;clear hX;refine Ql (S:=fun w'=>w'.cell? ⟨w.heap.size,8,none⟩=some (.int .i64 j)∧w'.cell? ⟨w.heap.size,5,none⟩=some (.int .i64 x.b.k)∧w'.cell? ⟨w.heap.size,6,none⟩=some (.int .i64 x.b.n)∧w'.cell? ⟨w.heap.size,7,none⟩=some (.slice p.B x.b.l.length p.bc)∧w'.cell? ⟨w.heap.size,10,none⟩=some (.int .i64 x.a)∧w'.cell? ⟨w.heap.size,11,none⟩=some (.int .i64 x.i)∧w'.cell? ⟨w.heap.size,12,none⟩=some (.int .i64 x.v)∧w'.cell? ⟨w.heap.size,13,none⟩=some (.slice p.C x.c.length p.cc)∧w'.cell? ⟨w.heap.size,14,none⟩=some (.slice p.D x.d.length p.dc)∧w'.cell? ⟨b,o+j*15+10,none⟩=some (.int .i64 y.a)) (by kernel_rfl) ?_ (fun hHeld=> ?_)
 ·exact HKB.out _ hbk.out
 refine tkp [0,1,2] ?_;iterate 3 (refine tkr (HKB.out _ hbk.out) ?_;simp only[Qe,Qa,Qb,Qc])
 refine tke ?_;refine Qk (rs:=[3]) (by kernel_rfl) (by simp) ?_;refine Qi (o:=({dst:=some 15,op:=Qr {callee:=Qq (Qg 10),args:= #[Qf 12,Qf 14,Qh (.int .i64 1)],argTypes:= #[22,3,3]},type:=4,pos:= "ref.go:84",after:= #[{on:=0,ground:=Qn},{on:=2,ground:=Qn}],guard:=none}:Oper)) rfl (fun K hK=> ?_) Qj;go_simp;refine(CIS.out _ hbk.out).mono ?_;rintro e w3 ⟨rfl,rfl⟩;try (dsimp only)
 try go_wp2_with fail
 refine hK.out _ _ (HKB.out _ hbk.out) (fun hHeld=> ?_);clear hK K;try simp only[Qe,Qa,Qb,Qc]
 refine tkp [4,5,6,7,8,9,10,11,12,13] ?_;iterate 10 (refine tkr (HKB.out _ hbk.out) ?_;simp only[Qe,Qa,Qb,Qc])
 refine tke ?_;refine Qk (rs:=[14]) (by kernel_rfl) (by simp) ?_;refine Qi (o:=({dst:=some 26,op:=Qr {callee:=Qq (Qg 64),args:= #[Qf 25],argTypes:= #[27]},type:=4,pos:= "ref.go:84",after:= #[{on:=13,ground:=Qn},{on:=11,ground:=Qp},{on:=11,ground:=Qo}],guard:=some (11,false)}:Oper)) rfl (fun K hK=> ?_) Qj;go_simp;refine(CZ.out _).mono ?_;rintro e w4 ⟨rfl,hbn⟩;have hbk:=hid (Za1 hbk hbn);clear hbn;try (dsimp only)
 try go_wp2_with fail
 refine hK.out _ _ (HKB.out _ hbk.out) (fun hHeld=> ?_);clear hK K;try simp only[Qe,Qa,Qb,Qc]
 refine tkp [15,16,17,18,19,20,21,22,23,24,25,26,27,28,29,30,31,32,33,34,35,36,37,38,39,40,41,42,43,44,45,46,47,48,49] ?_;iterate 35 (refine tkr (HKB.out _ hbk.out) ?_;simp only[Qe,Qa,Qb,Qc])
 refine tke ?_;refine Qm (by kernel_rfl) ?_ _;have HBY:=hid (Za1 HBX hbk.out);obtain⟨v0,v1,v2,v3,v4,v5,v6,v7,v8,v9,v10,v11,v12,v13,v14⟩:=KB.out _ hbk.out;rw[HF.out]at v8;obtain⟨u13,u14,HRC0,HRD0⟩:=HYL.out _ HBY.out;have HRC:=hid HRC0;have HRD:=hid HRD0;have hsz4:b<w4.heap.size:=by have:=HBY.out.size;omega
 have hsz5:w.heap.size<w4.heap.size:=by have:=hbk.out.size;have:=HXS.out;omega
 have HHI:=hid (show hh≤w4.heap.size by have:=HBY.out.size;omega);clear HRC0 HRD0 HKB CIS CZ HYL;by_cases hk4:x.k=4
 ·have tk:(x.k==4)=true:=by simpa using hk4
  have HRA2:Hid ((!(Zv (fun q=> !atB x i y.d q) y.d.length))=ra):=hid (by
   have:=HRA.out;unfold Zdx at this
   rwa [if_pos hk4]at this)
  clear HRA hk4;go_wp2_with fail;go_loopw [7] (fun iv wr=>∃k:Nat,k≤y.d.length∧iv= .int .i64 k∧w4=wr∧Hid (Zv (fun q=> !atB x i y.d q) k=true)) (fun iv _=>y.d.length - (intOf iv).toNat)
  case atStart=>exact⟨0,Qt _,rfl,rfl,hid rfl⟩
  case round=>
   obtain⟨k,hk1,rfl,rfl,HQ⟩:=hrel;by_cases hkl:k<y.d.length
   ·obtain⟨b3,o3,e3,_,q3,c3⟩:=HRD.out k hkl;have hb3:b3<w4.heap.size:=by have:=HHI.out;omega
    have hat:atB x i y.d k=(decide (y.d[k]=(i:Int)) && decide (x.p=(k:Int))):=by unfold atB;rw[Qd hkl]
    have hyes:Hid (atB x i y.d k=true→ra=true):=hid (fun h=>by rw[←HRA2.out];rw[Zdj hkl (by rw[h];rfl)];rfl);have hno:Hid (atB x i y.d k=false→Zv (fun q=> !atB x i y.d q) (k+1)=true):=hid (fun h=>by rw[Zv,HQ.out,h];rfl);rw[hat]at hyes hno;obtain⟨n,hn⟩:∃n,y.d[k]=n:=⟨_,rfl⟩;rw[hn]at c3 hyes hno;have hk0:(k:Int)<(y.d.length:Int):=by omega
    clear hat hn;rw[e3]at*;by_cases hni:n=(i:Int)
    ·have t7:(n==(i:Int))=true:=by simpa using hni
     by_cases hpk:x.p=(k:Int)
     ·have t8:(x.p==(k:Int))=true:=by simpa using hpk
      obtain rfl:ra=true:=hyes.out (by rw[Zcn hni,Zcn hpk];rfl);clear hni hpk hyes hno;go_wp2_with fail;go_ret;exact⟨rfl,HBY.out⟩
     ·have t8:(x.p==(k:Int))=false:=by simpa using hpk
      have HY:=hid (hno.out (by rw[Zcm hpk];simp));clear hni hpk hyes hno;go_wp2_with fail;go_roundw
      case rel=>exact⟨k+1,by omega,by go_num,by first|rfl|trivial,hid HY.out⟩
      case measure=>simp[intOf];omega
    ·have t7:(n==(i:Int))=false:=by simpa using hni
     have HY:=hid (hno.out (by rw[Zcm hni];rfl));clear hni hyes hno;go_wp2_with fail;go_roundw
     case rel=>exact⟨k+1,by omega,by go_num,by first|rfl|trivial,hid HY.out⟩
     case measure=>simp[intOf];omega
   ·obtain rfl:k=y.d.length:=by omega
    obtain rfl:ra=false:=by rw[←HRA2.out,HQ.out];rfl
    go_wp2_with fail;go_ret;exact⟨rfl,HBY.out⟩
 ·have tk:(x.k==4)=false:=by simpa using hk4
  have HRA2:Hid ((!(Zv (fun q=> !atB x i y.c q) y.c.length))=ra):=hid (by
   have:=HRA.out;unfold Zdx at this
   rwa [if_neg hk4]at this)
  clear HRA hk4;go_wp2_with fail;go_loopw [7] (fun iv wr=>∃k:Nat,k≤y.c.length∧iv= .int .i64 k∧w4=wr∧Hid (Zv (fun q=> !atB x i y.c q) k=true)) (fun iv _=>y.c.length - (intOf iv).toNat)
  case atStart=>exact⟨0,Qt _,rfl,rfl,hid rfl⟩
  case round=>
   obtain⟨k,hk1,rfl,rfl,HQ⟩:=hrel;by_cases hkl:k<y.c.length
   ·obtain⟨b3,o3,e3,_,q3,c3⟩:=HRC.out k hkl;have hb3:b3<w4.heap.size:=by have:=HHI.out;omega
    have hat:atB x i y.c k=(decide (y.c[k]=(i:Int)) && decide (x.p=(k:Int))):=by unfold atB;rw[Qd hkl]
    have hyes:Hid (atB x i y.c k=true→ra=true):=hid (fun h=>by rw[←HRA2.out];rw[Zdj hkl (by rw[h];rfl)];rfl);have hno:Hid (atB x i y.c k=false→Zv (fun q=> !atB x i y.c q) (k+1)=true):=hid (fun h=>by rw[Zv,HQ.out,h];rfl);rw[hat]at hyes hno;obtain⟨n,hn⟩:∃n,y.c[k]=n:=⟨_,rfl⟩;rw[hn]at c3 hyes hno;have hk0:(k:Int)<(y.c.length:Int):=by omega
    clear hat hn;rw[e3]at*;by_cases hni:n=(i:Int)
    ·have t7:(n==(i:Int))=true:=by simpa using hni
     by_cases hpk:x.p=(k:Int)
     ·have t8:(x.p==(k:Int))=true:=by simpa using hpk
      obtain rfl:ra=true:=hyes.out (by rw[Zcn hni,Zcn hpk];rfl);clear hni hpk hyes hno;go_wp2_with fail;go_ret;exact⟨rfl,HBY.out⟩
     ·have t8:(x.p==(k:Int))=false:=by simpa using hpk
      have HY:=hid (hno.out (by rw[Zcm hpk];simp));clear hni hpk hyes hno;go_wp2_with fail;go_roundw
      case rel=>exact⟨k+1,by omega,by go_num,by first|rfl|trivial,hid HY.out⟩
      case measure=>simp[intOf];omega
    ·have t7:(n==(i:Int))=false:=by simpa using hni
     have HY:=hid (hno.out (by rw[Zcm hni];rfl));clear hni hyes hno;go_wp2_with fail;go_roundw
     case rel=>exact⟨k+1,by omega,by go_num,by first|rfl|trivial,hid HY.out⟩
     case measure=>simp[intOf];omega
   ·obtain rfl:k=y.c.length:=by omega
    obtain rfl:ra=false:=by rw[←HRA2.out,HQ.out];rfl
    go_wp2_with fail;go_ret;exact⟨rfl,HBY.out⟩
