import Derived.Test.YtinlmmaokphhbaaGreatDoorC2
import Derived.Test.YtinlmmaokphhbaaGreatDoorSgCon
namespace Go.Proofs.YtinlmmaokphhbaaGreatDoor
open Go.RowKit
set_option linter.unusedVariables false
set_option maxRecDepth 100000
open Lib(hid)
open Go.Proofs.Tryz
open _root_.List renaming setIfInBounds_toArray→Qa,set_cons_zero→Qb,set_cons_succ→Qc,length_take→Qd,getElem?_eq_getElem→Qe
open Go.Operand renaming tmp→Qf,func→Qg,const→Qh
open Go.Ground renaming data→Qi,guard→Qj,chain→Qk
open Go.AllReadyH renaming cons→Ql,nil→Qm
open Go renaming wpAnyH_ready→Qn,wp_region_held_drew→Qo,wpAnyH_done→Qp
open Go.Act renaming put→Qq
open Go.Callee renaming value→Qr
open _root_.Bool renaming true_and→Qs
open Go.Op renaming call→Qt
open _root_.Int renaming toNat_natCast→Qu
theorem Zbd{a b c:World}(x:Hid (Below a.heap.size a b))(y:Below b.heap.size b c):Below a.heap.size a c:=x.out.trans (y.mono x.out.size)
set_option maxHeartbeats 8000000 in
theorem Z34 (l:List ET)(A:Option Addr)(cap i:Nat)(hi:i<l.length)(lo hh:Nat)(w:World)(hl:l.length≤600)(hlc:l.length≤cap)(hn:Zr w lo hh A l)(hhh:hh≤w.heap.size)(hS:Zi w)
    (hfo:Zj3 l i) (hsh:Zb l[i].t=true):
    Calls prog 109 #[.slice A l.length cap,.int .i64 i] w fun e w'=>e= .returned (.bool (Zmz l i l[i]))∧Below w.heap.size w w':=by
  obtain⟨b,o,p,hA,hb1,hb2,hx,hent⟩:=hn i hi;have HN:=hid hn;have HFO:=hid hfo;have HIS0:=hid (fun(n:Int) V (hV:Below w.heap.size w V)=>Zlx (l.take i) A cap lo hh n 1 V (by rw[Qd];unfold maxLen;omega) ((hn.kept hV hhh).take i));have HLT:=hid (show(l.take i).length=i by rw[Qd];omega);have HND:=hid (fun(j:Nat)(hj:j<l.length)(t:TM)(T:Option Addr)(tc bs lo' hi':Nat)(V:World)(hV:Below w.heap.size w V) h1 h2 h3 h4 h5 h6 h7 h8=>Zvo l A cap j hj t T tc bs lo hh lo' hi' V hl (hn.kept hV hhh) (by have:=hV.size;omega) h1 h2 (hS.kept hV) h3 h4 h5 h6 h7 h8);have HLL:=hid hl;obtain⟨z,hz⟩:∃z,Zmz l i l[i]=z:=⟨_,rfl⟩;rw[hz];unfold Zmz at hz;obtain⟨x,hxx⟩:∃x,l[i]=x:=⟨_,rfl⟩;rw[hxx]at hx hent hz hsh;obtain⟨x0,x1,x2,x3,x4,x5,x6,x7,x8,x9,x10,x11,x12,x13,x14⟩:=hx;subst hA;have hbw:b<w.heap.size:=by omega
  have hi0':(i:Int)<(l.length:Int):=by omega
  have hi1:(i:Int)<600:=by omega
  have HZ:=hid hz;have HB1:=hid (show Below w.heap.size w (w.alloc (.cells (Z1 x p) 36))from(Below.refl _ _).alloc (Nat.le_refl _) _);have KB:=hid (fun V (hV:Below (w.alloc (.cells (Z1 x p) 36)).heap.size (w.alloc (.cells (Z1 x p) 36)) V)=>(show Zlb V w.heap.size x p from((Bk.new w 36 (Z1 x p)).below hV (by simp)).boxE));have HENT:=hid (fun V (hV:Below w.heap.size w V)=>hent.kept hV hhh);have HSS:=hid (fun V (hV:Below w.heap.size w V)=>hS.kept hV);have HSH:=hid hsh;have hra:=hent.ra;have hlc':(l.length:Int)≤(cap:Int):=by omega
  have hic:(i:Int)≤(cap:Int):=by omega
  have HIS:Hid (∀(V:World),Below w.heap.size w V→Calls prog 56 #[.slice (some ⟨b,o,none⟩) i cap,.int .i64 x.f,.int .i64 1] V fun e w'=>e= .returned (.bool (isB (l.take i) x.f 1))∧V=w'):=hid (fun V hV=>by
    have:=HIS0.out x.f V hV;rw[HLT.out]at this;exact this)
  clear hz hxx hent hn hS hl hb1 hb2 hfo hsh hlc HIS0;obtain⟨X,hX⟩:∃X,w.alloc (.cells (Z1 x p) 36)=X:=⟨_,rfl⟩;rw[hX]at HB1 KB;have HBX:=hid HB1.out;have HXS:=hid (show w.heap.size<X.heap.size from by rw[←hX];simp);have hbk:=hid ((Below.refl X.heap.size X).drew);have HKA:=hid (fun V (hV:Below X.heap.size X V)=>(KB.out V hV).c8);unfold Z1 at hX;obtain⟨rb,hrb⟩:∃r,isB (l.take i) x.f 1=r:=⟨_,rfl⟩;rw[hrb]at HIS;have CIS:=hid (fun V (hV:Below X.heap.size X V)=>HIS.out V (Zbd HBX hV));cases rb with
  | false=>
    obtain rfl:z=false:=by rw[←HZ.out,hrb];rfl
    clear hrb;go_enter func109,ntmps109;go_wp2_with fail;clear hX;refine Qo (S:=fun w'=>w'.cell? ⟨w.heap.size,8,none⟩=some (.int .i64 x.f)) (by kernel_rfl) ?_ (fun hHeld=> ?_)
    · exact HKA.out _ hbk.out
    refine tkp [0,1,2,3,4] ?_;iterate 5 (refine tkr (HKA.out _ hbk.out) ?_;simp only[Qq,Qa,Qb,Qc])
    refine tke ?_;refine Qn (rs:=[5]) (by kernel_rfl) (by simp) ?_;refine Ql (o:=({dst:=some 20,op:=Qt {callee:=Qr (Qg 56),args:= #[Qf 17,Qf 19,Qh (.int .i64 1)],argTypes:= #[22,3,3]},type:=4,pos:= "sign.go:245",after:= #[{on:=2,ground:=Qi},{on:=4,ground:=Qi}],guard:=none}:Oper)) rfl (fun K hK=> ?_) Qm;go_simp;refine(CIS.out _ hbk.out).mono ?_;rintro e w3 ⟨rfl,rfl⟩;try (dsimp only)
    try go_wp2_with fail
    refine hK.out _ _ (HKA.out _ hbk.out) (fun hHeld=> ?_);clear hK K;try simp only[Qq,Qa,Qb,Qc]
    refine tkp [6,7] ?_;iterate 2 (refine tkr (HKA.out _ hbk.out) ?_;simp only[Qq,Qa,Qb,Qc])
    refine tke ?_;refine tko (by kernel_rfl) (fun _ _ _ _ h=>h) (HKA.out _ hbk.out) [(8,23),(9,24),(10,25),(11,26),(12,27),(13,28),(14,29),(15,30),(16,31)] 9 rfl _ _ (by kernel_rfl) ?_;simp only[Js,Jt,Qq,Qa,Qb,Qc];refine tkp [17,18] ?_;iterate 2 (refine tkr (HKA.out _ hbk.out) ?_;simp only[Qq,Qa,Qb,Qc])
    refine tke ?_;refine tko (by kernel_rfl) (fun _ _ _ _ h=>h) (HKA.out _ hbk.out) [(19,34),(20,35),(21,36),(22,37),(23,38),(24,39),(25,40),(26,41),(27,42)] 9 rfl _ _ (by kernel_rfl) ?_;simp only[Js,Jt,Qq,Qa,Qb,Qc];refine tkp [28] ?_;iterate 1 (refine tkr (HKA.out _ hbk.out) ?_;simp only[Qq,Qa,Qb,Qc])
    refine tke ?_;refine Qp (by kernel_rfl) ?_ _;go_wp2_with fail;go_ret;exact⟨rfl,Zbd HBX hbk.out⟩
  | true=>
  obtain⟨j,hf,hji,hj,hjk⟩:=Zgp hrb;have hfo:=HFO.out j hj hji hjk;obtain⟨b',o',q,hA', -,hbh,hy,henty⟩:=HN.out j hj;obtain⟨rfl,rfl⟩:b=b'∧o=o':=by
    injection hA' with r;injection r with r1 r2;exact⟨r1,r2⟩
  have hz2:=HZ.out;rw[hrb,Zak hf hj,Qs]at hz2;have CCO0:=hid (fun V (hV:Below w.heap.size w V)=>Zmr l[j].d (i:Int) q.D q.dc lo hh V (Nat.le_trans henty.ld henty.md) ((henty.hd).kept hV hhh));have CIN:=hid (fun(t:TM)(T:Option Addr)(tc bs lo' hi':Nat)(V:World)(hV:Below w.heap.size w V) h1 h2 h4 h7 h8=>HND.out j hj t T tc bs lo' hi' V hV h1 h2 h4 hfo.1 hfo.2.1 hfo.2.2 h7 h8);obtain⟨y,hyy⟩:∃y,l[j]=y:=⟨_,rfl⟩;rw[hyy]at hy hz2 CCO0 CIN hfo;have HKB:=hid (fun V (hV:Below X.heap.size X V)=>(show V.cell? ⟨w.heap.size,8,none⟩=some (.int .i64 j)∧V.cell? ⟨w.heap.size,10,none⟩=some (.int .i64 x.a)∧V.cell? ⟨b,o+j*15+14,none⟩=some (.slice q.D y.d.length q.dc)∧V.cell? ⟨b,o+j*15+10,none⟩=some (.int .i64 y.a)from
    ⟨by rw[(KB.out V hV).c8,hf],(KB.out V hV).c10,(hy.kept (Zbd HBX hV) hbw).c14,(hy.kept (Zbd HBX hV) hbw).c10⟩))
  obtain⟨rc,hrc⟩:∃r,y.d.contains (i:Int)=r:=⟨_,rfl⟩;dsimp only at hz2
  rw[hrc]at CCO0 hz2;have CCO:=hid (fun V (hV:Below X.heap.size X V)=>CCO0.out V (Zbd HBX hV));rw[hf]at CIS;have HF:=hid hf;have HZ2:Hid ((rc && (decide (x.a=y.a) && (decide (x.a+1≤24) && (decide (x.a+1≤(Zz x.t:Int)) && Zbu (Zgm x) x.f x.a.toNat y.i.toNat x.a.toNat))))=z):=hid hz2;have HFY:=hid hfo;have hj0:(j:Int)<(l.length:Int):=by omega
  have hj1:(j:Int)<600:=by omega
  clear hrb hz2 hrc henty hA' hy hyy hfo hjk hf HZ HIS HKA;cases rc with
  | false=>
    obtain rfl:z=false:=by rw[←HZ2.out];rfl
    go_enter func109,ntmps109;go_wp2_with fail;clear hX;refine Qo (S:=fun w'=>w'.cell? ⟨w.heap.size,8,none⟩=some (.int .i64 j)∧w'.cell? ⟨w.heap.size,10,none⟩=some (.int .i64 x.a)∧w'.cell? ⟨b,o+j*15+14,none⟩=some (.slice q.D y.d.length q.dc)∧w'.cell? ⟨b,o+j*15+10,none⟩=some (.int .i64 y.a)) (by kernel_rfl) ?_ (fun hHeld=> ?_)
    · exact HKB.out _ hbk.out
    refine tkp [0,1,2,3,4] ?_;iterate 5 (refine tkr (HKB.out _ hbk.out) ?_;simp only[Qq,Qa,Qb,Qc])
    refine tke ?_;refine Qn (rs:=[5]) (by kernel_rfl) (by simp) ?_;refine Ql (o:=({dst:=some 20,op:=Qt {callee:=Qr (Qg 56),args:= #[Qf 17,Qf 19,Qh (.int .i64 1)],argTypes:= #[22,3,3]},type:=4,pos:= "sign.go:245",after:= #[{on:=2,ground:=Qi},{on:=4,ground:=Qi}],guard:=none}:Oper)) rfl (fun K hK=> ?_) Qm;go_simp;refine(CIS.out _ hbk.out).mono ?_;rintro e w3 ⟨rfl,rfl⟩;try (dsimp only)
    try go_wp2_with fail
    refine hK.out _ _ (HKB.out _ hbk.out) (fun hHeld=> ?_);clear hK K;try simp only[Qq,Qa,Qb,Qc]
    refine tkp [6,7,8,9,10,11,12,13,14] ?_;iterate 9 (refine tkr (HKB.out _ hbk.out) ?_;simp only[Qq,Qa,Qb,Qc])
    refine tke ?_;refine Qn (rs:=[15]) (by kernel_rfl) (by simp) ?_;refine Ql (o:=({dst:=some 30,op:=Qt {callee:=Qr (Qg 129),args:= #[Qf 28,Qf 29],argTypes:= #[34,3]},type:=4,pos:= "sign.go:245",after:= #[{on:=13,ground:=Qi},{on:=14,ground:=Qi},{on:=7,ground:=Qk},{on:=7,ground:=Qj}],guard:=some (7,false)}:Oper)) rfl (fun K hK=> ?_) Qm;go_simp;refine(CCO.out _ hbk.out).mono ?_;rintro e w4 ⟨rfl,rfl⟩;try (dsimp only)
    try go_wp2_with fail
    refine hK.out _ _ (HKB.out _ hbk.out) (fun hHeld=> ?_);clear hK K;try simp only[Qq,Qa,Qb,Qc]
    refine tkp [16,17,18] ?_;iterate 3 (refine tkr (HKB.out _ hbk.out) ?_;simp only[Qq,Qa,Qb,Qc])
    refine tke ?_;refine tko (by kernel_rfl) (fun _ _ _ _ h=>h) (HKB.out _ hbk.out) [(19,34),(20,35),(21,36),(22,37),(23,38),(24,39),(25,40),(26,41),(27,42)] 9 rfl _ _ (by kernel_rfl) ?_;simp only[Js,Jt,Qq,Qa,Qb,Qc];refine tkp [28] ?_;iterate 1 (refine tkr (HKB.out _ hbk.out) ?_;simp only[Qq,Qa,Qb,Qc])
    refine tke ?_;refine Qp (by kernel_rfl) ?_ _;go_wp2_with fail;go_ret;exact⟨rfl,Zbd HBX hbk.out⟩
  | true=>
  rw[Qs]at HZ2;by_cases hpa:x.a=y.a
  case neg=>
    have t0:(x.a !=y.a)=true:=by simpa using hpa
    obtain rfl:z=false:=by rw[←HZ2.out,decide_eq_false hpa];rfl
    clear hpa;go_enter func109,ntmps109;go_wp2_with fail;clear hX;refine Qo (S:=fun w'=>w'.cell? ⟨w.heap.size,8,none⟩=some (.int .i64 j)∧w'.cell? ⟨w.heap.size,10,none⟩=some (.int .i64 x.a)∧w'.cell? ⟨b,o+j*15+14,none⟩=some (.slice q.D y.d.length q.dc)∧w'.cell? ⟨b,o+j*15+10,none⟩=some (.int .i64 y.a)) (by kernel_rfl) ?_ (fun hHeld=> ?_)
    · exact HKB.out _ hbk.out
    refine tkp [0,1,2,3,4] ?_;iterate 5 (refine tkr (HKB.out _ hbk.out) ?_;simp only[Qq,Qa,Qb,Qc])
    refine tke ?_;refine Qn (rs:=[5]) (by kernel_rfl) (by simp) ?_;refine Ql (o:=({dst:=some 20,op:=Qt {callee:=Qr (Qg 56),args:= #[Qf 17,Qf 19,Qh (.int .i64 1)],argTypes:= #[22,3,3]},type:=4,pos:= "sign.go:245",after:= #[{on:=2,ground:=Qi},{on:=4,ground:=Qi}],guard:=none}:Oper)) rfl (fun K hK=> ?_) Qm;go_simp;refine(CIS.out _ hbk.out).mono ?_;rintro e w3 ⟨rfl,rfl⟩;try (dsimp only)
    try go_wp2_with fail
    refine hK.out _ _ (HKB.out _ hbk.out) (fun hHeld=> ?_);clear hK K;try simp only[Qq,Qa,Qb,Qc]
    refine tkp [6,7,8,9,10,11,12,13,14] ?_;iterate 9 (refine tkr (HKB.out _ hbk.out) ?_;simp only[Qq,Qa,Qb,Qc])
    refine tke ?_;refine Qn (rs:=[15]) (by kernel_rfl) (by simp) ?_;refine Ql (o:=({dst:=some 30,op:=Qt {callee:=Qr (Qg 129),args:= #[Qf 28,Qf 29],argTypes:= #[34,3]},type:=4,pos:= "sign.go:245",after:= #[{on:=13,ground:=Qi},{on:=14,ground:=Qi},{on:=7,ground:=Qk},{on:=7,ground:=Qj}],guard:=some (7,false)}:Oper)) rfl (fun K hK=> ?_) Qm;go_simp;refine(CCO.out _ hbk.out).mono ?_;rintro e w4 ⟨rfl,rfl⟩;try (dsimp only)
    try go_wp2_with fail
    refine hK.out _ _ (HKB.out _ hbk.out) (fun hHeld=> ?_);clear hK K;try simp only[Qq,Qa,Qb,Qc]
    refine tkp [16,17,18,19,20,21,22,23,24,25,26,27,28] ?_;iterate 13 (refine tkr (HKB.out _ hbk.out) ?_;simp only[Qq,Qa,Qb,Qc])
    refine tke ?_;refine Qp (by kernel_rfl) ?_ _;go_wp2_with fail;go_ret;exact⟨rfl,Zbd HBX hbk.out⟩
  have t0:(x.a !=y.a)=false:=by simpa using hpa
  obtain⟨ps,hps⟩:∃n:Nat,x.a=(n:Int):=⟨x.a.toNat,by have:=HFY.out;omega⟩;have hps24:(ps:Int)≤24:=by have:=HFY.out;omega
  have HZ3:Hid ((decide (ps+1≤24) && (decide (ps+1≤Zz x.t) && Zbu (Zgm x) (j:Int) y.a.toNat y.i.toNat ps))=z):=hid (by
    have:=HZ2.out;rw[decide_eq_true hpa,HF.out,Qs,hps]at this;rw[←hpa,hps,←this];have e:decide (ps+1≤Zz x.t)=decide ((ps:Int)+1≤(Zz x.t:Int)):=by congr 1;apply propext;omega
    have e2:decide (ps+1≤24)=decide ((ps:Int)+1≤24):=by congr 1;apply propext;omega
    rw[e,e2,Qu])
  have HPY:=hid (show y.a=(ps:Int)by rw[←hpa,hps]);have HPS:=hid hps;clear HZ2 hpa hps;go_enter func109,ntmps109;go_wp2_with fail;clear hX;refine Qo (S:=fun w'=>w'.cell? ⟨w.heap.size,8,none⟩=some (.int .i64 j)∧w'.cell? ⟨w.heap.size,10,none⟩=some (.int .i64 x.a)∧w'.cell? ⟨b,o+j*15+14,none⟩=some (.slice q.D y.d.length q.dc)∧w'.cell? ⟨b,o+j*15+10,none⟩=some (.int .i64 y.a)) (by kernel_rfl) ?_ (fun hHeld=> ?_)
  · exact HKB.out _ hbk.out
  refine tkp [0,1,2,3,4] ?_;iterate 5 (refine tkr (HKB.out _ hbk.out) ?_;simp only[Qq,Qa,Qb,Qc])
  refine tke ?_;refine Qn (rs:=[5]) (by kernel_rfl) (by simp) ?_;refine Ql (o:=({dst:=some 20,op:=Qt {callee:=Qr (Qg 56),args:= #[Qf 17,Qf 19,Qh (.int .i64 1)],argTypes:= #[22,3,3]},type:=4,pos:= "sign.go:245",after:= #[{on:=2,ground:=Qi},{on:=4,ground:=Qi}],guard:=none}:Oper)) rfl (fun K hK=> ?_) Qm;go_simp;refine(CIS.out _ hbk.out).mono ?_;rintro e w3 ⟨rfl,rfl⟩;try (dsimp only)
  try go_wp2_with fail
  refine hK.out _ _ (HKB.out _ hbk.out) (fun hHeld=> ?_);clear hK K;try simp only[Qq,Qa,Qb,Qc]
  refine tkp [6,7,8,9,10,11,12,13,14] ?_;iterate 9 (refine tkr (HKB.out _ hbk.out) ?_;simp only[Qq,Qa,Qb,Qc])
  refine tke ?_;refine Qn (rs:=[15]) (by kernel_rfl) (by simp) ?_;refine Ql (o:=({dst:=some 30,op:=Qt {callee:=Qr (Qg 129),args:= #[Qf 28,Qf 29],argTypes:= #[34,3]},type:=4,pos:= "sign.go:245",after:= #[{on:=13,ground:=Qi},{on:=14,ground:=Qi},{on:=7,ground:=Qk},{on:=7,ground:=Qj}],guard:=some (7,false)}:Oper)) rfl (fun K hK=> ?_) Qm;go_simp;refine(CCO.out _ hbk.out).mono ?_;rintro e w4 ⟨rfl,rfl⟩;try (dsimp only)
  try go_wp2_with fail
  refine hK.out _ _ (HKB.out _ hbk.out) (fun hHeld=> ?_);clear hK K;try simp only[Qq,Qa,Qb,Qc]
  refine tkp [16,17,18,19,20,21,22,23,24,25,26,27,28] ?_;iterate 13 (refine tkr (HKB.out _ hbk.out) ?_;simp only[Qq,Qa,Qb,Qc])
  refine tke ?_;refine Qp (by kernel_rfl) ?_ _;have CW:=hid (fun V (hV:Below w.heap.size w V)=>Zil x.t p.T p.tc ((ps:Int)+1) V (((HENT.out V hV).ht).wide (Nat.zero_le _) (by have:=hV.size;omega)) (HSS.out V hV));unfold Zbk Zc at CW;obtain⟨-, -,c2,c3,c4, -, -, -,c8, -,c10, -, -, -, -⟩:=KB.out _ hbk.out;have wr1:IntKind.i64.wrap (x.a+1)=(ps:Int)+1:=by rw[HPS.out];exact IntWalk.i64_in _ (by omega)
  have HBY:=hid (Zbd HBX hbk.out);have HTF:=hid (Zcy HSH.out);have HRC:Hid ((∃u,Zt x.t ((ps:Int)+1)=((Jq x.t).take (ps+1),u,0)∧ps+1≤Zz x.t∧Zbu (Zgm x) (j:Int) y.a.toNat y.i.toNat ps=z)∨(z=false∧∃c,Zt x.t ((ps:Int)+1)=([],.node 0 0 [],c)∧(c=2∨c=6))):=hid (by
    have hz3:=HZ3.out;rw[show(ps:Int)+1=((ps+1:Nat):Int)by omega];by_cases h24:ps+1≤24
    · rw[decide_eq_true h24,Qs]at hz3;by_cases hp:ps+1≤Zz x.t
      · obtain⟨u,hu, -⟩:=Z0f HSH.out h24 hp;rw[decide_eq_true hp,Qs]at hz3;exact .inl ⟨u,hu,hp,hz3⟩
      · rw[decide_eq_false hp]at hz3;exact .inr ⟨hz3.symm,6,Zxx HSH.out h24 (by omega),.inr rfl⟩
    · rw[decide_eq_false h24]at hz3;exact .inr ⟨hz3.symm,2,Zje (by rw[HSH.out,decide_eq_true (show(0:Int)≤((ps+1:Nat):Int)by omega)];rfl) (by omega),.inl rfl⟩)
  have HTL:=hid (fun(hp:ps+1≤Zz x.t)=>(show ∃h:ps<((Jq x.t).take (ps+1)).length,((Jq x.t).take (ps+1))[ps]=Zgm x∧Zb (Zgm x)=true from by
    have h1:=(Zcy HSH.out).1;have h2:ps<(Jq x.t).length:=by omega
    refine⟨by rw[Qd];omega, ?_, ?_⟩
    · rw[List.getElem_take];unfold Zgm;rw[HPS.out,Qu,Qe h2];rfl
    · unfold Zgm;rw[HPS.out,Qu,Qe h2];exact(Zcy HSH.out).2.2.2 _ (List.getElem_mem h2)))
  obtain⟨R,hR⟩:∃R,Zt x.t ((ps:Int)+1)=R:=⟨_,rfl⟩;rw[hR]at CW HRC;clear hR CIS CCO HKB HZ3;go_wp2_with fail;refine(CW.out _ HBY.out).mono ?_;rintro e w5 ⟨A1,c1,B1,d1,rfl,hrt, -,hb5⟩;have HB5:=hid (Zbd HBY hb5);have HBK5:=hid (Zbd hbk hb5);have HRT:=hid hrt;clear hb5 hrt CW c2 c3 c4 c8 c10;have hsz5:w.heap.size<w5.heap.size:=by have:=HBK5.out.size;have:=HXS.out;omega
  have HB5A:=hid (fun o=>HB5.out.alloc HB5.out.size o);rcases HRC.out with ⟨u,hR,hp,hzz⟩|⟨hzf,c,hR,hc⟩
  · subst hR;obtain⟨hlp,hel,hsf⟩:=HTL.out hp;simp only at HRT;have HT5:=hid (show Ze w5 w.heap.size w5.heap.size ((Jq x.t).take (ps+1)) A1 c1 from HRT.out.imp (fun _ _ _=>rfl) (fun b hb=>⟨by have:=hb.1;have:=HBY.out.size;omega,hb.2⟩));obtain⟨ts,hts⟩:∃ts,(Jq x.t).take (ps+1)=ts:=⟨_,rfl⟩;rw[hts]at HT5 hlp⊢;simp only[hts]at hel;obtain⟨bt,ot,FT,CT,hAt, -,hbt,hxt,hnt⟩:=HT5.out.sub ps hlp;rw[hel]at hxt hnt;subst hAt;obtain⟨f,hf⟩:∃f,Zgm x=f:=⟨_,rfl⟩;rw[hf]at hxt hnt hsf hzz;have HZ5:=hid hzz;have HHX:=hid hxt;have HNT:=hid hnt;have HSF:=hid hsf;have hpl:(ps:Int)<(ts.length:Int):=by omega
    have hbt5:bt<w5.heap.size:=hbt;clear hf hel hts hxt hnt hsf hzz hp HRC HTL HTF HRT hlp;obtain⟨Y,hY⟩:∃Y,w5.alloc (.cells #[.int .i64 u.k,.int .i64 u.n,.slice B1 u.l.length d1] 27)=Y:=⟨_,rfl⟩;have HWY:=hid (show Below w5.heap.size w5 Y from by rw[←hY];exact(Below.refl _ _).alloc (Nat.le_refl _) _);have HBYY:=hid (Zbd HB5 HWY.out);have HBKY:=hid (Zbd HBK5 HWY.out);have hby:=hid ((Below.refl Y.heap.size Y).drew);have HK7:=hid (fun V (hV:Below Y.heap.size Y V)=>(show V.cell? ⟨w.heap.size,8,none⟩=some (.int .i64 j)∧V.cell? ⟨w.heap.size,10,none⟩=some (.int .i64 ps)∧V.cell? ⟨bt,ot+ps*3,none⟩=some (.int .i64 f.k)∧V.cell? ⟨bt,ot+ps*3+1,none⟩=some (.int .i64 f.n)∧V.cell? ⟨bt,ot+ps*3+2,none⟩=some (.slice FT f.l.length CT)from by
      obtain⟨q0,q1,q2⟩:=HHX.out.kept (Zbd HWY hV) hbt5;exact⟨by rw[(KB.out V (Zbd HBKY hV)).c8,HF.out],by rw[(KB.out V (Zbd HBKY hV)).c10,HPS.out],q0,q1,q2⟩))
    have CI2:Hid (∀(V:World),Below Y.heap.size Y V→Calls prog 89 #[.slice (some ⟨b,o,none⟩) l.length cap,.int .i64 j,.agg #[.int .i64 f.k,.int .i64 f.n,.slice FT f.l.length CT],.int .i64 ps] V fun e w'=>(∃A7 n7 c7,e= .returned (.tuple #[.slice A7 n7 c7,.bool z]))∧Below V.heap.size V w'):=hid (fun V hV=>by
      have:=CIN.out f FT CT ps w.heap.size w5.heap.size V (Zbd HBYY hV) (HNT.out.kept (Zbd HWY hV) (Nat.le_refl _)) (by have:=hV.size;have:=HWY.out.size;omega) HSF.out (by rw[HPY.out];omega) (by omega);rw[HZ5.out]at this;exact this.mono fun e w' ⟨A7,n7,c7,h1,_,h2⟩=>⟨⟨A7,n7,c7,h1⟩,h2⟩)
    clear HZ5 CIN HND HNT HHX;go_wp2_with fail;clear hY;have hbk:=hby
    refine Qo (S:=fun w'=>w'.cell? ⟨w.heap.size,8,none⟩=some (.int .i64 j)∧w'.cell? ⟨w.heap.size,10,none⟩=some (.int .i64 ps)∧w'.cell? ⟨bt,ot+ps*3,none⟩=some (.int .i64 f.k)∧w'.cell? ⟨bt,ot+ps*3+1,none⟩=some (.int .i64 f.n)∧w'.cell? ⟨bt,ot+ps*3+2,none⟩=some (.slice FT f.l.length CT)) (by kernel_rfl) ?_ (fun hHeld=> ?_)
    · exact HK7.out _ hbk.out
    refine tkp [0,1,2,3,4,5,6,7,8,9] ?_;iterate 10 (refine tkr (HK7.out _ hbk.out) ?_;simp only[Qq,Qa,Qb,Qc])
    refine tke ?_;refine Qn (rs:=[10]) (by kernel_rfl) (by simp) ?_;refine Ql (o:=({dst:=some 67,op:=Qt {callee:=Qr (Qg 89),args:= #[Qf 57,Qf 59,Qf 64,Qf 66],argTypes:= #[22,3,27,3]},type:=110,pos:= "sign.go:252",after:= #[{on:=0,ground:=Qi},{on:=2,ground:=Qi},{on:=7,ground:=Qi},{on:=9,ground:=Qi}],guard:=none}:Oper)) rfl (fun K hK=> ?_) Qm;go_simp;refine(CI2.out _ hbk.out).mono ?_;rintro e w6 ⟨⟨A7,n7,c7,rfl⟩,hbn⟩;have hbk:=hid (Zbd hbk hbn);clear hbn;try (dsimp only)
    try go_wp2_with fail
    refine hK.out _ _ (HK7.out _ hbk.out) (fun hHeld=> ?_);clear hK K;try simp only[Qq,Qa,Qb,Qc]
    refine tkp [11,12,13,14,15] ?_;iterate 5 (refine tkr (HK7.out _ hbk.out) ?_;simp only[Qq,Qa,Qb,Qc])
    refine tke ?_;refine Qp (by kernel_rfl) ?_ _;go_wp2_with fail;go_ret;exact⟨rfl,Zbd HBYY hbk.out⟩
  · subst hR;subst hzf;have tc:(c !=0)=true:=by rcases hc with rfl|rfl<;>rfl
    clear hc HRC;go_wp2_with fail;go_ret;exact⟨rfl,HB5A.out _⟩
