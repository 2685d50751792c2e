import Derived.OrdersHeld
import Derived.Says
import Derived.Test.YtinlmmaokphhbaaGreatDoorS6
import Derived.KernelRfl
namespace Go.Proofs.YtinlmmaokphhbaaGreatDoor
open Go.RowKit
set_option linter.unusedVariables false
set_option maxRecDepth 100000
open Lib(hid)
open Go.Proofs.Tryz
open _root_.List renaming setIfInBounds_toArray→Qa,set_cons_zero→Qb,set_cons_succ→Qc,length_take→Qd
open Go.Operand renaming tmp→Qe,func→Qf
open Go renaming wpAnyH_ready→Qg,wp_region_held_drew→Qh,bodyPost_ret→Qi,wpAnyH_done→Qj,results→Qk,yielded→Ql
open Go.AllReadyH renaming cons→Qm,nil→Qn
open Go.Region renaming noSelect→Qo,wanted→Qp,ready→Qq,free→Qr,Mode→Qs
open Go.Ground renaming data→Qt,chain→Qu
open Go.Act renaming put→Qv
open Go.Callee renaming value→Qw
open Go.Op renaming call→Qx
open _root_.Bool renaming and_eq_true→Qy
theorem Zlz{n:Nat}:n≤n:=Nat.le_refl n
theorem Zgb{a b c:World}(x:Hid (Below a.heap.size a b))(y:Below b.heap.size b c):Below a.heap.size a c:=x.out.trans (y.mono x.out.size)
section
variable {P:Program} {md:Qs} {ops:Array Oper} {Q:Exit→Act→World→Prop} {S:World→Prop}
def Js:List (Nat×Nat)→Act→Act
 | [],a=>a
 | p::r,a=>Js r (a.put (some p.2) undef)
def Jt:List (Nat×Nat)→Array Bool→Array Bool
 | [],l=>l
 | p::r,l=>Jt r (l.setIfInBounds p.1 true)
def Zxg (md:Qs)(ops:Array Oper):List (Nat×Nat)→Array Bool→Act→Bool
 | [],_,_=>true
 | p::r,l,a=>(match ops[p.1]? with
  | some o=>o.dst==some p.2 && (Qr md ops l p.1 && ((Qq md ops l).contains p.1 && !(Qp o (Ql ops a.tmps))))
  | none=>false) && Zxg md ops r (l.setIfInBounds p.1 true) (a.put (some p.2) undef)
theorem tko {w:World}{fuel:Nat}(hs:Qo ops=true)(hQ:∀c a w (d:Nat),Q (.panic c) (a.put (some d) undef) w→Q (.panic c) a w)(hS:S w):∀(is:List (Nat×Nat)) (n:Nat) (hn:is.length=n) (l:Array Bool) (a:Act),Zxg md ops is l a=true→
  wpAnyH P md ops Q S fuel (Jt is l) (Js is a) w→wpAnyH P md ops Q S (fuel+n) l a w
 | [],n,hn,l,a,_,h=>by subst hn;exact h
 | p::r,n,hn,l,a,hb,h=>by
  subst hn;unfold Zxg at hb;rw[Qy]at hb;obtain⟨h1,h2⟩:=hb;cases ho:ops[p.1]? with
  | none=>rw[ho]at h1;cases h1
  | some o=>
   rw[ho]at h1;simp only[Qy,beq_iff_eq]at h1;obtain⟨e1,e2,e3,e4⟩:=h1;refine wpAnyH_take (i:=p.1) (oi:=o) (v:=undef) ho hs e2 e3 (fun c a w h=>hQ c a w p.2 (by rw[e1]at h;exact h)) (Or.inr ⟨by simpa using e4,rfl⟩) hS ?_;rw[e1];exact tko hs hQ hS r _ rfl _ _ h2 h
theorem tk {i:Nat}{oi:Oper}{v:Value}{fuel:Nat}{l:Array Bool}{a:Act}{w:World}(hi:ops[i]? =some oi)(hb:(Qo ops && (Qr md ops l i && (Qq md ops l).contains i))=true)
    (hQ:∀c a w,Q (.panic c) (a.put oi.dst v) w→Q (.panic c) a w) (hw:Qp oi (Ql ops a.tmps)=true) (hy:∀w,S w→(execOp a.eval oi).run P w= .ok (.value v) w) (hS:S w)
    (h:wpAnyH P md ops Q S fuel (l.setIfInBounds i true) (a.put oi.dst v) w):wpAnyH P md ops Q S (fuel+1) l a w:=by
  simp only[Qy]at hb;exact wpAnyH_take hi hb.1 hb.2.1 hb.2.2 hQ (Or.inl ⟨hw,hy⟩) hS h
def Zq2 (P:Program)(md:Qs)(ops:Array Oper)(Q:Exit→Act→World→Prop)(S:World→Prop)(fuel:Nat)(is:List Nat)(l:Array Bool)(a:Act)(w:World):Prop:=wpAnyH P md ops Q S fuel l a w
theorem tkp {l:Array Bool}{a:Act}{w:World}{fuel:Nat}(is:List Nat)(h:Zq2 P md ops Q S fuel is l a w):wpAnyH P md ops Q S fuel l a w:=h
theorem tke {l:Array Bool}{a:Act}{w:World}{fuel:Nat}(h:wpAnyH P md ops Q S fuel l a w):Zq2 P md ops Q S fuel [] l a w:=h
def Zo6:List Oper→Nat→Option Oper
 | [],_=>none
 | o::_,0=>some o
 | _::r,n+1=>Zo6 r n
theorem Zvw:∀(l:List Oper) (i:Nat),Zo6 l i=l[i]?
 | [],_=>by simp[Zo6]
 | o::_,0=>by simp[Zo6]
 | _::r,n+1=>by simp[Zo6,Zvw r n]
theorem tkq {i:Nat}{is:List Nat}{oi:Oper}{v:Value}{fuel:Nat}{l:Array Bool}{a:Act}{w:World}(hi:Zo6 ops.toList i=some oi)(hb:(Qo ops && (Qr md ops l i && (Qq md ops l).contains i))=true)
    (hQ:∀c a w,Q (.panic c) (a.put oi.dst v) w→Q (.panic c) a w) (hw:Qp oi (Ql ops a.tmps)=true) (hS:S w) (hy:∀w,S w→(execOp a.eval oi).run P w= .ok (.value v) w)
    (h:Zq2 P md ops Q S fuel is (l.setIfInBounds i true) (a.put oi.dst v) w):Zq2 P md ops Q S (fuel+1) (i::is) l a w:=
  tk (by rw[Zvw,Array.getElem?_toList]at hi;exact hi) hb hQ hw hy hS h
theorem tkr {i:Nat}{is:List Nat}{oi:Oper}{v:Value}{fuel:Nat}{l:Array Bool}{a:Act}{w:World}(hS:S w)(h:Zq2 P md ops Q S fuel is (l.setIfInBounds i true) (a.put oi.dst v) w)(hi:Zo6 ops.toList i=some oi:=by rfl)(hb:(Qo ops && (Qr md ops l i && (Qq md ops l).contains i))=true:=by kernel_rfl)(hQ:∀c a w,Q (.panic c) (a.put oi.dst v) w→Q (.panic c) a w:=by exact fun _ _ _ h=>h)(hw:Qp oi (Ql ops a.tmps)=true:=by rfl)(hy:∀w,S w→(execOp a.eval oi).run P w= .ok (.value v) w:=by intro w hSw;(try dsimp only at hSw);go_simp;(try with_reducible rfl)):Zq2 P md ops Q S (fuel+1) (i::is) l a w:=tkq hi hb hQ hw hS hy h
end
theorem Z3v {t:TM}{d:Int}{ps mo bs:Nat}:Zbu t d ps mo bs=((decide ((Zaw t).k=6) && decide ((Zaw t).n=d)) && (decide ((Jc t).length=ps+mo) && Zv (Zns t bs) ps)):=by
 unfold Zbu;rw[Bool.and_assoc]
set_option maxHeartbeats 8000000 in
theorem Zoz (l:List ET)(A:Option Addr)(cap m:Nat)(hm:m<l.length)(t:TM)(T:Option Addr)(tc bs lo hi lo' hi':Nat)(w:World)(hl:l.length≤600)(hn:Zr w lo hi A l)(hhi:hi≤w.heap.size)
    (ht:Za w lo' hi' t T tc) (hhi':hi'≤w.heap.size) (hS:Zi w) (hs:Zb t=true) (ha:0≤l[m].a) (hi0:0≤l[m].i) (hai:l[m].a+l[m].i≤24) (hb:l[m].a≤(bs:Int)) (hbs:bs≤1000):
    Calls prog 89 #[.slice A l.length cap,.int .i64 m,Zc t T tc,.int .i64 bs] w (Zml (fun b=>lo'≤b∧b<hi') (Zbu t m l[m].a.toNat l[m].i.toNat bs) ((Jc t).drop l[m].a.toNat) w):=by
  obtain⟨b,o,p,hA,hb1,hb2,hx, -⟩:=hn m hm;have HXX:=hid (fun V (hV:Below w.heap.size w V)=>(show V.cell? ⟨b,o+m*15+10,none⟩=some (.int .i64 l[m].a)∧V.cell? ⟨b,o+m*15+11,none⟩=some (.int .i64 l[m].i)from⟨(hx.kept hV (by omega)).c10,(hx.kept hV (by omega)).c11⟩));obtain⟨ps,hps⟩:∃n:Nat,l[m].a=(n:Int):=⟨l[m].a.toNat,by omega⟩;obtain⟨mo,hmo⟩:∃n:Nat,l[m].i=(n:Int):=⟨l[m].i.toNat,by omega⟩;rw[hps,hmo]at hai HXX;rw[hps]at hb⊢;rw[hmo];rw[Int.toNat_natCast,Int.toNat_natCast];subst hA;have hbw:b<w.heap.size:=by omega
  have hm0:(m:Int)<(l.length:Int):=by omega
  have hm1:(m:Int)<600:=by omega
  have hps1:(ps:Int)≤24:=by omega
  have hmo1:(mo:Int)≤24:=by omega
  have hbs1:(bs:Int)≤1000:=by omega
  have wr1:IntKind.i64.wrap ((ps:Int)+(mo:Int))=(ps:Int)+(mo:Int):=IntWalk.i64_in _ (by omega);have HPB:=hid (show ps≤bs by omega);have HW1:=hid (show Below w.heap.size w (w.alloc (.cells #[.int .i64 t.k,.int .i64 t.n,.slice T t.l.length tc] 27))from(Below.refl _ _).alloc Zlz _);have CSP:=hid (Zqd t lo' hi' T tc (w.alloc (.cells #[.int .i64 t.k,.int .i64 t.n,.slice T t.l.length tc] 27)) (ht.kept HW1.out hhi') (by simp;omega) (hS.kept HW1.out) (Zh.1 hs).2.2 (Zh.1 hs).1 (by have:=(Zh.1 hs).2.1;omega));have HSH:=hid (fun V (hV:Below w.heap.size w V)=>hS.kept hV);have HHS:=hid (Zgo hs).1;have HPV:=hid (fun(h1:ps≤(Jc t).length)=>Zxj (bs:=bs) hs h1 HPB.out);have HAS:=hid (Nat.le_trans (Zg5 t (Zh.1 hs).2.2) (Zh.1 hs).2.1);have CEQ:=hid (fun(V:World)(A1 A2:Option Addr)(c1 c2:Nat)(k1:Nat)(h1:Ze V 0 V.heap.size (Jc t) A1 c1) (h2:Ze V 0 V.heap.size (Z7 bs) A2 c2) (hS':Zi V)=>
    Z1h Zfu ((Jc t).take ps) ((Z7 bs).take ps) A1 A2 c1 c2 0 V.heap.size 0 V.heap.size V (by rw[Qd];unfold maxLen;have:=(Nat.le_trans (Zg5 t (Zh.1 hs).2.2) (Zh.1 hs).2.1);omega) (by rw[Qd,Zar];unfold maxLen;omega) (h1.take ps).sub (h2.take ps).sub Zlz Zlz
      (fun i q1 q2 lo1 hi1 lo2 hi2 F F' C C' W hW hx hy hh hh'=>Zmb _ _ lo1 hi1 lo2 hi2 F F' C C' W hx hy hh hh' (hS'.kept hW)))
  obtain⟨z,hz⟩:∃z,Zbu t (m:Int) ps mo bs=z:=⟨_,rfl⟩;rw[hz];rw[Z3v]at hz;obtain⟨hd,hhd⟩:∃u,Zaw t=u:=⟨_,rfl⟩;obtain⟨ts,hts⟩:∃l,Jc t=l:=⟨_,rfl⟩;obtain⟨V0,hV0⟩:∃V,Zns t bs=V:=⟨_,rfl⟩;unfold Zjm at CSP;rw[hhd]at CSP hz HHS;rw[hts]at CSP hz HPV HAS CEQ⊢;rw[hV0]at hz HPV;have HSC:=hid (Zxq (d:=(m:Int)) HHS.out);have CSM:=hid (fun(V:World)(A2:Option Addr)(c2 lo2 hi2:Nat)(h1:Za V lo2 hi2 hd A2 c2)(h2:hi2≤V.heap.size)(hS':Zi V)=>Zmb hd (.node 6 (m:Int) []) lo2 hi2 0 V.heap.size A2 none c2 0 V h1 (Zas _ _ _ _) h2 Zlz hS');rw[HSC.out]at CSM;have HZ:=hid hz;clear hx hn ht hS hs ha hi0 hai hb hbs hl hz hps hmo hhd hts hV0 HHS HSC hb1 hb2 hhi hhi';unfold Zc at CSP CSM⊢;go_enter func89,ntmps89;go_wp2_with fail;refine CSP.out.mono ?_;rintro e w1 ⟨A2,c2,A1,c1,rfl,hhd,har,hb1⟩;have HB1:=hid (HW1.out.trans (hb1.mono (by simp)));have HHD:=hid hhd;have HARP:=hid (show Zd w1 (fun b=>((lo'≤b∧b<hi')∨w.heap.size≤b)∧b<w1.heap.size) _ _ _ from har.imp (fun _ _ _=>rfl) (fun b hb=>⟨hb.1.imp id (fun h=>by simp at h;omega),hb.2⟩));have HAR:=hid (show Ze w1 0 w1.heap.size ts A1 c1 from har.imp (fun _ _ _=>rfl) (fun b hb=>⟨Nat.zero_le _,hb.2⟩));clear hhd har hb1 CSP;obtain⟨X,hX⟩:∃X,w1.alloc (.cells #[.int .i64 hd.k,.int .i64 hd.n,.slice A2 hd.l.length c2] 27)=X:=⟨_,rfl⟩;have HBX:=hid (show Below w.heap.size w X from by rw[←hX];exact HB1.out.alloc HB1.out.size _);have HW1X:=hid (show Below w1.heap.size w1 X from by rw[←hX];exact(Below.refl _ _).alloc Zlz _);have HKX:=hid (show Bk X w1.heap.size 27 #[.int .i64 hd.k,.int .i64 hd.n,.slice A2 hd.l.length c2]from by rw[←hX];exact Bk.new w1 _ _);have HDX:=hid (show Za X 0 w1.heap.size hd A2 c2∧Ze X 0 w1.heap.size ts A1 c1 from by rw[←hX];exact⟨HHD.out.alloc Zlz _,HAR.out.alloc Zlz _⟩);have HXS:=hid (show w1.heap.size<X.heap.size from HKX.out.lt);obtain⟨x10,x11⟩:=HXX.out _ HBX.out;have hbw1:b<X.heap.size:=by have:=HBX.out.size;omega
  go_wp2_with fail;clear hX x10 x11;have hbk:=hid ((Below.refl X.heap.size X).drew);have HK:=hid (fun V (hV:Below X.heap.size X V)=>(show V.cell? ⟨w1.heap.size,0,none⟩=some (.int .i64 hd.k)∧V.cell? ⟨w1.heap.size,1,none⟩=some (.int .i64 hd.n)∧V.cell? ⟨w1.heap.size,2,none⟩=some (.slice A2 hd.l.length c2)∧V.cell? ⟨b,o+m*15+11,none⟩=some (.int .i64 mo)from
    ⟨(HKX.out.below hV HXS.out).cell 0,(HKX.out.below hV HXS.out).cell 1,(HKX.out.below hV HXS.out).cell 2,(HXX.out V (Zgb HBX hV)).2⟩))
  have CC:=hid (fun(V:World)=>(Zo3 (m:Int) V).mono fun e w' h=>(show e= .returned (.agg #[.int .i64 6,.int .i64 m,.slice none 0 0])∧Below V.heap.size V w' from⟨h.1,by rw[h.2];exact(Below.refl _ _).alloc Zlz _⟩));obtain⟨rb,hrb⟩:∃r,(decide (hd.k=6) && decide (hd.n=(m:Int)))=r:=⟨_,rfl⟩;rw[hrb]at CSM;have CS2:Hid (∀(V:World),Below X.heap.size X V→Calls prog 111 #[.agg #[.int .i64 hd.k,.int .i64 hd.n,.slice A2 hd.l.length c2],.agg #[.int .i64 6,.int .i64 m,.slice none 0 0]] V fun e w'=>e= .returned (.bool rb)∧Below V.heap.size V w'):=hid (fun V hV=>CSM.out V A2 c2 0 w1.heap.size (HDX.out.1.kept hV (by have:=HXS.out;omega)) (by have:=hV.size;have:=HXS.out;omega) (HSH.out V (Zgb HBX hV)));obtain⟨y0,y1,y2,y11⟩:=HK.out _ hbk.out;have HZ2:Hid ((rb && (decide (ts.length=ps+mo) && Zv V0 ps))=z):=by subst hrb;exact HZ
  clear hrb HZ CSM;cases rb with
  | false=>
    obtain rfl:z=false:=by rw[←HZ2.out];rfl
    clear y0 y1 y2 y11;refine Qh (S:=fun w'=>w'.cell? ⟨w1.heap.size,0,none⟩=some (.int .i64 hd.k)∧w'.cell? ⟨w1.heap.size,1,none⟩=some (.int .i64 hd.n)∧w'.cell? ⟨w1.heap.size,2,none⟩=some (.slice A2 hd.l.length c2)∧w'.cell? ⟨b,o+m*15+11,none⟩=some (.int .i64 mo)) (by kernel_rfl) ?_ (fun hHeld=> ?_)
    · exact HK.out _ hbk.out
    refine tkp [0,1] ?_;iterate 2 (refine tkr (HK.out _ hbk.out) ?_;simp only[Qv,Qa,Qb,Qc])
    refine tke ?_;refine Qg (rs:=[2]) (by kernel_rfl) (by simp) ?_;refine Qm (o:=({dst:=some 25,op:=Qx {callee:=Qw (Qf 78),args:= #[Qe 24],argTypes:= #[3]},type:=27,pos:= "sign.go:260",after:= #[{on:=1,ground:=Qt}],guard:=none}:Oper)) rfl (fun K hK=> ?_) Qn;go_simp;refine(CC.out _).mono ?_;rintro e w3 ⟨rfl,hbn⟩;have hbk:=hid (Zgb hbk hbn);clear hbn;try (dsimp only)
    try go_wp2_with fail
    refine hK.out _ _ (HK.out _ hbk.out) (fun hHeld=> ?_);clear hK K;try simp only[Qv,Qa,Qb,Qc]
    refine Qg (rs:=[3]) (by kernel_rfl) (by simp) ?_;refine Qm (o:=({dst:=some 26,op:=Qx {callee:=Qw (Qf 111),args:= #[Qe 23,Qe 25],argTypes:= #[27,27]},type:=4,pos:= "sign.go:260",after:= #[{on:=0,ground:=Qt},{on:=2,ground:=Qt},{on:=2,ground:=Qu}],guard:=none}:Oper)) rfl (fun K hK=> ?_) Qn;go_simp;refine(CS2.out _ hbk.out).mono ?_;rintro e w4 ⟨rfl,hbn⟩;have hbk:=hid (Zgb hbk hbn);clear hbn;try (dsimp only)
    try go_wp2_with fail
    refine hK.out _ _ (HK.out _ hbk.out) (fun hHeld=> ?_);clear hK K;try simp only[Qv,Qa,Qb,Qc]
    refine tkp [4,5] ?_;iterate 2 (refine tkr (HK.out _ hbk.out) ?_;simp only[Qv,Qa,Qb,Qc])
    refine tke ?_;refine tko (by kernel_rfl) (fun _ _ _ _ h=>h) (HK.out _ hbk.out) [(6,29),(7,30),(8,31),(9,32),(10,33),(11,34),(12,35),(13,36),(14,37),(15,38)] 10 rfl _ _ (by kernel_rfl) ?_;simp only[Js,Jt,Qv,Qa,Qb,Qc];refine tkp [16] ?_;iterate 1 (refine tkr (HK.out _ hbk.out) ?_;simp only[Qv,Qa,Qb,Qc])
    refine tke ?_;refine Qj (by kernel_rfl) ?_ _;go_wp2_with fail;refine Qi (v:= .tuple #[.slice none 0 0,.bool false]) (by simp[Qk,results89,go_sem]) rfl ?_;exact⟨none,0,0,rfl,fun h=>(by cases h),Zgb HBX hbk.out⟩
  | true=>
  have hll:(ts.length:Int)≤128:=by have:=HAS.out;omega
  have HZ3:Hid ((decide (ts.length=ps+mo) && Zv V0 ps)=z):=HZ2;clear y0 y1 y2 y11;by_cases e3:ts.length=ps+mo
  case neg=>
    have t2:((ts.length:Int) !=(ps:Int)+(mo:Int))=true:=by simp;omega
    obtain rfl:z=false:=by rw[←HZ3.out,decide_eq_false e3];rfl
    clear e3 HZ3 HZ2;refine Qh (S:=fun w'=>w'.cell? ⟨w1.heap.size,0,none⟩=some (.int .i64 hd.k)∧w'.cell? ⟨w1.heap.size,1,none⟩=some (.int .i64 hd.n)∧w'.cell? ⟨w1.heap.size,2,none⟩=some (.slice A2 hd.l.length c2)∧w'.cell? ⟨b,o+m*15+11,none⟩=some (.int .i64 mo)) (by kernel_rfl) ?_ (fun hHeld=> ?_)
    · exact HK.out _ hbk.out
    refine tkp [0,1] ?_;iterate 2 (refine tkr (HK.out _ hbk.out) ?_;simp only[Qv,Qa,Qb,Qc])
    refine tke ?_;refine Qg (rs:=[2]) (by kernel_rfl) (by simp) ?_;refine Qm (o:=({dst:=some 25,op:=Qx {callee:=Qw (Qf 78),args:= #[Qe 24],argTypes:= #[3]},type:=27,pos:= "sign.go:260",after:= #[{on:=1,ground:=Qt}],guard:=none}:Oper)) rfl (fun K hK=> ?_) Qn;go_simp;refine(CC.out _).mono ?_;rintro e w3 ⟨rfl,hbn⟩;have hbk:=hid (Zgb hbk hbn);clear hbn;try (dsimp only)
    try go_wp2_with fail
    refine hK.out _ _ (HK.out _ hbk.out) (fun hHeld=> ?_);clear hK K;try simp only[Qv,Qa,Qb,Qc]
    refine Qg (rs:=[3]) (by kernel_rfl) (by simp) ?_;refine Qm (o:=({dst:=some 26,op:=Qx {callee:=Qw (Qf 111),args:= #[Qe 23,Qe 25],argTypes:= #[27,27]},type:=4,pos:= "sign.go:260",after:= #[{on:=0,ground:=Qt},{on:=2,ground:=Qt},{on:=2,ground:=Qu}],guard:=none}:Oper)) rfl (fun K hK=> ?_) Qn;go_simp;refine(CS2.out _ hbk.out).mono ?_;rintro e w4 ⟨rfl,hbn⟩;have hbk:=hid (Zgb hbk hbn);clear hbn;try (dsimp only)
    try go_wp2_with fail
    refine hK.out _ _ (HK.out _ hbk.out) (fun hHeld=> ?_);clear hK K;try simp only[Qv,Qa,Qb,Qc]
    refine tkp [4,5,6,7,8,9,10,11,12,13,14,15,16] ?_;iterate 13 (refine tkr (HK.out _ hbk.out) ?_;simp only[Qv,Qa,Qb,Qc])
    refine tke ?_;refine Qj (by kernel_rfl) ?_ _;go_wp2_with fail;refine Qi (v:= .tuple #[.slice none 0 0,.bool false]) (by simp[Qk,results89,go_sem]) rfl ?_;exact⟨none,0,0,rfl,fun h=>(by cases h),Zgb HBX hbk.out⟩
  have t2:((ts.length:Int) !=(ps:Int)+(mo:Int))=false:=by simp;omega
  have HPL:=hid (show ps≤ts.length by omega);have HZ4:=hid (show Zv V0 ps=z by rw[←HZ3.out,decide_eq_true e3];rfl);have hpl:(ps:Int)≤(ts.length:Int):=by omega
  clear e3 HZ3 HZ2;refine Qh (S:=fun w'=>w'.cell? ⟨w1.heap.size,0,none⟩=some (.int .i64 hd.k)∧w'.cell? ⟨w1.heap.size,1,none⟩=some (.int .i64 hd.n)∧w'.cell? ⟨w1.heap.size,2,none⟩=some (.slice A2 hd.l.length c2)∧w'.cell? ⟨b,o+m*15+11,none⟩=some (.int .i64 mo)) (by kernel_rfl) ?_ (fun hHeld=> ?_)
  · exact HK.out _ hbk.out
  refine tkp [0,1] ?_;iterate 2 (refine tkr (HK.out _ hbk.out) ?_;simp only[Qv,Qa,Qb,Qc])
  refine tke ?_;refine Qg (rs:=[2]) (by kernel_rfl) (by simp) ?_;refine Qm (o:=({dst:=some 25,op:=Qx {callee:=Qw (Qf 78),args:= #[Qe 24],argTypes:= #[3]},type:=27,pos:= "sign.go:260",after:= #[{on:=1,ground:=Qt}],guard:=none}:Oper)) rfl (fun K hK=> ?_) Qn;go_simp;refine(CC.out _).mono ?_;rintro e w3 ⟨rfl,hbn⟩;have hbk:=hid (Zgb hbk hbn);clear hbn;try (dsimp only)
  try go_wp2_with fail
  refine hK.out _ _ (HK.out _ hbk.out) (fun hHeld=> ?_);clear hK K;try simp only[Qv,Qa,Qb,Qc]
  refine Qg (rs:=[3]) (by kernel_rfl) (by simp) ?_;refine Qm (o:=({dst:=some 26,op:=Qx {callee:=Qw (Qf 111),args:= #[Qe 23,Qe 25],argTypes:= #[27,27]},type:=4,pos:= "sign.go:260",after:= #[{on:=0,ground:=Qt},{on:=2,ground:=Qt},{on:=2,ground:=Qu}],guard:=none}:Oper)) rfl (fun K hK=> ?_) Qn;go_simp;refine(CS2.out _ hbk.out).mono ?_;rintro e w4 ⟨rfl,hbn⟩;have hbk:=hid (Zgb hbk hbn);clear hbn;try (dsimp only)
  try go_wp2_with fail
  refine hK.out _ _ (HK.out _ hbk.out) (fun hHeld=> ?_);clear hK K;try simp only[Qv,Qa,Qb,Qc]
  refine tkp [4,5,6,7,8,9,10,11,12,13,14,15,16] ?_;iterate 13 (refine tkr (HK.out _ hbk.out) ?_;simp only[Qv,Qa,Qb,Qc])
  refine tke ?_;refine Qj (by kernel_rfl) ?_ _;have HBY:=hid (Zgb HBX hbk.out);have HAY:=hid (HDX.out.2.kept hbk.out (by have:=HXS.out;omega));have HARY:=hid (show Zd _ (fun b=>((lo'≤b∧b<hi')∨w.heap.size≤b)∧b<w1.heap.size) (.node 0 0 ts) A1 c1 from Zd.imp (fun b o hb=>(Zgb HW1X hbk.out).cell (p:=⟨b,o,none⟩) hb.2) (fun _ h=>h) HARP.out);have HXY:=hid hbk.out.size;have HBS:=hid (show bs≤1000 by omega);have HLT:=hid (show(ts.take ps).length=ps by rw[Qd];have:=HPL.out;omega);have HLV:=hid (show((Z7 bs).take ps).length=ps by rw[Qd,Zar];have:=HPB.out;omega);have HEQ:=hid ((HPV.out HPL.out).trans HZ4.out);have hpb:(ps:Int)≤((Z7 bs).length:Int):=by rw[Zar];have:=HPB.out;omega
  obtain⟨vl,hvl⟩:∃n,(Z7 bs).length=n:=⟨_,rfl⟩;rw[hvl]at hpb;have HVL:=hid hvl;clear hvl;have CV:Hid (∀(V:World),Calls prog 50 #[.int .i64 bs] V fun e w'=>∃A cap,e= .returned (.slice A vl cap)∧Ze w' 0 w'.heap.size (Z7 bs) A cap∧Below V.heap.size V w'):=hid (fun V=>by
    have:=Zme bs HBS.out V;unfold Zbj at this;rw[HVL.out]at this;exact this)
  obtain⟨Y,hY⟩:∃Y,Y=w4:=⟨_,rfl⟩;rw[←hY]at HBY HAY HARY hbk HXY⊢;clear hY;have hac:(ts.length:Int)≤(c1:Int):=by have:=HAY.out.bounds.1;omega
  have hpc:(ps:Int)≤(c1:Int):=by omega
  have CE2:Hid (∀(V:World) (A3:Option Addr) (c3:Nat),Below Y.heap.size Y V→Ze V 0 V.heap.size (Z7 bs) A3 c3→Calls prog 112 #[.slice A1 ps c1,.slice A3 ps c3,.func (.func 111) #[] #[]] V fun e w'=>e= .returned (.bool z)∧Below V.heap.size V w'):=hid (fun V A3 c3 hV h3=>by
    have:=CEQ.out V A1 A3 c1 c3 0 ((HAY.out.kept hV (by have:=HBY.out.size;have:=HXS.out;have:=hbk.out.size;omega)).wide Zlz (by have:=hV.size;have:=hbk.out.size;have:=HXS.out;omega)) h3 (HSH.out V (Zgb HBY hV));rw[HLT.out,HLV.out,HEQ.out]at this;exact this)
  have hbk:=hid ((Below.refl Y.heap.size Y).drew);clear CC CS2 CEQ HK;go_wp2_with fail;refine Qh (S:=fun w'=>Below Y.heap.size Y w') (by kernel_rfl) ?_ (fun hHeld=> ?_)
  · exact hbk.out
  refine tkp [0,1,2,3,5] ?_;iterate 5 (refine tkr (hbk.out) ?_;simp only[Qv,Qa,Qb,Qc])
  refine tke ?_;refine Qg (rs:=[4]) (by kernel_rfl) (by simp) ?_;refine Qm (o:=({dst:=some 44,op:=Qx {callee:=Qw (Qf 50),args:= #[Qe 43],argTypes:= #[3]},type:=23,pos:= "sign.go:263",after:= #[{on:=3,ground:=Qt}],guard:=none}:Oper)) rfl (fun K hK=> ?_) Qn;go_simp;refine(CV.out _).mono ?_;rintro e w5 ⟨A3,c3,rfl,hv5,hbn⟩;have hvc:(ps:Int)≤(c3:Int):=by have:=hv5.bounds.1;have:=HVL.out;omega
  have HV5:=hid hv5;have hbk:=hid (Zgb hbk hbn);clear hbn hv5;try (dsimp only)
  try go_wp2_with fail
  refine hK.out _ _ (hbk.out) (fun hHeld=> ?_);clear hK K;try simp only[Qv,Qa,Qb,Qc]
  refine tkp [6] ?_;iterate 1 (refine tkr (hbk.out) ?_;simp only[Qv,Qa,Qb,Qc])
  refine tke ?_;refine Qg (rs:=[7]) (by kernel_rfl) (by simp) ?_;refine Qm (o:=({dst:=some 47,op:=Qx {callee:=Qw (Qf 112),args:= #[Qe 42,Qe 46,Qf 111],argTypes:= #[23,23,44]},type:=4,pos:= "sign.go:263",after:= #[{on:=2,ground:=Qt},{on:=6,ground:=Qt},{on:=4,ground:=Qu}],guard:=none}:Oper)) rfl (fun K hK=> ?_) Qn;go_simp;refine(CE2.out _ A3 c3 hbk.out HV5.out).mono ?_;rintro e w6 ⟨rfl,hbn⟩;have hbk:=hid (Zgb hbk hbn);clear hbn;try (dsimp only)
  try go_wp2_with fail
  refine hK.out _ _ (hbk.out) (fun hHeld=> ?_);clear hK K;try simp only[Qv,Qa,Qb,Qc]
  refine tkp [8] ?_;iterate 1 (refine tkr (hbk.out) ?_;simp only[Qv,Qa,Qb,Qc])
  refine tke ?_;refine Qj (by kernel_rfl) ?_ _;have HBZ:=hid (Zgb HBY hbk.out);have HTZ:=hid (show Zd w6 (fun b=>((lo'≤b∧b<hi')∨w.heap.size≤b)∧b<w6.heap.size) (.node 0 0 ts) A1 c1 from Zd.imp (fun b o hb=>hbk.out.cell (p:=⟨b,o,none⟩) (by have:=HXS.out;have:=HXY.out;have:=hb.2;show b<_;omega)) (fun b hb=>⟨hb.1,by have:=hbk.out.size;have:=HXY.out;have:=HXS.out;have:=hb.2;omega⟩) HARY.out);have HLD:=hid (show ts.length - ps=(ts.drop ps).length by rw[List.length_drop]);have hpl2:(ps:Int)≤(ts.length:Int):=hpl;cases z with
  | false=>
    go_wp2_with fail;refine Qi (v:= .tuple #[.slice none 0 0,.bool false]) (by simp[Qk,results89,go_sem]) rfl ?_;exact⟨none,0,0,rfl,fun h=>(by cases h),HBZ.out⟩
  | true=>
    have HRS:=hid (Zd.rest (n:=ps) HTZ.out HPL.out);by_cases hcp:c1=ps
    · rw[if_pos hcp]at HRS;go_wp2_with fail;refine Qi (v:= .tuple #[.slice A1 (ts.length - ps) (c1 - ps),.bool true]) (by simp[Qk,results89,go_sem];omega) rfl ?_;exact⟨_,_,_,rfl,fun _=>⟨HLD.out,HRS.out⟩,HBZ.out⟩
    · rw[if_neg hcp]at HRS;go_wp2_with fail;refine Qi (v:= .tuple #[.slice (A1.map (·.add (ps*3))) (ts.length - ps) (c1 - ps),.bool true]) (by simp[Qk,results89,go_sem]) rfl ?_;exact⟨_,_,_,rfl,fun _=>⟨HLD.out,HRS.out⟩,HBZ.out⟩
theorem Zvo (l:List ET)(A:Option Addr)(cap m:Nat)(hm:m<l.length)(t:TM)(T:Option Addr)(tc bs lo hi lo' hi':Nat)(w:World)(hl:l.length≤600)(hn:Zr w lo hi A l)(hhi:hi≤w.heap.size)
    (ht:Za w lo' hi' t T tc) (hhi':hi'≤w.heap.size) (hS:Zi w) (hs:Zb t=true) (ha:0≤l[m].a) (hi0:0≤l[m].i) (hai:l[m].a+l[m].i≤24) (hb:l[m].a≤(bs:Int)) (hbs:bs≤1000):
    Calls prog 89 #[.slice A l.length cap,.int .i64 m,Zc t T tc,.int .i64 bs] w (Zv8 (Zbu t m l[m].a.toNat l[m].i.toNat bs) ((Jc t).drop l[m].a.toNat) w):=
  (Zoz l A cap m hm t T tc bs lo hi lo' hi' w hl hn hhi ht hhi' hS hs ha hi0 hai hb hbs).mono fun _ _ h=>h.plain
