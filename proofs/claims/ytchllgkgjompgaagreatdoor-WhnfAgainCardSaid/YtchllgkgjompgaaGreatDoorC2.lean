import Derived.OrdersHeld
import Derived.Says
import Derived.Test.YtchllgkgjompgaaGreatDoorS6
import Derived.KernelRfl
namespace Go.Proofs.YtchllgkgjompgaaGreatDoor
open Go.RowKit
set_option linter.unusedVariables false
set_option maxRecDepth 100000
open Lib(hid)
open List(setIfInBounds_toArray set_cons_zero set_cons_succ)
open Go.Proofs.Tryz
theorem lrC2{n:Nat}:n≤n:=Nat.le_refl n
theorem trC2{a b c:World}(x:Hid (Below a.heap.size a b))(y:Below b.heap.size b c):Below a.heap.size a c:=x.out.trans (y.mono x.out.size)
section
variable {P:Program} {md:Region.Mode} {ops:Array Oper} {Q:Exit→Act→World→Prop} {S:World→Prop}
def offA:List (Nat×Nat)→Act→Act
 | [],a=>a
 | p::r,a=>offA r (a.put (some p.2) undef)
def offL:List (Nat×Nat)→Array Bool→Array Bool
 | [],l=>l
 | p::r,l=>offL r (l.setIfInBounds p.1 true)
def offOk (md:Region.Mode) (ops:Array Oper):List (Nat×Nat)→Array Bool→Act→Bool
 | [],_,_=>true
 | p::r,l,a=>(match ops[p.1]? with
  | some o=>o.dst==some p.2 && (Region.free md ops l p.1 && ((Region.ready md ops l).contains p.1 && !(Region.wanted o (yielded ops a.tmps))))
  | none=>false) && offOk md ops r (l.setIfInBounds p.1 true) (a.put (some p.2) undef)
theorem tko {w:World} {fuel:Nat} (hs:Region.noSelect ops=true) (hQ:∀c a w (d:Nat),Q (.panic c) (a.put (some d) undef) w→Q (.panic c) a w) (hS:S w):∀(is:List (Nat×Nat)) (n:Nat) (hn:is.length=n) (l:Array Bool) (a:Act),offOk md ops is l a=true→
  wpAnyH P md ops Q S fuel (offL is l) (offA is a) w→wpAnyH P md ops Q S (fuel+n) l a w
 | [],n,hn,l,a,_,h=>by subst hn;exact h
 | p::r,n,hn,l,a,hb,h=>by
  subst hn;unfold offOk at hb;rw[Bool.and_eq_true]at hb;obtain⟨h1,h2⟩:=hb;cases ho:ops[p.1]? with
  | none=>rw[ho]at h1;cases h1
  | some o=>
   rw[ho]at h1;simp only[Bool.and_eq_true,beq_iff_eq]at h1;obtain⟨e1,e2,e3,e4⟩:=h1;refine wpAnyH_take (i:=p.1) (oi:=o) (v:=undef) ho hs e2 e3 (fun c a w h=>hQ c a w p.2 (by rw[e1]at h;exact h)) (Or.inr ⟨by simpa using e4,rfl⟩) hS ?_;rw[e1];exact tko hs hQ hS r _ rfl _ _ h2 h
theorem tk {i:Nat} {oi:Oper} {v:Value} {fuel:Nat} {l:Array Bool} {a:Act} {w:World} (hi:ops[i]? =some oi) (hb:(Region.noSelect ops && (Region.free md ops l i && (Region.ready md ops l).contains i))=true)
    (hQ:∀c a w,Q (.panic c) (a.put oi.dst v) w→Q (.panic c) a w) (hw:Region.wanted oi (yielded ops a.tmps)=true) (hy:∀w,S w→(execOp a.eval oi).run P w= .ok (.value v) w) (hS:S w)
    (h:wpAnyH P md ops Q S fuel (l.setIfInBounds i true) (a.put oi.dst v) w):wpAnyH P md ops Q S (fuel+1) l a w:=by
  simp only[Bool.and_eq_true]at hb;exact wpAnyH_take hi hb.1 hb.2.1 hb.2.2 hQ (Or.inl ⟨hw,hy⟩) hS h
def wpPl (P:Program) (md:Region.Mode) (ops:Array Oper) (Q:Exit→Act→World→Prop) (S:World→Prop) (fuel:Nat) (is:List Nat) (l:Array Bool) (a:Act) (w:World):Prop:=wpAnyH P md ops Q S fuel l a w
theorem tkp {l:Array Bool} {a:Act} {w:World} {fuel:Nat} (is:List Nat) (h:wpPl P md ops Q S fuel is l a w):wpAnyH P md ops Q S fuel l a w:=h
theorem tke {l:Array Bool} {a:Act} {w:World} {fuel:Nat} (h:wpAnyH P md ops Q S fuel l a w):wpPl P md ops Q S fuel [] l a w:=h
def opAt:List Oper→Nat→Option Oper
 | [],_=>none
 | o::_,0=>some o
 | _::r,n+1=>opAt r n
theorem opAt_eq:∀(l:List Oper) (i:Nat),opAt l i=l[i]?
 | [],_=>by simp[opAt]
 | o::_,0=>by simp[opAt]
 | _::r,n+1=>by simp[opAt,opAt_eq r n]
theorem tkq {i:Nat} {is:List Nat} {oi:Oper} {v:Value} {fuel:Nat} {l:Array Bool} {a:Act} {w:World} (hi:opAt ops.toList i=some oi) (hb:(Region.noSelect ops && (Region.free md ops l i && (Region.ready md ops l).contains i))=true)
    (hQ:∀c a w,Q (.panic c) (a.put oi.dst v) w→Q (.panic c) a w) (hw:Region.wanted oi (yielded ops a.tmps)=true) (hS:S w) (hy:∀w,S w→(execOp a.eval oi).run P w= .ok (.value v) w)
    (h:wpPl P md ops Q S fuel is (l.setIfInBounds i true) (a.put oi.dst v) w):wpPl P md ops Q S (fuel+1) (i::is) l a w:=
  tk (by rw[opAt_eq,Array.getElem?_toList]at hi;exact hi) hb hQ hw hy hS h
theorem tkr {i:Nat} {is:List Nat} {oi:Oper} {v:Value} {fuel:Nat} {l:Array Bool} {a:Act} {w:World} (hS:S w) (h:wpPl P md ops Q S fuel is (l.setIfInBounds i true) (a.put oi.dst v) w) (hi:opAt ops.toList i=some oi:=by rfl) (hb:(Region.noSelect ops && (Region.free md ops l i && (Region.ready md ops l).contains i))=true:=by kernel_rfl) (hQ:∀c a w,Q (.panic c) (a.put oi.dst v) w→Q (.panic c) a w:=by exact fun _ _ _ h=>h) (hw:Region.wanted oi (yielded ops a.tmps)=true:=by rfl) (hy:∀w,S w→(execOp a.eval oi).run P w= .ok (.value v) w:=by intro w hSw;(try dsimp only at hSw);go_simp;(try with_reducible rfl)):wpPl P md ops Q S (fuel+1) (i::is) l a w:=tkq hi hb hQ hw hS hy h
end
theorem appB_eq {t:TM} {d:Int} {ps mo bs:Nat}:appB t d ps mo bs=((decide ((headT t).k=6) && decide ((headT t).n=d)) && (decide ((argsT t).length=ps+mo) && allB (varB t bs) ps)):=by
 unfold appB;rw[Bool.and_assoc]
set_option maxHeartbeats 8000000 in
theorem indP_any (l:List ET) (A:Option Addr) (cap m:Nat) (hm:m<l.length) (t:TM) (T:Option Addr) (tc bs lo hi lo' hi':Nat) (w:World) (hl:l.length≤600) (hn:EntsAt w lo hi A l) (hhi:hi≤w.heap.size)
    (ht:IsTerm w lo' hi' t T tc) (hhi':hi'≤w.heap.size) (hS:ShapesM w) (hs:shapedB t=true) (ha:0≤l[m].a) (hi0:0≤l[m].i) (hai:l[m].a+l[m].i≤24) (hb:l[m].a≤(bs:Int)) (hbs:bs≤1000):
    Calls prog 166 #[.slice A l.length cap,.int .i64 m,termV t T tc,.int .i64 bs] w (IndIsP (fun b=>lo'≤b∧b<hi') (appB t m l[m].a.toNat l[m].i.toNat bs) ((argsT t).drop l[m].a.toNat) w):=by
  obtain⟨b,o,p,hA,hb1,hb2,hx, -⟩:=hn m hm;have HXX:=hid (fun V (hV:Below w.heap.size w V)=>(show V.cell? ⟨b,o+m*15+10,none⟩=some (.int .i64 l[m].a)∧V.cell? ⟨b,o+m*15+11,none⟩=some (.int .i64 l[m].i)from⟨(hx.kept hV (by omega)).c10,(hx.kept hV (by omega)).c11⟩));obtain⟨ps,hps⟩:∃n:Nat,l[m].a=(n:Int):=⟨l[m].a.toNat,by omega⟩;obtain⟨mo,hmo⟩:∃n:Nat,l[m].i=(n:Int):=⟨l[m].i.toNat,by omega⟩;rw[hps,hmo]at hai HXX;rw[hps]at hb⊢;rw[hmo];rw[Int.toNat_natCast,Int.toNat_natCast];subst hA;have hbw:b<w.heap.size:=by omega
  have hm0:(m:Int)<(l.length:Int):=by omega
  have hm1:(m:Int)<600:=by omega
  have hps1:(ps:Int)≤24:=by omega
  have hmo1:(mo:Int)≤24:=by omega
  have hbs1:(bs:Int)≤1000:=by omega
  have wr1:IntKind.i64.wrap ((ps:Int)+(mo:Int))=(ps:Int)+(mo:Int):=IntWalk.i64_in _ (by omega);have HPB:=hid (show ps≤bs by omega);have HW1:=hid (show Below w.heap.size w (w.alloc (.cells #[.int .i64 t.k,.int .i64 t.n,.slice T t.l.length tc] 25))from(Below.refl _ _).alloc lrC2 _);have CSP:=hid (spineP_any t lo' hi' T tc (w.alloc (.cells #[.int .i64 t.k,.int .i64 t.n,.slice T t.l.length tc] 25)) (ht.kept HW1.out hhi') (by simp;omega) (hS.kept HW1.out) (shapedB_true.1 hs).2.2 (shapedB_true.1 hs).1 (by have:=(shapedB_true.1 hs).2.1;omega));have HSH:=hid (fun V (hV:Below w.heap.size w V)=>hS.kept hV);have HHS:=hid (head_args_shaped hs).1;have HPV:=hid (fun(h1:ps≤(argsT t).length)=>pairs_vars (bs:=bs) hs h1 HPB.out);have HAS:=hid (Nat.le_trans (args_depth t (shapedB_true.1 hs).2.2) (shapedB_true.1 hs).2.1);have CEQ:=hid (fun(V:World) (A1 A2:Option Addr) (c1 c2:Nat) (k1:Nat) (h1:IsTerms V 0 V.heap.size (argsT t) A1 c1) (h2:IsTerms V 0 V.heap.size (varsT bs) A2 c2) (hS':ShapesM V)=>
    eqf_same tsameB ((argsT t).take ps) ((varsT bs).take ps) A1 A2 c1 c2 0 V.heap.size 0 V.heap.size V (by rw[List.length_take];unfold maxLen;have:=(Nat.le_trans (args_depth t (shapedB_true.1 hs).2.2) (shapedB_true.1 hs).2.1);omega) (by rw[List.length_take,varsT_len];unfold maxLen;omega) (h1.take ps).sub (h2.take ps).sub lrC2 lrC2
      (fun i q1 q2 lo1 hi1 lo2 hi2 F F' C C' W hW hx hy hh hh'=>tmSame_any _ _ lo1 hi1 lo2 hi2 F F' C C' W hx hy hh hh' (hS'.kept hW)))
  obtain⟨z,hz⟩:∃z,appB t (m:Int) ps mo bs=z:=⟨_,rfl⟩;rw[hz];rw[appB_eq]at hz;obtain⟨hd,hhd⟩:∃u,headT t=u:=⟨_,rfl⟩;obtain⟨ts,hts⟩:∃l,argsT t=l:=⟨_,rfl⟩;obtain⟨V0,hV0⟩:∃V,varB t bs=V:=⟨_,rfl⟩;unfold GivesSpP at CSP;rw[hhd]at CSP hz HHS;rw[hts]at CSP hz HPV HAS CEQ⊢;rw[hV0]at hz HPV;have HSC:=hid (same_const (d:=(m:Int)) HHS.out);have CSM:=hid (fun(V:World) (A2:Option Addr) (c2 lo2 hi2:Nat) (h1:IsTerm V lo2 hi2 hd A2 c2) (h2:hi2≤V.heap.size) (hS':ShapesM V)=>tmSame_any hd (.node 6 (m:Int) []) lo2 hi2 0 V.heap.size A2 none c2 0 V h1 (leaf_in _ _ _ _) h2 lrC2 hS');rw[HSC.out]at CSM;have HZ:=hid hz;clear hx hn ht hS hs ha hi0 hai hb hbs hl hz hps hmo hhd hts hV0 HHS HSC hb1 hb2 hhi hhi';unfold termV at CSP CSM⊢;go_enter func166,ntmps166;go_wp2_with fail;refine CSP.out.mono ?_;rintro e w1 ⟨A2,c2,A1,c1,rfl,hhd,har,hb1⟩;have HB1:=hid (HW1.out.trans (hb1.mono (by simp)));have HHD:=hid hhd;have HARP:=hid (show TermIn w1 (fun b=>((lo'≤b∧b<hi')∨w.heap.size≤b)∧b<w1.heap.size) _ _ _ from har.imp (fun _ _ _=>rfl) (fun b hb=>⟨hb.1.imp id (fun h=>by simp at h;omega),hb.2⟩));have HAR:=hid (show IsTerms w1 0 w1.heap.size ts A1 c1 from har.imp (fun _ _ _=>rfl) (fun b hb=>⟨Nat.zero_le _,hb.2⟩));clear hhd har hb1 CSP;obtain⟨X,hX⟩:∃X,w1.alloc (.cells #[.int .i64 hd.k,.int .i64 hd.n,.slice A2 hd.l.length c2] 25)=X:=⟨_,rfl⟩;have HBX:=hid (show Below w.heap.size w X from by rw[←hX];exact HB1.out.alloc HB1.out.size _);have HW1X:=hid (show Below w1.heap.size w1 X from by rw[←hX];exact(Below.refl _ _).alloc lrC2 _);have HKX:=hid (show Bk X w1.heap.size 25 #[.int .i64 hd.k,.int .i64 hd.n,.slice A2 hd.l.length c2]from by rw[←hX];exact Bk.new w1 _ _);have HDX:=hid (show IsTerm X 0 w1.heap.size hd A2 c2∧IsTerms X 0 w1.heap.size ts A1 c1 from by rw[←hX];exact⟨HHD.out.alloc lrC2 _,HAR.out.alloc lrC2 _⟩);have HXS:=hid (show w1.heap.size<X.heap.size from HKX.out.lt);obtain⟨x10,x11⟩:=HXX.out _ HBX.out;have hbw1:b<X.heap.size:=by have:=HBX.out.size;omega
  go_wp2_with fail;clear hX x10 x11;have hbk:=hid ((Below.refl X.heap.size X).drew);have HK:=hid (fun V (hV:Below X.heap.size X V)=>(show V.cell? ⟨w1.heap.size,0,none⟩=some (.int .i64 hd.k)∧V.cell? ⟨w1.heap.size,1,none⟩=some (.int .i64 hd.n)∧V.cell? ⟨w1.heap.size,2,none⟩=some (.slice A2 hd.l.length c2)∧V.cell? ⟨b,o+m*15+11,none⟩=some (.int .i64 mo)from
    ⟨(HKX.out.below hV HXS.out).cell 0,(HKX.out.below hV HXS.out).cell 1,(HKX.out.below hV HXS.out).cell 2,(HXX.out V (trC2 HBX hV)).2⟩))
  have CC:=hid (fun(V:World)=>(mk_const (m:Int) V).mono fun e w' h=>(show e= .returned (.agg #[.int .i64 6,.int .i64 m,.slice none 0 0])∧Below V.heap.size V w' from⟨h.1,by rw[h.2];exact(Below.refl _ _).alloc lrC2 _⟩));obtain⟨rb,hrb⟩:∃r,(decide (hd.k=6) && decide (hd.n=(m:Int)))=r:=⟨_,rfl⟩;rw[hrb]at CSM;have CS2:Hid (∀(V:World),Below X.heap.size X V→Calls prog 191 #[.agg #[.int .i64 hd.k,.int .i64 hd.n,.slice A2 hd.l.length c2],.agg #[.int .i64 6,.int .i64 m,.slice none 0 0]] V fun e w'=>e= .returned (.bool rb)∧Below V.heap.size V w'):=hid (fun V hV=>CSM.out V A2 c2 0 w1.heap.size (HDX.out.1.kept hV (by have:=HXS.out;omega)) (by have:=hV.size;have:=HXS.out;omega) (HSH.out V (trC2 HBX hV)));obtain⟨y0,y1,y2,y11⟩:=HK.out _ hbk.out;have HZ2:Hid ((rb && (decide (ts.length=ps+mo) && allB V0 ps))=z):=by subst hrb;exact HZ
  clear hrb HZ CSM;cases rb with
  | false=>
    obtain rfl:z=false:=by rw[←HZ2.out];rfl
    clear y0 y1 y2 y11;refine wp_region_held_drew (S:=fun w'=>w'.cell? ⟨w1.heap.size,0,none⟩=some (.int .i64 hd.k)∧w'.cell? ⟨w1.heap.size,1,none⟩=some (.int .i64 hd.n)∧w'.cell? ⟨w1.heap.size,2,none⟩=some (.slice A2 hd.l.length c2)∧w'.cell? ⟨b,o+m*15+11,none⟩=some (.int .i64 mo)) (by kernel_rfl) ?_ (fun hHeld=> ?_)
    · exact HK.out _ hbk.out
    refine tkp [0,1] ?_;iterate 2 (refine tkr (HK.out _ hbk.out) ?_;simp only[Act.put,setIfInBounds_toArray,set_cons_zero,set_cons_succ])
    refine tke ?_;refine wpAnyH_ready (rs:=[2]) (by kernel_rfl) (by simp) ?_;refine AllReadyH.cons (o:=({dst:=some 25,op:=Op.call {callee:=Callee.value (Operand.func 161),args:= #[Operand.tmp 24],argTypes:= #[3]},type:=25,pos:= "sign.go:260",after:= #[{on:=1,ground:=Ground.data}],guard:=none}:Oper)) rfl (fun K hK=> ?_) AllReadyH.nil;go_simp;refine(CC.out _).mono ?_;rintro e w3 ⟨rfl,hbn⟩;have hbk:=hid (trC2 hbk hbn);clear hbn;try (dsimp only)
    try go_wp2_with fail
    refine hK.out _ _ (HK.out _ hbk.out) (fun hHeld=> ?_);clear hK K;try simp only[Act.put,setIfInBounds_toArray,set_cons_zero,set_cons_succ]
    refine wpAnyH_ready (rs:=[3]) (by kernel_rfl) (by simp) ?_;refine AllReadyH.cons (o:=({dst:=some 26,op:=Op.call {callee:=Callee.value (Operand.func 191),args:= #[Operand.tmp 23,Operand.tmp 25],argTypes:= #[25,25]},type:=4,pos:= "sign.go:260",after:= #[{on:=0,ground:=Ground.data},{on:=2,ground:=Ground.data},{on:=2,ground:=Ground.chain}],guard:=none}:Oper)) rfl (fun K hK=> ?_) AllReadyH.nil;go_simp;refine(CS2.out _ hbk.out).mono ?_;rintro e w4 ⟨rfl,hbn⟩;have hbk:=hid (trC2 hbk hbn);clear hbn;try (dsimp only)
    try go_wp2_with fail
    refine hK.out _ _ (HK.out _ hbk.out) (fun hHeld=> ?_);clear hK K;try simp only[Act.put,setIfInBounds_toArray,set_cons_zero,set_cons_succ]
    refine tkp [4,5] ?_;iterate 2 (refine tkr (HK.out _ hbk.out) ?_;simp only[Act.put,setIfInBounds_toArray,set_cons_zero,set_cons_succ])
    refine tke ?_;refine tko (by kernel_rfl) (fun _ _ _ _ h=>h) (HK.out _ hbk.out) [(6,29),(7,30),(8,31),(9,32),(10,33),(11,34),(12,35),(13,36),(14,37),(15,38)] 10 rfl _ _ (by kernel_rfl) ?_;simp only[offA,offL,Act.put,setIfInBounds_toArray,set_cons_zero,set_cons_succ];refine tkp [16] ?_;iterate 1 (refine tkr (HK.out _ hbk.out) ?_;simp only[Act.put,setIfInBounds_toArray,set_cons_zero,set_cons_succ])
    refine tke ?_;refine wpAnyH_done (by kernel_rfl) ?_ _;go_wp2_with fail;refine bodyPost_ret (v:= .tuple #[.slice none 0 0,.bool false]) (by simp[results,results166,go_sem]) rfl ?_;exact⟨none,0,0,rfl,fun h=>(by cases h),trC2 HBX hbk.out⟩
  | true=>
  have hll:(ts.length:Int)≤128:=by have:=HAS.out;omega
  have HZ3:Hid ((decide (ts.length=ps+mo) && allB V0 ps)=z):=HZ2;clear y0 y1 y2 y11;by_cases e3:ts.length=ps+mo
  case neg=>
    have t2:((ts.length:Int) !=(ps:Int)+(mo:Int))=true:=by simp;omega
    obtain rfl:z=false:=by rw[←HZ3.out,decide_eq_false e3];rfl
    clear e3 HZ3 HZ2;refine wp_region_held_drew (S:=fun w'=>w'.cell? ⟨w1.heap.size,0,none⟩=some (.int .i64 hd.k)∧w'.cell? ⟨w1.heap.size,1,none⟩=some (.int .i64 hd.n)∧w'.cell? ⟨w1.heap.size,2,none⟩=some (.slice A2 hd.l.length c2)∧w'.cell? ⟨b,o+m*15+11,none⟩=some (.int .i64 mo)) (by kernel_rfl) ?_ (fun hHeld=> ?_)
    · exact HK.out _ hbk.out
    refine tkp [0,1] ?_;iterate 2 (refine tkr (HK.out _ hbk.out) ?_;simp only[Act.put,setIfInBounds_toArray,set_cons_zero,set_cons_succ])
    refine tke ?_;refine wpAnyH_ready (rs:=[2]) (by kernel_rfl) (by simp) ?_;refine AllReadyH.cons (o:=({dst:=some 25,op:=Op.call {callee:=Callee.value (Operand.func 161),args:= #[Operand.tmp 24],argTypes:= #[3]},type:=25,pos:= "sign.go:260",after:= #[{on:=1,ground:=Ground.data}],guard:=none}:Oper)) rfl (fun K hK=> ?_) AllReadyH.nil;go_simp;refine(CC.out _).mono ?_;rintro e w3 ⟨rfl,hbn⟩;have hbk:=hid (trC2 hbk hbn);clear hbn;try (dsimp only)
    try go_wp2_with fail
    refine hK.out _ _ (HK.out _ hbk.out) (fun hHeld=> ?_);clear hK K;try simp only[Act.put,setIfInBounds_toArray,set_cons_zero,set_cons_succ]
    refine wpAnyH_ready (rs:=[3]) (by kernel_rfl) (by simp) ?_;refine AllReadyH.cons (o:=({dst:=some 26,op:=Op.call {callee:=Callee.value (Operand.func 191),args:= #[Operand.tmp 23,Operand.tmp 25],argTypes:= #[25,25]},type:=4,pos:= "sign.go:260",after:= #[{on:=0,ground:=Ground.data},{on:=2,ground:=Ground.data},{on:=2,ground:=Ground.chain}],guard:=none}:Oper)) rfl (fun K hK=> ?_) AllReadyH.nil;go_simp;refine(CS2.out _ hbk.out).mono ?_;rintro e w4 ⟨rfl,hbn⟩;have hbk:=hid (trC2 hbk hbn);clear hbn;try (dsimp only)
    try go_wp2_with fail
    refine hK.out _ _ (HK.out _ hbk.out) (fun hHeld=> ?_);clear hK K;try simp only[Act.put,setIfInBounds_toArray,set_cons_zero,set_cons_succ]
    refine tkp [4,5,6,7,8,9,10,11,12,13,14,15,16] ?_;iterate 13 (refine tkr (HK.out _ hbk.out) ?_;simp only[Act.put,setIfInBounds_toArray,set_cons_zero,set_cons_succ])
    refine tke ?_;refine wpAnyH_done (by kernel_rfl) ?_ _;go_wp2_with fail;refine bodyPost_ret (v:= .tuple #[.slice none 0 0,.bool false]) (by simp[results,results166,go_sem]) rfl ?_;exact⟨none,0,0,rfl,fun h=>(by cases h),trC2 HBX hbk.out⟩
  have t2:((ts.length:Int) !=(ps:Int)+(mo:Int))=false:=by simp;omega
  have HPL:=hid (show ps≤ts.length by omega);have HZ4:=hid (show allB V0 ps=z by rw[←HZ3.out,decide_eq_true e3];rfl);have hpl:(ps:Int)≤(ts.length:Int):=by omega
  clear e3 HZ3 HZ2;refine wp_region_held_drew (S:=fun w'=>w'.cell? ⟨w1.heap.size,0,none⟩=some (.int .i64 hd.k)∧w'.cell? ⟨w1.heap.size,1,none⟩=some (.int .i64 hd.n)∧w'.cell? ⟨w1.heap.size,2,none⟩=some (.slice A2 hd.l.length c2)∧w'.cell? ⟨b,o+m*15+11,none⟩=some (.int .i64 mo)) (by kernel_rfl) ?_ (fun hHeld=> ?_)
  · exact HK.out _ hbk.out
  refine tkp [0,1] ?_;iterate 2 (refine tkr (HK.out _ hbk.out) ?_;simp only[Act.put,setIfInBounds_toArray,set_cons_zero,set_cons_succ])
  refine tke ?_;refine wpAnyH_ready (rs:=[2]) (by kernel_rfl) (by simp) ?_;refine AllReadyH.cons (o:=({dst:=some 25,op:=Op.call {callee:=Callee.value (Operand.func 161),args:= #[Operand.tmp 24],argTypes:= #[3]},type:=25,pos:= "sign.go:260",after:= #[{on:=1,ground:=Ground.data}],guard:=none}:Oper)) rfl (fun K hK=> ?_) AllReadyH.nil;go_simp;refine(CC.out _).mono ?_;rintro e w3 ⟨rfl,hbn⟩;have hbk:=hid (trC2 hbk hbn);clear hbn;try (dsimp only)
  try go_wp2_with fail
  refine hK.out _ _ (HK.out _ hbk.out) (fun hHeld=> ?_);clear hK K;try simp only[Act.put,setIfInBounds_toArray,set_cons_zero,set_cons_succ]
  refine wpAnyH_ready (rs:=[3]) (by kernel_rfl) (by simp) ?_;refine AllReadyH.cons (o:=({dst:=some 26,op:=Op.call {callee:=Callee.value (Operand.func 191),args:= #[Operand.tmp 23,Operand.tmp 25],argTypes:= #[25,25]},type:=4,pos:= "sign.go:260",after:= #[{on:=0,ground:=Ground.data},{on:=2,ground:=Ground.data},{on:=2,ground:=Ground.chain}],guard:=none}:Oper)) rfl (fun K hK=> ?_) AllReadyH.nil;go_simp;refine(CS2.out _ hbk.out).mono ?_;rintro e w4 ⟨rfl,hbn⟩;have hbk:=hid (trC2 hbk hbn);clear hbn;try (dsimp only)
  try go_wp2_with fail
  refine hK.out _ _ (HK.out _ hbk.out) (fun hHeld=> ?_);clear hK K;try simp only[Act.put,setIfInBounds_toArray,set_cons_zero,set_cons_succ]
  refine tkp [4,5,6,7,8,9,10,11,12,13,14,15,16] ?_;iterate 13 (refine tkr (HK.out _ hbk.out) ?_;simp only[Act.put,setIfInBounds_toArray,set_cons_zero,set_cons_succ])
  refine tke ?_;refine wpAnyH_done (by kernel_rfl) ?_ _;have HBY:=hid (trC2 HBX hbk.out);have HAY:=hid (HDX.out.2.kept hbk.out (by have:=HXS.out;omega));have HARY:=hid (show TermIn _ (fun b=>((lo'≤b∧b<hi')∨w.heap.size≤b)∧b<w1.heap.size) (.node 0 0 ts) A1 c1 from TermIn.imp (fun b o hb=>(trC2 HW1X hbk.out).cell (p:=⟨b,o,none⟩) hb.2) (fun _ h=>h) HARP.out);have HXY:=hid hbk.out.size;have HBS:=hid (show bs≤1000 by omega);have HLT:=hid (show(ts.take ps).length=ps by rw[List.length_take];have:=HPL.out;omega);have HLV:=hid (show((varsT bs).take ps).length=ps by rw[List.length_take,varsT_len];have:=HPB.out;omega);have HEQ:=hid ((HPV.out HPL.out).trans HZ4.out);have hpb:(ps:Int)≤((varsT bs).length:Int):=by rw[varsT_len];have:=HPB.out;omega
  obtain⟨vl,hvl⟩:∃n,(varsT bs).length=n:=⟨_,rfl⟩;rw[hvl]at hpb;have HVL:=hid hvl;clear hvl;have CV:Hid (∀(V:World),Calls prog 175 #[.int .i64 bs] V fun e w'=>∃A cap,e= .returned (.slice A vl cap)∧IsTerms w' 0 w'.heap.size (varsT bs) A cap∧Below V.heap.size V w'):=hid (fun V=>by
    have:=vars_any bs HBS.out V;unfold GivesR at this;rw[HVL.out]at this;exact this)
  obtain⟨Y,hY⟩:∃Y,Y=w4:=⟨_,rfl⟩;rw[←hY]at HBY HAY HARY hbk HXY⊢;clear hY;have hac:(ts.length:Int)≤(c1:Int):=by have:=HAY.out.bounds.1;omega
  have hpc:(ps:Int)≤(c1:Int):=by omega
  have CE2:Hid (∀(V:World) (A3:Option Addr) (c3:Nat),Below Y.heap.size Y V→IsTerms V 0 V.heap.size (varsT bs) A3 c3→Calls prog 192 #[.slice A1 ps c1,.slice A3 ps c3,.func (.func 191) #[] #[]] V fun e w'=>e= .returned (.bool z)∧Below V.heap.size V w'):=hid (fun V A3 c3 hV h3=>by
    have:=CEQ.out V A1 A3 c1 c3 0 ((HAY.out.kept hV (by have:=HBY.out.size;have:=HXS.out;have:=hbk.out.size;omega)).wide lrC2 (by have:=hV.size;have:=hbk.out.size;have:=HXS.out;omega)) h3 (HSH.out V (trC2 HBY hV));rw[HLT.out,HLV.out,HEQ.out]at this;exact this)
  have hbk:=hid ((Below.refl Y.heap.size Y).drew);clear CC CS2 CEQ HK;go_wp2_with fail;refine wp_region_held_drew (S:=fun w'=>Below Y.heap.size Y w') (by kernel_rfl) ?_ (fun hHeld=> ?_)
  · exact hbk.out
  refine tkp [0,1,2,3,5] ?_;iterate 5 (refine tkr (hbk.out) ?_;simp only[Act.put,setIfInBounds_toArray,set_cons_zero,set_cons_succ])
  refine tke ?_;refine wpAnyH_ready (rs:=[4]) (by kernel_rfl) (by simp) ?_;refine AllReadyH.cons (o:=({dst:=some 44,op:=Op.call {callee:=Callee.value (Operand.func 175),args:= #[Operand.tmp 43],argTypes:= #[3]},type:=23,pos:= "sign.go:263",after:= #[{on:=3,ground:=Ground.data}],guard:=none}:Oper)) rfl (fun K hK=> ?_) AllReadyH.nil;go_simp;refine(CV.out _).mono ?_;rintro e w5 ⟨A3,c3,rfl,hv5,hbn⟩;have hvc:(ps:Int)≤(c3:Int):=by have:=hv5.bounds.1;have:=HVL.out;omega
  have HV5:=hid hv5;have hbk:=hid (trC2 hbk hbn);clear hbn hv5;try (dsimp only)
  try go_wp2_with fail
  refine hK.out _ _ (hbk.out) (fun hHeld=> ?_);clear hK K;try simp only[Act.put,setIfInBounds_toArray,set_cons_zero,set_cons_succ]
  refine tkp [6] ?_;iterate 1 (refine tkr (hbk.out) ?_;simp only[Act.put,setIfInBounds_toArray,set_cons_zero,set_cons_succ])
  refine tke ?_;refine wpAnyH_ready (rs:=[7]) (by kernel_rfl) (by simp) ?_;refine AllReadyH.cons (o:=({dst:=some 47,op:=Op.call {callee:=Callee.value (Operand.func 192),args:= #[Operand.tmp 42,Operand.tmp 46,Operand.func 191],argTypes:= #[23,23,62]},type:=4,pos:= "sign.go:263",after:= #[{on:=2,ground:=Ground.data},{on:=6,ground:=Ground.data},{on:=4,ground:=Ground.chain}],guard:=none}:Oper)) rfl (fun K hK=> ?_) AllReadyH.nil;go_simp;refine(CE2.out _ A3 c3 hbk.out HV5.out).mono ?_;rintro e w6 ⟨rfl,hbn⟩;have hbk:=hid (trC2 hbk hbn);clear hbn;try (dsimp only)
  try go_wp2_with fail
  refine hK.out _ _ (hbk.out) (fun hHeld=> ?_);clear hK K;try simp only[Act.put,setIfInBounds_toArray,set_cons_zero,set_cons_succ]
  refine tkp [8] ?_;iterate 1 (refine tkr (hbk.out) ?_;simp only[Act.put,setIfInBounds_toArray,set_cons_zero,set_cons_succ])
  refine tke ?_;refine wpAnyH_done (by kernel_rfl) ?_ _;have HBZ:=hid (trC2 HBY hbk.out);have HTZ:=hid (show TermIn w6 (fun b=>((lo'≤b∧b<hi')∨w.heap.size≤b)∧b<w6.heap.size) (.node 0 0 ts) A1 c1 from TermIn.imp (fun b o hb=>hbk.out.cell (p:=⟨b,o,none⟩) (by have:=HXS.out;have:=HXY.out;have:=hb.2;show b<_;omega)) (fun b hb=>⟨hb.1,by have:=hbk.out.size;have:=HXY.out;have:=HXS.out;have:=hb.2;omega⟩) HARY.out);have HLD:=hid (show ts.length - ps=(ts.drop ps).length by rw[List.length_drop]);have hpl2:(ps:Int)≤(ts.length:Int):=hpl;cases z with
  | false=>
    go_wp2_with fail;refine bodyPost_ret (v:= .tuple #[.slice none 0 0,.bool false]) (by simp[results,results166,go_sem]) rfl ?_;exact⟨none,0,0,rfl,fun h=>(by cases h),HBZ.out⟩
  | true=>
    have HRS:=hid (TermIn.rest (n:=ps) HTZ.out HPL.out);by_cases hcp:c1=ps
    · rw[if_pos hcp]at HRS;go_wp2_with fail;refine bodyPost_ret (v:= .tuple #[.slice A1 (ts.length - ps) (c1 - ps),.bool true]) (by simp[results,results166,go_sem];omega) rfl ?_;exact⟨_,_,_,rfl,fun _=>⟨HLD.out,HRS.out⟩,HBZ.out⟩
    · rw[if_neg hcp]at HRS;go_wp2_with fail;refine bodyPost_ret (v:= .tuple #[.slice (A1.map (·.add (ps*3))) (ts.length - ps) (c1 - ps),.bool true]) (by simp[results,results166,go_sem]) rfl ?_;exact⟨_,_,_,rfl,fun _=>⟨HLD.out,HRS.out⟩,HBZ.out⟩
theorem ind_any (l:List ET) (A:Option Addr) (cap m:Nat) (hm:m<l.length) (t:TM) (T:Option Addr) (tc bs lo hi lo' hi':Nat) (w:World) (hl:l.length≤600) (hn:EntsAt w lo hi A l) (hhi:hi≤w.heap.size)
    (ht:IsTerm w lo' hi' t T tc) (hhi':hi'≤w.heap.size) (hS:ShapesM w) (hs:shapedB t=true) (ha:0≤l[m].a) (hi0:0≤l[m].i) (hai:l[m].a+l[m].i≤24) (hb:l[m].a≤(bs:Int)) (hbs:bs≤1000):
    Calls prog 166 #[.slice A l.length cap,.int .i64 m,termV t T tc,.int .i64 bs] w (IndIs (appB t m l[m].a.toNat l[m].i.toNat bs) ((argsT t).drop l[m].a.toNat) w):=
  (indP_any l A cap m hm t T tc bs lo hi lo' hi' w hl hn hhi ht hhi' hS hs ha hi0 hai hb hbs).mono fun _ _ h=>h.plain
end Go.Proofs.YtchllgkgjompgaaGreatDoor
