import Derived.Test.YtchllgkgjompgaaGreatDoorI4
import Derived.Test.YtchllgkgjompgaaGreatDoorIoRcr
import Derived.Test.YtchllgkgjompgaaGreatDoorI6
import Derived.Test.YtchllgkgjompgaaGreatDoorI2
import Derived.Deep.RegionHeld3
import Derived.Deep.CutRange
namespace Go.Proofs.YtchllgkgjompgaaGreatDoor
open Go.RowKit
set_option linter.unusedVariables false
set_option maxRecDepth 100000
open Lib(hid)
open Go.Proofs.Tryz
theorem lrI9{n:Nat}:n≤n:=Nat.le_refl n
theorem trI9{a b c:World}(x:Hid (Below a.heap.size a b))(y:Below b.heap.size b c):Below a.heap.size a c:=x.out.trans (y.mono x.out.size)
theorem not_isV {k n b:Int} (h1:k≠1) (h8:k≠8): ¬ isV k n b:=fun h=>by rcases isV_leaf h with h|h<;>contradiction
theorem put_pi (H:Put) (n:Int) (a c:TM) (b:Int):putT H (.node 3 n [a,c]) b= .node 3 n [putT H a (b+bnd 3 0),putT H c (b+bnd 3 1)]:=by
 rw[putT_node,if_neg (not_isV (by decide) (by decide)),putM_cons,putM_cons,putM_nil]
theorem take_put (H:Put):∀(t:TM) (b:Int),shapedB t=true→∃L c,takeT (pisN t) (putT H t b)=some (L,putT H (benT t) c)∧L.length=pisN t:=by
 intro t;induction t using TM.ind with
 | h k n l ih=>
  intro b hs;by_cases hk:k=3
  ·subst hk;obtain⟨n',a,c,e, -,hc⟩:=pi_parts (shapedB_true.1 hs).2.2 rfl;injection e with _ e1 e2;subst e1;subst e2;obtain⟨L,q,h1,h2⟩:=ih c (by simp) (b+bnd 3 1) (pi_shaped hs).2;rw[put_pi,pisN_pi,takeT_pi,h1,(tel_pi hc).2];exact⟨_,q,rfl,by rw[List.length_cons,h2]⟩
  ·rw[pisN_not (t:= .node k n l) hk,(tel_not (t:= .node k n l) hk).2];exact⟨[],b,rfl,rfl⟩
theorem args_put (H:Put):∀(u:TM) (b:Int),tgoodB u=true→(headT u).k=6→(argsT (putT H u b)).length=(argsT u).length:=by
 intro u;induction u using TM.ind with
 | h k n l ih=>
  intro b hg hh;by_cases hk:k=5
  ·subst hk;obtain⟨f,a,rfl,rfl,hf,ha⟩:=app_parts hg;rw[headT_app]at hh;rw[putT_node,if_neg (not_isV (by decide) (by decide)),putM_cons,putM_cons,putM_nil,argsT_app,argsT_app,List.length_append,List.length_append,ih f (by simp) _ hf hh];rfl
  ·rw[headT_not n l hk]at hh;obtain rfl:k=6:=hh;rw[putT_node,if_neg (not_isV (by decide) (by decide)),argsT_not _ _ (by decide),argsT_not _ _ (by decide)]
theorem rec_is {d:Int} {ps mo:Nat} {t:TM} {bs:Nat} (h:(recT d ps mo t bs).is=true):pisN t≤24∧appB (benT t) d ps mo (bs+pisN t)=true∧recT d ps mo t bs=⟨true,telT t,(argsT (benT t)).drop ps⟩:=by
 unfold recT at h⊢;split at h
 ·rename_i h1
  obtain⟨h2,h3⟩:=(Bool.and_eq_true _ _).mp h1;exact⟨of_decide_eq_true h2,h3,by rw[if_pos h1]⟩
 ·cases h
theorem app_facts {t:TM} {d:Int} {ps mo bs:Nat} (h:appB t d ps mo bs=true):(headT t).k=6∧(argsT t).length=ps+mo:=by
 unfold appB at h;simp only[Bool.and_eq_true]at h;exact⟨of_decide_eq_true h.1,of_decide_eq_true h.2.2.1⟩
theorem thr_put {t:TM} {d:Int} {ps mo bs:Nat} (h:(recT d ps mo t bs).is=true) (pars ahead:List TM) (hp:pars.length=ps):ThrOk t (recT d ps mo t bs).ar.length pars ahead:=by
 obtain⟨h24,ha,he⟩:=rec_is h;obtain⟨hk,hl⟩:=app_facts ha;intro h0;obtain⟨x,hx⟩:∃x,(manyX t (pars++ahead).reverse).1=x:=⟨_,rfl⟩;obtain⟨hs, -,hxp,hxs⟩:=many_ok (show manyX t (pars++ahead).reverse=(x,0)from Prod.ext hx h0);obtain⟨tl, -,hbs, -⟩:=tel_facts hs;obtain⟨L,c,h1,h2⟩:=take_put (firstP (pars++ahead).reverse) t 0 hs;rw[he];show ∃L u,splitX (manyX t (pars++ahead).reverse).1 ((telT t).length:Nat)=(L,u,0)∧L.length=(telT t).length∧_
 rw[tl,hx];rw[←hxp]at h1;refine⟨L,_, ?_,h2,take_shaped hxs h1, ?_⟩
 ·unfold splitX;rw[hxs,decide_eq_true (show(0:Int)≤((pisN t:Nat):Int)by omega),if_pos (by rfl),if_neg (by omega),Int.toNat_natCast,h1]
 ·rw[args_put _ _ _ (shapedB_true.1 hbs).2.2 hk,hl];omega
theorem parts_rec {l:List ET} {m i:Nat} (hm:m<l.length) (hi:i<(partsAt l m).recs.length) (hi2:i<(partsAt l m).args.length):
    (partsAt l m).recs[i]=recT l[m].f l[m].a.toNat (moOf l l[m]) (partsAt l m).args[i] (l[m].a.toNat+i):=by
  have h0:partsAt l m=partsT l[m] (moOf l l[m]):=by unfold partsAt;rw[List.getElem?_eq_getElem hm]
  simp only[h0]at hi hi2⊢;exact recsT_at hi hi2
theorem thr_ok {l:List ET} {m i:Nat} (hm:m<l.length) (hi:i<(partsAt l m).recs.length) (hi2:i<(partsAt l m).args.length) (hr:(partsAt l m).recs[i].is=true) (pars ahead:List TM) (hp:pars.length=l[m].a.toNat):
  ThrOk (partsAt l m).args[i] (partsAt l m).recs[i].ar.length pars ahead:=by
 rw[parts_rec hm hi hi2]at hr⊢;exact thr_put hr pars ahead hp
theorem rec_24 {l:List ET} {m i:Nat} (hm:m<l.length) (hs:∀u∈(partsAt l m).args,shapedB u=true) (hi:i<(partsAt l m).recs.length) (hi2:i<(partsAt l m).args.length):(partsAt l m).recs[i].ar.length≤24:=by
 rw[parts_rec hm hi hi2];cases h:(recT l[m].f l[m].a.toNat (moOf l l[m]) (partsAt l m).args[i] (l[m].a.toNat+i)).is with
 | true=>
  obtain⟨h24, -,he⟩:=rec_is h;rw[he];show(telT _).length≤24
  rw[(tel_facts (hs _ (List.getElem_mem hi2))).1];exact h24
 | false=>
  unfold recT at h⊢;split at h
  ·cases h
  ·rename_i h1
   rw[if_neg h1];exact Nat.zero_le _
def elimT (d v:Int):TM:= .node 7 d [.node 2 v []]
def rcC (κ:Int) (c:CoT) (pars own front:List TM):Nat→Int
 | 0=>0
 | i+1=>if rcC κ c pars own front i=0 then(if isR c i then(stepR κ c pars own front i).2 else 0)else rcC κ c pars own front i
theorem rcC_ok {κ:Int} {c:CoT} {pars own front:List TM}:∀{n:Nat},recOk κ c pars own front n→rcC κ c pars own front n=0
 | 0,_=>rfl
 | n+1,h=>by
  rw[rcC,if_pos (rcC_ok fun i hi=>h i (by omega))];by_cases hr:isR c n=true
  ·rw[if_pos hr];exact h n (by omega) hr
  ·rw[if_neg hr]
theorem rcC_stay {κ:Int} {c:CoT} {pars own front:List TM} {i:Nat} (h:rcC κ c pars own front i≠0):∀k,rcC κ c pars own front (i+k)=rcC κ c pars own front i
 | 0=>rfl
 | k+1=>by
  have:=rcC_stay h k;rw[show i+(k+1)=(i+k)+1 from rfl,rcC,this,if_neg h]
theorem rcC_err {κ q:Int} {c:CoT} {pars own front:List TM} (h:RcrE κ c pars own front q):rcC κ c pars own front c.recs.length=q∧q≠0:=by
 obtain⟨i,hi,hr,hok,he,hq⟩:=h;have h1:rcC κ c pars own front (i+1)=q:=by rw[rcC,if_pos (rcC_ok hok),if_pos hr];exact he
 have h2:=rcC_stay (show rcC κ c pars own front (i+1)≠0 by rw[h1];exact hq) (c.recs.length - (i+1));rw[show i+1+(c.recs.length - (i+1))=c.recs.length by omega,h1]at h2;exact⟨h2,hq⟩
def stpT (c:CoT) (a q:Nat) (d v:Int) (args own:List TM):TM:=applyT (args.getD (a+1+q) (.node 0 0 [])) (own++recL 4 c (args.take a) own (elimT d v::args) c.recs.length)
def stpX (c:CoT) (a q:Nat) (d v:Int) (args own:List TM):TM×Int:=
 if rcC 4 c (args.take a) own (elimT d v::args) c.recs.length=0 then(if shapedB (stpT c a q d v args own)then(stpT c a q d v args own,0)else(.node 0 0 [],2))
 else(.node 0 0 [],rcC 4 c (args.take a) own (elimT d v::args) c.recs.length)
theorem con_place {l:List ET} (h:formedB l=true) {m d:Nat} {hm:m<l.length} {hd:d<l.length} (hk:l[m].k=2) (hc:ConF l m d hm hd):∃q,l[m].p=((q:Nat):Int)∧q<l[d].c.length:=by
 have h1:=formed_ent h hm;unfold entP at h1;rw[if_neg (by omega),if_pos hk]at h1;simp only[Bool.and_eq_true]at h1;obtain⟨_,h2,_,h3⟩:=h1;unfold conB at h3;rw[Bool.and_eq_true]at h3;obtain⟨h4,h5⟩:=h3;rw[famAt_nat hc.f hd]at h5;simp only[Bool.and_eq_true,decide_eq_true_eq]at h5;obtain⟨q1,_⟩:=h5;have hmem:((m:Nat):Int)∈l[d].c:=by simpa using q1
 obtain⟨q,hq,hqe⟩:=List.getElem_of_mem hmem;obtain⟨hm',e1,_,_,e4⟩:=(fam_facts h hd hc.kd).cons q hq;have hh:d+1+q=m:=by rw[hqe]at e1;omega
 subst hh;exact⟨q,e4,hq⟩
def StpR (c:CoT) (ps own fr:List TM) (wx:World) (u:Value) (k:Int):Prop:=
  (recOk 4 c ps own fr c.recs.length∧k=0∧∃A d,u= .slice A (recL 4 c ps own fr c.recs.length).length d∧IsTerms wx 0 wx.heap.size (recL 4 c ps own fr c.recs.length) A d)∨(RcrE 4 c ps own fr k∧u= .slice none 0 0)
theorem layLam:LayOk 4 (.func (.func 147) #[] #[]):=fun l L capL t A cap w hl ht hS=>laidLam_any l L capL t A cap w hl ht hS
set_option maxHeartbeats 16000000 in
theorem istep_go (l:List ET) (A B:Option Addr) (cap bap hi g m d a q:Nat) (v:Int) (hm:m<l.length) (hd:d<l.length) (args own:List TM) (Aa Oa:Option Addr) (ac oc:Nat) (w:World) (hr:RulesAt w hi g l A B cap bap) (hk:l[m].k=2) (hc:ConF l m d hm hd) (ha0:l[d].a=(a:Int)) (hq0:l[m].p=(q:Int)) (hq:q<l[d].c.length) (hv:0≤v∧v≤7)
    (ha:IsTerms w 0 w.heap.size args Aa ac) (ho:IsTerms w 0 w.heap.size own Oa oc) (hsa:shN args ((a:Int)+1+(l[d].c.length:Nat))=true) (hso:shN own (partsAt l m).args.length=true) (hS:ShapesM w):
    Calls prog 119 #[.pointer (some ⟨g,0,none⟩),.int .i64 d,.int .i64 v,.int .i64 m,.slice Aa args.length ac,.slice Oa own.length oc] w (GivesT (stpX (partsAt l m) a q d v args own) w):=by
  have hlen:=formed_len hr.fm;have hff:=fam_facts hr.fm hd hc.kd;have hla:(args.length:Int)=(a:Int)+1+(l[d].c.length:Nat):=by
    unfold shN at hsa;rw[Bool.and_eq_true]at hsa;exact of_decide_eq_true hsa.1
  have hlo:(own.length:Int)=((partsAt l m).args.length:Nat):=by
    unfold shN at hso;rw[Bool.and_eq_true]at hso;exact of_decide_eq_true hso.1
  have h24:(partsAt l m).args.length≤24:=by
    have h0:partsAt l m=partsT l[m] (moOf l l[m]):=by unfold partsAt;rw[List.getElem?_eq_getElem hm]
    rw[h0];show((telT l[m].t).drop l[m].a.toNat).length≤24
    rw[List.length_drop,(tel_facts hc.sh).1];have:=hc.n24;omega
  have hsh:∀u∈(partsAt l m).args,shapedB u=true:=by
    have h0:partsAt l m=partsT l[m] (moOf l l[m]):=by unfold partsAt;rw[List.getElem?_eq_getElem hm]
    rw[h0];intro u hu;exact(tel_facts hc.sh).2.2.2 u (List.mem_of_mem_drop hu)
  have hrl:(partsAt l m).recs.length=(partsAt l m).args.length:=by
    have h0:partsAt l m=partsT l[m] (moOf l l[m]):=by unfold partsAt;rw[List.getElem?_eq_getElem hm]
    rw[h0];exact recsT_len _ _ _ _ _
  have ha24:a≤24:=by have h1:=hff.ai;have h2:=hff.i0;omega
  have hc16:=hff.c16;have hal:args.length=a+1+l[d].c.length:=by omega
  have hol:own.length=(partsAt l m).args.length:=by omega
  have hel:elB l d v=true:=by
    unfold elB;rw[isB_nat hd,decide_eq_true hc.kd,decide_eq_true hv.1,decide_eq_true hv.2];rfl
  have his:isB l m 2=true:=by rw[isB_nat hm];exact decide_eq_true hk
  obtain⟨b,o,pm,hA, -,hb2,hxm, -⟩:=hr.ents m hm;obtain⟨b',o',pd,hA', -, -,hxd,hed⟩:=hr.ents d hd;subst hA;obtain⟨rfl,rfl⟩:b=b'∧o=o':=by
    injection hA' with e;injection e with e1 e2;exact⟨e1,e2⟩
  obtain⟨b2,o2,v0,v1,v2,hB,hbb2,k0, -, -,hcv⟩:=hr.con hm hk;obtain⟨Fc,Cc,_,_,_,_,hv0, -⟩:=hcv;subst hB;subst hv0;have hhl:=hr.hl;have HF:=hid (fun V (hV:Below w.heap.size w V)=>(show V.cell? ⟨g,0,none⟩=some (.slice (some ⟨b,o,none⟩) l.length cap)∧V.cell? ⟨g,1,none⟩=some (.slice (some ⟨b2,o2,none⟩) l.length bap)∧V.cell? ⟨b,o+m*15+8,none⟩=some (.int .i64 (d:Int))∧V.cell? ⟨b,o+m*15+9,none⟩=some (.int .i64 (q:Int))∧V.cell? ⟨b,o+d*15+10,none⟩=some (.int .i64 (a:Int))∧V.cell? ⟨b,o+d*15+13,none⟩=some (.slice pd.C l[d].c.length pd.cc)∧V.cell? ⟨b2,o2+m*3,none⟩=some (.slice Fc (partsAt l m).args.length Cc)from by
    have h1:=hr.below hV;have h2:=hxm.kept (hV.mono hhl) hb2;have h3:=hxd.kept (hV.mono hhl) hb2;have e8:=h2.c8;have e9:=h2.c9;have e10:=h3.c10;rw[hc.f]at e8;rw[hq0]at e9;rw[ha0]at e10;exact⟨h1.c0,h1.c1,e8,e9,e10,h3.c13,(hV.cell (p:=⟨b2,o2+m*3,none⟩) (by show b2<_;omega)).trans k0⟩))
  obtain⟨ba,oa,Fa0,Ca0,hAa, -⟩:=ha.sub 0 (by omega);subst hAa;have HRR:=hid (fun V (hV:Below w.heap.size w V)=>hr.below hV);have HSS:=hid (fun V (hV:Below w.heap.size w V)=>hS.kept hV);have HAA:=hid (fun V (hV:Below w.heap.size w V)=>(show IsTerms V 0 V.heap.size args (some ⟨ba,oa,none⟩) ac from(ha.kept hV lrI9).wide lrI9 hV.size));have HOO:=hid (fun V (hV:Below w.heap.size w V)=>(show IsTerms V 0 V.heap.size own Oa oc from(ho.kept hV lrI9).wide lrI9 hV.size));have CE:=hid (fun V (hV:Below w.heap.size w V)=>(show Calls prog 143 #[.pointer (some ⟨g,0,none⟩),.int .i64 d,.int .i64 v] V (fun e w'=>e= .returned (.bool true)∧V=w')from by
    have:=elims_any l (some ⟨b,o,none⟩) (some ⟨b2,o2,none⟩) cap bap hi g d v V (HRR.out V hV);rw[hel]at this;exact this))
  have CI:=hid (fun V (hV:Below w.heap.size w V)=>(show Calls prog 141 #[.pointer (some ⟨g,0,none⟩),.int .i64 m,.int .i64 2] V (fun e w'=>e= .returned (.bool true)∧V=w')from by
    have:=iis_any l (some ⟨b,o,none⟩) (some ⟨b2,o2,none⟩) cap bap hi g m 2 V (HRR.out V hV);rw[his]at this;exact this))
  obtain⟨na,hna⟩:∃na,args.length=na:=⟨_,rfl⟩;obtain⟨no,hno⟩:∃no,own.length=no:=⟨_,rfl⟩;rw[hna,hno];obtain⟨nc,hnc⟩:∃nc,l[d].c.length=nc:=⟨_,rfl⟩;obtain⟨np,hnp⟩:∃np,(partsAt l m).args.length=np:=⟨_,rfl⟩;rw[hnc]at HF hsa hal hc16 hq;rw[hnp]at HF hso hol h24 hrl;rw[hna]at hal;rw[hno]at hol;have CSA:=hid (fun V (hV:Below w.heap.size w V)=>(show Calls prog 142 #[.slice (some ⟨ba,oa,none⟩) na ac,.int .i64 ((a:Int)+1+(nc:Int))] V (fun e w'=>e= .returned (.bool true)∧Below V.heap.size V w')from by
    have:=ishaped_any args ((a:Int)+1+(nc:Int)) 0 V.heap.size (some ⟨ba,oa,none⟩) ac V (HAA.out V hV) lrI9 (HSS.out V hV);rw[hsa,hna]at this;exact this))
  have CSO:=hid (fun V (hV:Below w.heap.size w V)=>(show Calls prog 142 #[.slice Oa no oc,.int .i64 (np:Int)] V (fun e w'=>e= .returned (.bool true)∧Below V.heap.size V w')from by
    have:=ishaped_any own (np:Int) 0 V.heap.size Oa oc V (HOO.out V hV) lrI9 (HSS.out V hV);rw[hso,hno]at this;exact this))
  have HX:=hid (show stpX (partsAt l m) a q d v args own=stpX (partsAt l m) a q d v args own from rfl);obtain⟨R,hR⟩:∃R,stpX (partsAt l m) a q d v args own=R:=⟨_,rfl⟩;have HRX:=hid hR;rw[hR];obtain⟨ps,hps⟩:∃ps,args.take a=ps:=⟨_,rfl⟩;obtain⟨fr,hfr⟩:∃fr,elimT d v::args=fr:=⟨_,rfl⟩;have hpl:ps.length=a:=by rw[←hps,List.length_take];omega
  have hfl:fr.length=na+1:=by rw[←hfr,List.length_cons,hna]
  have CR:=hid (fun(Ff:Option Addr) (fc:Nat) (V:World) (hV:Below w.heap.size w V) (hf:IsTerms V 0 V.heap.size fr Ff fc)=>(show Calls prog 144 #[.pointer (some ⟨g,0,none⟩),.int .i64 m,.slice (some ⟨ba,oa,none⟩) a ac,.slice Oa no oc,.slice Ff (na+1) fc,.func (.func 147) #[] #[]] V (GivesRr 4 (partsAt l m) ps own fr V)from by
    have:=recurring_any 4 _ layLam l (some ⟨b,o,none⟩) (some ⟨b2,o2,none⟩) cap bap hi g m hm ps own fr (some ⟨ba,oa,none⟩) Oa Ff ac oc fc V (HRR.out V hV) hk (by rw[←hps];exact(HAA.out V hV).take a) (HOO.out V hV) hf (by omega) (by rw[hno,hnp];exact hol) (by omega) (by omega) (by omega) (by rw[hrl,hnp])
      (fun i h=>rec_24 hm hsh h (by rw[hnp];omega)) (fun i h h2 hi=>thr_ok hm h h2 hi _ _ (by rw[hpl,hc.a,ha0];rfl)) (HSS.out V hV)
    rw[hpl,hno,hfl]at this;exact this))
  have CC:=hid (fun(V:World) (g1 g2 g3:Nat) (e1 e2:TypeId) (hV:Below w.heap.size w V) (hb1:Bk V g1 25 #[.int .i64 2,.int .i64 v,.slice none 0 0]) (hb2:Bk V g2 e1 #[.int .i64 7,.int .i64 (d:Int),.slice (some ⟨g1,0,none⟩) 1 1]) (hb3:Bk V g3 e2 #[.slice (some ⟨g2,0,none⟩) 1 1,.slice (some ⟨ba,oa,none⟩) na ac])=>(show Calls prog 145 #[.slice (some ⟨g3,0,none⟩) 2 2] V (GivesR fr V)from by
    have hlt:LsAt V V.heap.size g3 [([elimT d v],some ⟨g2,0,none⟩,1),(args,some ⟨ba,oa,none⟩,ac)]:=LsAt.of (e:=e2) (by
      show Bk V g3 e2 #[.slice (some ⟨g2,0,none⟩) 1 1,.slice (some ⟨ba,oa,none⟩) args.length ac]
      rw[hna];exact hb3) lrI9 (fun p hp=>by
        simp only[List.mem_cons,List.not_mem_nil,or_false]at hp;rcases hp with rfl|rfl
        · exact one_in (t:=elimT d v) (one_in (t:= .node 2 v []) (leaf_in _ _ 2 v) hb1 ⟨Nat.zero_le _,hb1.lt⟩ 7 d) hb2 ⟨Nat.zero_le _,hb2.lt⟩ 0 0
        · exact HAA.out V hV)
    have hfl2:flatL [([elimT d v],some ⟨g2,0,none⟩,1),(args,some ⟨ba,oa,none⟩,ac)]=fr:=by rw[←hfr];unfold flatL;simp
    have:=concatM_any _ V.heap.size g3 V hlt (by simp) (by rw[hfl2,hfl];omega);rw[hfl2]at this;exact this.mono fun _ _ h=>h.gives))
  unfold GivesR at CC;rw[hfl]at CC;have CL:=hid (fun(V:World)=>(mk_elim (d:Int) v V).mono fun e w' h=>h);obtain⟨W,hW⟩:∃W,w.alloc (.cells #[.int .i64 0,.int .i64 0,.slice none 0 0] 25)=W:=⟨_,rfl⟩;have HBW:=hid (show Below w.heap.size w W from by rw[←hW];exact(Below.refl _ _).alloc lrI9 _);have HKW:=hid (show Bk W w.heap.size 25 #[.int .i64 0,.int .i64 0,.slice none 0 0]from by rw[←hW];exact Bk.new w _ _);have hm0:(m:Int)<(l.length:Int):=by omega
  have hd0:(d:Int)<(l.length:Int):=by omega
  have hm9:(m:Int)≤600:=by omega
  have hd9:(d:Int)≤600:=by omega
  have hac:=ha.bounds.1;have hac':(a:Int)≤(ac:Int):=by omega
  have hacn:(na:Int)≤(ac:Int):=by omega
  have hw1:IntKind.i64.wrap ((a:Int)+1)=(a:Int)+1:=IntWalk.i64_in _ (by omega);have hw2:IntKind.i64.wrap ((a:Int)+1+(nc:Int))=(a:Int)+1+(nc:Int):=IntWalk.i64_in _ (by omega);have HQN:=hid (show a+1+q<na from by omega);have HNA:=hid hna;have HNO:=hid hno;have HPS:=hid hps;have HFR:=hid hfr;have hgw:g<w.heap.size:=by have:=hr.gl;omega
  have hbw:b<w.heap.size:=by omega
  have hbw2:b2<w.heap.size:=by omega
  obtain⟨c,hcc⟩:∃c,partsAt l m=c:=⟨_,rfl⟩;rw[hcc]at CR HRX;have CR:=hid (fun(Ff:Option Addr) (fc:Nat) (V:World) (hV:Below w.heap.size w V) (hf:IsTerms V 0 V.heap.size fr Ff fc)=>(show Calls prog 144 #[.pointer (some ⟨g,0,none⟩),.int .i64 m,.slice (some ⟨ba,oa,none⟩) a ac,.slice Oa no oc,.slice Ff (na+1) fc,.func (.func 147) #[] #[]] V (fun e w'=>∃u k,e= .returned (.tuple #[u,.int .i64 k])∧StpR c ps own fr w' u k∧Below V.heap.size V w')from(CR.out Ff fc V hV hf).mono fun e w' h=>by
    obtain⟨h1|h1,hb⟩:=h
    · obtain⟨h1,A,d,rfl,h2⟩:=h1;exact⟨_,_,rfl,.inl ⟨h1,rfl,A,d,rfl,h2⟩,hb⟩
    · obtain⟨-,k,h2,rfl⟩:=h1;exact⟨_,_,rfl,.inr ⟨h2,rfl⟩,hb⟩))
  obtain⟨n0,hn0⟩:∃n0,n0=a+1+q:=⟨_,rfl⟩;have hw3:IntKind.i64.wrap ((a:Int)+1+(q:Int))=(n0:Int):=by rw[IntWalk.i64_in _ (by omega)];omega
  have hn0i:(n0:Int)<(na:Int):=by omega
  have HN0:=hid hn0;clear hr hc ha ho hS hff hla hlo hsh hrl hxm hxd hed k0 hel his hna hno hnc hnp hsa hso hR hps hfr hcc HX hA' hk ha0 hq0 hq hal hol hpl hfl h24 hlen hn0;obtain⟨r0,r1,e8,e9,e10,e13,k0⟩:=HF.out W HBW.out;go_enter func119,ntmps119;go_wp2_with fail;refine(CE.out W HBW.out).mono ?_;rintro e w1 ⟨rfl,rfl⟩;go_wp2_with fail;refine(CI.out W HBW.out).mono ?_;rintro e w1 ⟨rfl,rfl⟩;go_wp2_with fail;refine(CSA.out W HBW.out).mono ?_;rintro e w2 ⟨rfl,hb2'⟩;have HB2:=hid (HBW.out.trans (hb2'.mono HBW.out.size));have HB02:=hid hb2';clear hb2' r0 r1 e8 e9 e10 e13 k0 hW;obtain⟨r0,r1,e8,e9,e10,e13,k0⟩:=HF.out w2 HB2.out;go_wp2_with fail;refine(CSO.out w2 HB2.out).mono ?_;rintro e w3 ⟨rfl,hb3'⟩;have HB3:=hid (HB2.out.trans (hb3'.mono HB2.out.size));have HK3:=hid (HKW.out.below (HB02.out.trans (hb3'.mono HB02.out.size)) HKW.out.lt);clear hb3' r0 r1 e8 e9 e10 e13 k0 HB02 HB2;have hlK:=HK3.out.lt;have CL3:=hid (fun V (hV:Below w3.heap.size w3 V)=>CL.out V);have HW3:=hid (fun V (hV:Below w3.heap.size w3 V)=>(show Below w.heap.size w V from trI9 HB3 hV));have hbk0:=hid (show Below w3.heap.size w3 w3.drew from(Below.refl _ _).drew);go_upto_region 8 with fail
  go_cut [15,16]from 83 to 100 (fun s15 s16 wx=>Below w3.heap.size w3 wx∧∃k:Int,s16= .int .i64 k∧StpR c ps own fr wx s15 k)
  case first=>
    go_region_held3 (fun w'=>True)
      (exact trivial)
      (first
      | (go_at_call 146
         refine(CL.out _).mono ?_;rintro e w4 ⟨ge,rfl,hge,hbe,hb4⟩;have hbE:Hid (Below w3.heap.size w3 w4):=hid (by first|exact trI9 hbk0 hb4|exact(Below.refl w3.heap.size w3).trans hb4);have HBE:=hid hbe;clear hb4 hbe hge)
      | (go_at_call 145
         refine(CC.out _ ge w4.heap.size (w4.heap.size+1) 25 23 (HW3.out _ (by exact(hbE.out.alloc hbE.out.size _).alloc (hbE.out.alloc hbE.out.size _).size _)) (by exact(HBE.out.alloc _).alloc _) (by exact(Bk.new w4 _ _).alloc _) (by exact Bk.last (w4.alloc _) _ _ (by simp))).mono ?_;rintro e w5 ⟨Lf,cf,rfl,hn5,hb5⟩;have hbC:Hid (Below w3.heap.size w3 w5):=hid (((hbE.out.alloc hbE.out.size _).alloc (hbE.out.alloc hbE.out.size _).size _).trans (hb5.mono ((hbE.out.alloc hbE.out.size _).alloc (hbE.out.alloc hbE.out.size _).size _).size));have HN5:=hid hn5;clear hb5 hn5)
      | (go_at_call 144
         refine(CR.out Lf cf _ (HW3.out _ hbC.out) HN5.out).mono ?_;rintro e w6 ⟨u,k,rfl,hres,hb6⟩;have hbR:Hid (Below w3.heap.size w3 w6):=hid (trI9 hbC hb6);have HRES:=hid hres;clear hb6 hres))
    all_goals
      go_wp2_with fail;go_meet;case rel=>exact⟨hbR.out,k,rfl,HRES.out⟩
  case rest=>
    obtain⟨Y,rfl⟩:∃Y:World,Y=wc:=⟨_,rfl⟩;obtain⟨hbY,k,rfl,hres⟩:=hcut;have HBY:=hid (trI9 HB3 hbY);have HKY:=hid (HK3.out.below hbY HK3.out.lt);have hlY:=HKY.out.lt;clear hbY CL3 HW3 CC CL CE CI CSA CSO CR;rcases hres with ⟨hok,rfl,A1,d1,rfl,hts⟩|⟨herr,rfl⟩
    case inr=>
      obtain⟨h1,h2⟩:=rcC_err herr;have hqk:(k !=0)=true:=by simpa using h2
      have HRE:=hid (show R=(.node 0 0 [],k)from by rw[←HRX.out];unfold stpX;rw[HPS.out,HFR.out,h1,if_neg h2]);have hfz:∀p,Y.frozen? ⟨w.heap.size,p,none⟩=false:=fun p=>HKY.out.cold p;have z0:Y.cell? ⟨w.heap.size,0,none⟩=some (.int .i64 0):=HKY.out.cell 0;have z1:Y.cell? ⟨w.heap.size,1,none⟩=some (.int .i64 0):=HKY.out.cell 1;have z2:Y.cell? ⟨w.heap.size,2,none⟩=some (.slice none 0 0):=HKY.out.cell 2;have B3:=((HKY.out.at_ 0 (.int .i64 0)).at_ 1 (.int .i64 0)).at_ 2 (.slice none 0 0);have HS0:=hid (B3.cell 0);have HS1:=hid (B3.cell 1);have HS2:=hid (B3.cell 2);clear B3 h1 h2 herr;go_wp2_with fail;refine bodyPost_ret (v:= .tuple #[.agg #[.int .i64 0,.int .i64 0,.slice none 0 0],.int .i64 k]) (by simp[results,results119,go_sem,HS0.out,HS1.out,HS2.out]) rfl ?_;rw[HRE.out];exact give_zero HBY.out lrI9
    case inl=>
      obtain⟨x,hx⟩:∃x,args.getD n0 (.node 0 0 [])=x:=⟨_,rfl⟩;obtain⟨rs,hrs⟩:∃rs,recL 4 c ps own fr c.recs.length=rs:=⟨_,rfl⟩;have HRE:=hid (show R=if shapedB (applyT x (own++rs))then(applyT x (own++rs),0)else(.node 0 0 [],2)from by rw[←HRX.out];unfold stpX stpT;rw[HPS.out,HFR.out,rcC_ok hok,if_pos rfl,←HN0.out,hx,hrs]);have hnl:n0<args.length:=by have:=HNA.out;omega
      have hxe:args[n0]=x:=by rw[←hx,List.getD_eq_getElem?_getD,List.getElem?_eq_getElem hnl];rfl
      rw[hrs]at hts;obtain⟨nr,hnr⟩:∃nr,rs.length=nr:=⟨_,rfl⟩;rw[hrs,hnr];obtain⟨b4,o4,Fx,Cx,hAx, -,hb4,hx4,hn4⟩:=(HAA.out Y HBY.out).sub n0 hnl;obtain⟨rfl,rfl⟩:ba=b4∧oa=o4:=by
        injection hAx with e;injection e with e1 e2;exact⟨e1,e2⟩
      rw[hxe]at hx4 hn4;obtain⟨l0,l1,l2⟩:=hx4;have HNX:=hid (fun V (hV:Below Y.heap.size Y V)=>(show IsTerm V 0 V.heap.size x Fx Cx from(hn4.kept hV lrI9).wide lrI9 hV.size));have HWY:=hid (fun V (hV:Below Y.heap.size Y V)=>(show Below w.heap.size w V from trI9 HBY hV));have CA:=hid (fun(V:World) (gx:Nat) (ex:TypeId) (hV:Below Y.heap.size Y V) (hb:Bk V gx ex #[.slice Oa no oc,.slice A1 nr d1])=>(show Calls prog 148 #[.agg #[.int .i64 x.k,.int .i64 x.n,.slice Fx x.l.length Cx],.slice (some ⟨gx,0,none⟩) 2 2] V (GivesA (applyT x (own++rs)) V)from by
        have hlt:LsAt V V.heap.size gx [(own,Oa,oc),(rs,A1,d1)]:=LsAt.of (e:=ex) (by
          show Bk V gx ex #[.slice Oa own.length oc,.slice A1 rs.length d1]
          rw[HNO.out,hnr];exact hb) lrI9 (fun p hp=>by
          simp only[List.mem_cons,List.not_mem_nil,or_false]at hp;rcases hp with rfl|rfl
          · exact HOO.out V (HWY.out V hV)
          · exact(hts.kept hV lrI9).wide lrI9 hV.size)
        have hfl2:flatL [(own,Oa,oc),(rs,A1,d1)]=own++rs:=by unfold flatL;simp
        have:=appd_any x Fx Cx _ V.heap.size gx V (HNX.out V hV) hlt (by simp);rw[hfl2]at this;exact this))
      obtain⟨t,ht⟩:∃t,applyT x (own++rs)=t:=⟨_,rfl⟩;rw[ht]at HRE CA;unfold GivesA termV at CA;have CSH:=hid (fun(V:World) (F:Option Addr) (cF:Nat) (hV:Below Y.heap.size Y V) (hn:IsTerm V 0 V.heap.size t F cF)=>shaped_any t 0 V.heap.size F cF V hn lrI9 (HSS.out V (HWY.out V hV)));have CCP:=hid (fun(V:World) (F:Option Addr) (cF:Nat) (hV:Below Y.heap.size Y V) (hn:IsTerm V 0 V.heap.size t F cF)=>copy_to t 0 V.heap.size F cF V hn lrI9 (HSS.out V (HWY.out V hV)));obtain⟨z,hz⟩:∃z,shapedB t=z:=⟨_,rfl⟩;rw[hz]at CSH HRE;have HZ:=hid hz;unfold termV at CSH;unfold CopyTo termV at CCP;have hbY0:Below Y.heap.size Y Y:=Below.refl _ _;obtain⟨r0,r1,e8,e9,e10,e13,k0⟩:=HF.out Y HBY.out;have hw3':=hw3;have HTS:=hid hts;have hwb:w.heap.size<Y.heap.size:=hlY;clear hok hts hx hrs hxe hnr hAx hn4 ht hz hbY0 HF HRX;go_wp2_with fail;have HBQ:=hid (show Below Y.heap.size Y (Y.alloc (.cells #[.slice Oa no oc,.slice A1 nr d1] 23))from(Below.refl _ _).alloc lrI9 _);refine(CA.out _ Y.heap.size 23 HBQ.out (Bk.new Y _ _)).mono ?_;rintro e w7 ⟨A7,c7,rfl,ht7,hb7⟩;have HB7:=hid (trI9 HBQ hb7);have HT7:=hid ht7;clear hb7 ht7 r0 r1 e8 e9 e10 e13 k0 l0 l1 l2 CA;obtain⟨Q,hQ⟩:∃Q,w7.alloc (.cells #[.int .i64 t.k,.int .i64 t.n,.slice A7 t.l.length c7] 25)=Q:=⟨_,rfl⟩;have HBQ7:=hid (show Below w7.heap.size w7 Q from by rw[←hQ];exact(Below.refl _ _).alloc lrI9 _);have HB8:=hid (trI9 HB7 HBQ7.out);have HKQ:=hid (show Bk Q w7.heap.size 25 #[.int .i64 t.k,.int .i64 t.n,.slice A7 t.l.length c7]from by rw[←hQ];exact Bk.new _ _ _);have HT8:=hid (fun V (hV:Below Q.heap.size Q V)=>(show IsTerm V 0 V.heap.size t A7 c7 from(HT7.out.kept (trI9 HBQ7 hV) lrI9).wide lrI9 (trI9 HBQ7 hV).size));have HKV:=hid (fun V (hV:Below Q.heap.size Q V)=>(show V.cell? ⟨w7.heap.size,0,none⟩=some (.int .i64 t.k)∧V.cell? ⟨w7.heap.size,1,none⟩=some (.int .i64 t.n)∧V.cell? ⟨w7.heap.size,2,none⟩=some (.slice A7 t.l.length c7)from by
        have k:=HKQ.out.below hV HKQ.out.lt;exact⟨k.cell 0,k.cell 1,k.cell 2⟩))
      have HY8:=hid (fun V (hV:Below Q.heap.size Q V)=>(show Below Y.heap.size Y V from trI9 HB8 hV));obtain⟨q0,q1,q2⟩:=HKV.out _ (Below.refl _ _);go_wp2_with fail;refine(CSH.out Q A7 c7 HB8.out (HT8.out Q (Below.refl _ _))).mono ?_;rintro e w9 ⟨rfl,hb9⟩;have HB9:=hid (trI9 HB8 hb9);have HBQ9:=hid hb9;have HK9:=hid (HKY.out.below HB9.out HKY.out.lt);have hl9:=HK9.out.lt;have HF9:=hid (trI9 HBY HB9.out);clear hb9 hQ q0 q1 q2;obtain⟨q0,q1,q2⟩:=HKV.out _ HBQ9.out;cases z with
      | false=>
        have HRF:=hid (show R=(.node 0 0 [],2)from by rw[HRE.out];rfl);have hfz:∀p,w9.frozen? ⟨w.heap.size,p,none⟩=false:=fun p=>HK9.out.cold p;have z0:w9.cell? ⟨w.heap.size,0,none⟩=some (.int .i64 0):=HK9.out.cell 0;have z1:w9.cell? ⟨w.heap.size,1,none⟩=some (.int .i64 0):=HK9.out.cell 1;have z2:w9.cell? ⟨w.heap.size,2,none⟩=some (.slice none 0 0):=HK9.out.cell 2;have B3:=((HK9.out.at_ 0 (.int .i64 0)).at_ 1 (.int .i64 0)).at_ 2 (.slice none 0 0);have HS0:=hid (B3.cell 0);have HS1:=hid (B3.cell 1);have HS2:=hid (B3.cell 2);clear B3;go_wp2_with fail;refine bodyPost_ret (v:= .tuple #[.agg #[.int .i64 0,.int .i64 0,.slice none 0 0],.int .i64 2]) (by simp[results,results119,go_sem,HS0.out,HS1.out,HS2.out]) rfl ?_;rw[HRF.out];exact give_zero HF9.out lrI9
      | true=>
        have HRF:=hid (show R=(t,0)from by rw[HRE.out];rfl);rw[copyT_shaped HZ.out]at CCP;go_wp2_with fail;refine(CCP.out w9 A7 c7 HB9.out (HT8.out w9 HBQ9.out)).mono ?_;rintro e w10 ⟨A10,c10,rfl,ht10,hb10⟩;have HT10:=hid (show IsTerm w10 w9.heap.size w10.heap.size t A10 c10 from ht10);have HK10:=hid (HK9.out.below hb10 HK9.out.lt);have HF10:=hid (trI9 HF9 hb10);have hl10:=HK10.out.lt;clear hb10 ht10 q0 q1 q2;have hfz:∀p,w10.frozen? ⟨w.heap.size,p,none⟩=false:=fun p=>HK10.out.cold p;have z0:w10.cell? ⟨w.heap.size,0,none⟩=some (.int .i64 0):=HK10.out.cell 0;have z1:w10.cell? ⟨w.heap.size,1,none⟩=some (.int .i64 0):=HK10.out.cell 1;have z2:w10.cell? ⟨w.heap.size,2,none⟩=some (.slice none 0 0):=HK10.out.cell 2;have B3:=((HK10.out.at_ 0 (.int .i64 t.k)).at_ 1 (.int .i64 t.n)).at_ 2 (.slice A10 t.l.length c10);have HS0:=hid (B3.cell 0);have HS1:=hid (B3.cell 1);have HS2:=hid (B3.cell 2);clear B3;go_wp2_with fail;refine bodyPost_ret (v:= .tuple #[.agg #[.int .i64 t.k,.int .i64 t.n,.slice A10 t.l.length c10],.int .i64 0]) (by simp[results,results119,go_sem,HS0.out,HS1.out,HS2.out]) rfl ?_;rw[HRF.out];exact give_term HF10.out lrI9 HT10.out hl9
end Go.Proofs.YtchllgkgjompgaaGreatDoor
