import Derived.Test.YtinlmmaokphhbaaGreatDoorI3
import Derived.Test.YtinlmmaokphhbaaGreatDoorI2
import Derived.Test.YtinlmmaokphhbaaGreatDoorM9
import Derived.Test.YtinlmmaokphhbaaGreatDoorV2
import Derived.Test.YtinlmmaokphhbaaGreatDoorR4
import Derived.Deep.RegionHeld3
import Derived.Deep.CutRange
namespace Go.Proofs.YtinlmmaokphhbaaGreatDoor
set_option maxHeartbeats 8000000
set_option maxRecDepth 100000
open Go.RowKit
set_option linter.unusedVariables false
open Lib(hid)
open Go.Proofs.Tryz
open Go.RowKit.Below renaming refl→Qa
open Go.Proofs.YtinlmmaokphhbaaGreatDoor.Below renaming st→Qb,dr→Qc,al→Qd
open Bk renaming below→Qe,last→Qf,new→Qg
open _root_.List renaming length_append→Qh,length_drop→Qi,not_mem_nil→Qj,map_append→Qk,mem_cons→Ql
open _root_.Nat renaming zero_le→Qm
theorem Zag{n:Nat}:n≤n:=Nat.le_refl n
theorem Ze9{a b c:World}(x:Hid (Below a.heap.size a b))(y:Below b.heap.size b c):Below a.heap.size a c:=x.out.trans (y.mono x.out.size)
def Zqi (p:List TM×List TM×Int)(w:World)(e:Ending)(w':World):Prop:=
 ∃A c B d,e= .returned (.tuple #[.slice A p.1.length c,.slice B p.2.1.length d,.int .i64 p.2.2])∧Ze w' 0 w'.heap.size p.1 A c∧Ze w' 0 w'.heap.size p.2.1 B d∧Below w.heap.size w w'
def Zft (t:TM)(n:Nat)(pars ahead:List TM):List TM×List TM×Int:=
 if(Zce t (pars++ahead).reverse).2=0 then((Zt (Zce t (pars++ahead).reverse).1 n).1,(Jc (Zt (Zce t (pars++ahead).reverse).1 n).2.1).drop pars.length,0)else([],[],(Zce t (pars++ahead).reverse).2)
def Zlf (t:TM)(n:Nat)(pars ahead:List TM):Prop:=
  (Zce t (pars++ahead).reverse).2=0→∃L u,Zt (Zce t (pars++ahead).reverse).1 n=(L,u,0)∧L.length=n∧Zb u=true∧pars.length≤(Jc u).length
theorem Z5u {t:TM}{n:Nat}{pars ahead L D:List TM}(h:Zlf t n pars ahead)(h2:Zft t n pars ahead=(L,D,0)):L.length=n:=by
 unfold Zft at h2;by_cases h0:(Zce t (pars++ahead).reverse).2=0
 ·obtain⟨L',u,e1,e2,_⟩:=h h0;rw[if_pos h0,e1]at h2;injection h2 with q1 _;rw[←q1];exact e2
 ·rw[if_neg h0]at h2;injection h2 with _ q2;injection q2 with _ q3;exact absurd q3 h0
theorem Zu0 (l:List ET)(A B:Option Addr)(cap bap hi g m i:Nat)(hm:m<l.length)(pars ahead:List TM)(Pa Ha:Option Addr)(pc hc:Nat)(w:World)(hr:J8 w hi g l A B cap bap)(hk:l[m].k=2)
    (hp:Ze w 0 w.heap.size pars Pa pc) (hh:Ze w 0 w.heap.size ahead Ha hc) (hlen:pars.length+ahead.length≤1000) (hi0:i<(Zj l m).args.length) (hi2:i<(Zj l m).recs.length) (hn24:(Zj l m).recs[i].ar.length≤24)
    (hok:Zlf (Zj l m).args[i] (Zj l m).recs[i].ar.length pars ahead) (hS:Zi w):
    Calls prog 97 #[.pointer (some ⟨g,0,none⟩),.int .i64 m,.int .i64 i,.slice Pa pars.length pc,.slice Ha ahead.length hc] w (Zqi (Zft (Zj l m).args[i] (Zj l m).recs[i].ar.length pars ahead) w):=by
  have hlen2:=Zc7 hr.fm;obtain⟨b,o,v0,v1,v2,hB,hbl,k0,k1,k2,F0,C0,G0,D0,H0,E0,rfl,rfl,rfl,ha, -,hrec,hrl, -⟩:=hr.con hm hk;subst hB;obtain⟨b1,o1,Ta,Tc,hF0, -,hb1l,hx1,ht1⟩:=ha.sub i hi0;subst hF0;obtain⟨b2,o2,u1,u2,hH0, -,hb2l,r0,r1,r2,F3,C3,G3,D3,rfl,rfl,hr1,hr2⟩:=hrec i hi2;subst hH0;have hhl:=hr.hl;have hb0:=ha.bounds.1;have hgl:=hr.gl;obtain⟨n3,hn3⟩:∃n,(Zj l m).recs[i].ar.length=n:=⟨_,rfl⟩;obtain⟨n0,hn0⟩:∃n,(Zj l m).args.length=n:=⟨_,rfl⟩;obtain⟨n2,hn2⟩:∃n,(Zj l m).recs.length=n:=⟨_,rfl⟩;obtain⟨t,ht⟩:∃t,(Zj l m).args[i]=t:=⟨_,rfl⟩;have HKT:=hid (fun V (hV:Below w.heap.size w V)=>(show(V.cell? ⟨g,1,none⟩=some (.slice (some ⟨b,o,none⟩) l.length bap)∧V.cell? ⟨b,o+m*3,none⟩=some (.slice (some ⟨b1,o1,none⟩) n0 C0)∧V.cell? ⟨b1,o1+i*3,none⟩=some (.int .i64 t.k)∧V.cell? ⟨b1,o1+i*3+1,none⟩=some (.int .i64 t.n)∧V.cell? ⟨b1,o1+i*3+2,none⟩=some (.slice Ta t.l.length Tc))∧V.cell? ⟨b,o+m*3+2,none⟩=some (.slice (some ⟨b2,o2,none⟩) n2 E0)∧V.cell? ⟨b2,o2+i*3+1,none⟩=some (.slice F3 n3 C3)from by
    have hV2:=hV.mono hhl;have h1:=(hr.below hV).c1;have h2:=hx1.kept hV2 hb1l;rw[ht]at h2;refine⟨⟨h1, ?_,h2.c0,h2.c1,h2.c2⟩, ?_, ?_⟩
    · rw[←hn0];exact(hV2.cell (p:=⟨b,_,none⟩) hbl).trans k0
    · rw[←hn2];exact(hV2.cell (p:=⟨b,_,none⟩) hbl).trans k2
    · rw[←hn3];exact(hV2.cell (p:=⟨b2,_,none⟩) hb2l).trans r1))
  rw[ht]at hok ht1⊢;rw[hn3]at hok hn24⊢;rw[hn0]at hi0 hb0;rw[hn2]at hi2 hrl;obtain⟨x,ec,hx⟩:∃x ec,Zce t (pars++ahead).reverse=(x,ec):=⟨_,_,rfl⟩;unfold Zlf at hok;have HTX:=hid (show Zft t n3 pars ahead=if(Zce t (pars++ahead).reverse).2=0 then((Zt (Zce t (pars++ahead).reverse).1 n3).1,(Jc (Zt (Zce t (pars++ahead).reverse).1 n3).2.1).drop pars.length,0)else([],[],(Zce t (pars++ahead).reverse).2)from rfl);obtain⟨R,hR⟩:∃R,Zft t n3 pars ahead=R:=⟨_,rfl⟩;rw[hR,hx]at HTX;rw[hR];rw[hx]at hok;simp only at hok;have HOK:=hid hok;have CC:=hid (fun(V:World)(g4:Nat)(e4:TypeId)(hV:Below w.heap.size w V)(hb4:Bk V g4 e4 #[.slice Pa pars.length pc,.slice Ha ahead.length hc])=>(show Calls prog 48 #[.slice (some ⟨g4,0,none⟩) 2 2] V (Zbj (pars++ahead) V)from by
    have hlt:Zc5 V V.heap.size g4 [(pars,Pa,pc),(ahead,Ha,hc)]:=Zc5.of (e:=e4) hb4 Zag (fun p hp'=>by
        simp only[Ql,Qj,or_false]at hp';rcases hp' with rfl|rfl
        · exact(hp.kept hV Zag).wide Zag hV.size
        · exact(hh.kept hV Zag).wide Zag hV.size)
    have hfl:Jh [(pars,Pa,pc),(ahead,Ha,hc)]=pars++ahead:=by unfold Jh;simp
    have:=Zhy _ V.heap.size g4 V hlt (by simp) (by rw[hfl,Qh];omega);rw[hfl]at this;exact this.mono fun _ _ h=>h.gives))
  have CF:=hid (fun V (hV:Below w.heap.size w V) (L:Option Addr) (cL:Nat) (hL:Ze V 0 V.heap.size (pars++ahead) L cL)=>(show Calls prog 117 #[.agg #[.int .i64 t.k,.int .i64 t.n,.slice Ta t.l.length Tc],.slice L (pars++ahead).length cL] V (Zn (x,ec) V)from by
    have:=Z1o t 0 hi Ta Tc (pars++ahead) L cL V (ht1.kept (hV.mono hhl) Zag) (by have:=hV.size;omega) hL (by rw[Qh];omega) (hS.kept hV);rw[hx]at this;exact this))
  obtain⟨ls,hls⟩:∃ls,pars++ahead=ls:=⟨_,rfl⟩;rw[hls]at CC CF;have HSS:=hid (fun V (hV:Below w.heap.size w V)=>hS.kept hV);have HPP:=hid (show Ze w 0 w.heap.size pars Pa pc from hp);unfold Zbj at CC;unfold Zn Zc at CF;have hgw:g<w.heap.size:=by omega
  have hbw:b<w.heap.size:=by omega
  have hb1w:b1<w.heap.size:=by omega
  have hb2w:b2<w.heap.size:=by omega
  have hm0:(m:Int)<(l.length:Int):=by omega
  have hm1:(m:Int)≤256:=by omega
  have hi1:(i:Int)<(n0:Int):=by omega
  have hi3:(i:Int)<(n2:Int):=by omega
  have hi4:(0:Int)≤(i:Int):=by omega
  have hbk0:=hid (show Below w.heap.size w w.drew from(Qa _ _).drew);obtain⟨⟨t0,t1,t2,t3,t4⟩,t5,t6⟩:=HKT.out _ (Qa _ _);clear hr hk k0 k1 k2 ha hrec hx1 ht1 r0 r1 r2 hr1 hr2 hp hh hS hok hn0 hn2 hn3 ht hx hR hls hhl hb0 hrl;go_enter func97,ntmps97;go_upto_region 1 with fail
  go_cut [13,14]from 20 to 38 (fun s13 s14 wx=>∃gv Ax cx,s13= .pointer (some ⟨gv,0,none⟩)∧s14= .int .i64 ec∧Z8 wx gv x.k x.n (.slice Ax x.l.length cx)∧Below w.heap.size w wx∧Za wx 0 wx.heap.size x Ax cx)
  case first=>
    go_region_held3 (fun w'=>w'.cell? ⟨g,1,none⟩=some (.slice (some ⟨b,o,none⟩) l.length bap)∧w'.cell? ⟨b,o+m*3,none⟩=some (.slice (some ⟨b1,o1,none⟩) n0 C0)∧w'.cell? ⟨b1,o1+i*3,none⟩=some (.int .i64 t.k)∧w'.cell? ⟨b1,o1+i*3+1,none⟩=some (.int .i64 t.n)∧w'.cell? ⟨b1,o1+i*3+2,none⟩=some (.slice Ta t.l.length Tc))
      ((refine(HKT.out _ ?_).1;repeat (first|with_reducible exact hbF.out|with_reducible exact hbC.out|with_reducible exact hbk0.out|with_reducible exact Qa _ _|with_reducible refine Qd ?_ _|with_reducible refine Qc ?_|with_reducible refine Qb ?_ (by first|omega|(simp<;>omega)) _)))
      (first
      | (go_at_call 48
         refine(CC.out _ _ 23 (by repeat (first|with_reducible exact hbk0.out|with_reducible exact Qa _ _|with_reducible refine Qd ?_ _|with_reducible refine Qc ?_|with_reducible refine Qb ?_ (by first|omega|(simp<;>omega)) _)) (by first|exact(Qf _ _ _ (by simp))|exact((Qf _ _ _ (by simp)).alloc _))).mono ?_;rintro e w3 ⟨L3,c3,rfl,hl3,hb3⟩;have HL3:=hid hl3;have hbC:=hid (by first|exact Ze9 hbk0 hb3|exact(hbk0.out.alloc hbk0.out.size _).trans (hb3.mono (hbk0.out.alloc hbk0.out.size _).size)|exact((hbk0.out.alloc hbk0.out.size _).alloc (hbk0.out.alloc hbk0.out.size _).size _).trans (hb3.mono ((hbk0.out.alloc hbk0.out.size _).alloc (hbk0.out.alloc hbk0.out.size _).size _).size));have hzC:=hbC.out.size
         first
         | (have hbz2:=hid (Qe hbz.out hb3 (by have:=hbz.out.lt;simp<;>omega));have hbz:=hbz2;clear hbz2)
         | (have hbz2:=hid (Qe (hbz.out.alloc _) hb3 (by have:=hbz.out.lt;simp<;>omega));have hbz:=hbz2;clear hbz2)
         | (have hbz:Hid (Bk w3 (w.heap.size) 27 #[.int .i64 0,.int .i64 0,.slice none 0 0]):=hid (Qe (show Bk _ (w.heap.size) 27 #[.int .i64 0,.int .i64 0,.slice none 0 0]from(Qf w.drew 27 #[.int .i64 0,.int .i64 0,.slice none 0 0] (by simp))) hb3 (by simp<;>omega)))
         | (have hbz:Hid (Bk w3 (w.heap.size) 27 #[.int .i64 0,.int .i64 0,.slice none 0 0]):=hid (Qe (show Bk _ (w.heap.size) 27 #[.int .i64 0,.int .i64 0,.slice none 0 0]from((Qf w.drew 27 #[.int .i64 0,.int .i64 0,.slice none 0 0] (by simp)).alloc _)) hb3 (by simp<;>omega)))
         | (have hbz:Hid (Bk w3 (w.heap.size+1) 27 #[.int .i64 0,.int .i64 0,.slice none 0 0]):=hid (Qe (show Bk _ (w.heap.size+1) 27 #[.int .i64 0,.int .i64 0,.slice none 0 0]from(Qf (w.drew.alloc _) 27 #[.int .i64 0,.int .i64 0,.slice none 0 0] (by simp))) hb3 (by simp<;>omega)))
         | skip
         first|have hlz:=hbz.out.lt|skip
         clear hb3 hl3)
      | (go_at_call 117
         refine(CF.out _ (by repeat (first|with_reducible exact hbC.out|with_reducible exact Qa _ _|with_reducible refine Qd ?_ _|with_reducible refine Qc ?_|with_reducible refine Qb ?_ (by first|omega|(simp<;>omega)) _)) L3 c3 (by first|exact HL3.out|exact(HL3.out.kept ((Qa w3.heap.size w3).alloc Zag _) Zag).wide Zag (by simp))).mono ?_;rintro e w5 ⟨Ax,cx,rfl,hx5,hb5⟩;have hbF:=hid (by first|exact Ze9 hbC hb5|exact(hbC.out.alloc hbC.out.size _).trans (hb5.mono (hbC.out.alloc hbC.out.size _).size));have hzF:=hbF.out.size
         first
         | (have hbz2:=hid (Qe hbz.out hb5 (by have:=hbz.out.lt;simp<;>omega));have hbz:=hbz2;clear hbz2)
         | (have hbz2:=hid (Qe (hbz.out.alloc _) hb5 (by have:=hbz.out.lt;simp<;>omega));have hbz:=hbz2;clear hbz2)
         | (have hbz:Hid (Bk w5 (w3.heap.size) 27 #[.int .i64 0,.int .i64 0,.slice none 0 0]):=hid (Qe (show Bk _ (w3.heap.size) 27 #[.int .i64 0,.int .i64 0,.slice none 0 0]from(Qf w3 27 #[.int .i64 0,.int .i64 0,.slice none 0 0] (by simp))) hb5 (by simp<;>omega)))
         | (have hbz:Hid (Bk w5 (w3.heap.size) 27 #[.int .i64 0,.int .i64 0,.slice none 0 0]):=hid (Qe (show Bk _ (w3.heap.size) 27 #[.int .i64 0,.int .i64 0,.slice none 0 0]from((Qf w3 27 #[.int .i64 0,.int .i64 0,.slice none 0 0] (by simp)).alloc _)) hb5 (by simp<;>omega)))
         | (have hbz:Hid (Bk w5 (w3.heap.size+1) 27 #[.int .i64 0,.int .i64 0,.slice none 0 0]):=hid (Qe (show Bk _ (w3.heap.size+1) 27 #[.int .i64 0,.int .i64 0,.slice none 0 0]from(Qf (w3.alloc _) 27 #[.int .i64 0,.int .i64 0,.slice none 0 0] (by simp))) hb5 (by simp<;>omega)))
         | skip
         have HX5:=hid hx5
         first
         | (have hfz:∀q,w5.frozen? ⟨_,q,none⟩=false:=fun q=>hbz.out.cold q
            have d0:=hbz.out.cell 0;have d1:=hbz.out.cell 1;have d2:=hbz.out.cell 2;simp at d0 d1 d2)
         | skip
         clear hb5 hx5))
    all_goals
      go_wp2_with fail;go_meet;case rel=>
        first
        | exact⟨_,Ax,cx,rfl,rfl,Z8.of (Qg w5 _ _),(by repeat (first|with_reducible exact hbF.out|with_reducible exact Qa _ _|with_reducible refine Qd ?_ _|with_reducible refine Qc ?_|with_reducible refine Qb ?_ (by first|omega|(simp<;>omega)) _)),Zd.imp (fun b o hb=>((Qa w5.heap.size w5).alloc Zag _).cell (p:=⟨b,o,none⟩) hb.2) (fun b hb=>⟨Qm _,by have:=hb.2;simp;omega⟩) HX5.out⟩
        | exact⟨_,Ax,cx,rfl,rfl,Z8.of (((hbz.out.at_ 0 (.int .i64 x.k)).at_ 1 (.int .i64 x.n)).at_ 2 (.slice Ax x.l.length cx)),(by repeat (first|with_reducible exact hbF.out|with_reducible exact Qa _ _|with_reducible refine Qd ?_ _|with_reducible refine Qc ?_|with_reducible refine Qb ?_ (by first|omega|(simp<;>omega)) _)),(Zd.three HX5.out (fun b hb e=>by have h1:=hb.1;have h2:=hbz.out.lt;subst e;first|omega|(simp at h1;done)|(simp at h1;omega)) _ _ _).imp (fun _ _ _=>rfl) (fun b hb=>⟨Qm _,by rw[Z2];exact hb.2⟩)⟩
  case rest=>
    obtain⟨wk,rfl⟩:∃wk:World,wk=wc:=⟨_,rfl⟩;obtain⟨gv,Ax,cx,rfl,rfl,htb,hbx,hnx⟩:=hcut;have HXB:=hid htb;have HBX:=hid hbx;have HNX:=hid hnx;clear htb hbx hnx t0 t1 t2 t3 t4 t5 t6 CC CF;by_cases h0:ec=0
    case neg=>
      have q0:(ec !=0)=true:=by simpa using h0
      have HRR:=hid (show([],[],ec)=R from by rw[HTX.out];exact(if_neg h0).symm);clear h0 HTX HOK;go_wp2_with fail;refine bodyPost_ret (v:= .tuple #[.slice none 0 0,.slice none 0 0,.int .i64 ec]) (by simp[results,results97,go_sem]) rfl ?_;rw[←HRR.out];exact⟨none,0,none,0,rfl,Zgy _ _ _,Zgy _ _ _,HBX.out⟩
    have q0:(ec !=0)=false:=by rw[h0];rfl
    obtain⟨L,u,hsp, -,hsu,hpa⟩:=HOK.out h0;have HRR:=hid (show(L,(Jc u).drop pars.length,0)=R from by rw[HTX.out,if_pos h0];simp only;rw[hsp]);have hkt:=(HKT.out _ HBX.out);have HK2:=hid (fun V (hV:Below wk.heap.size wk V)=>(show V.cell? ⟨g,1,none⟩=some (.slice (some ⟨b,o,none⟩) l.length bap)∧V.cell? ⟨b,o+m*3+2,none⟩=some (.slice (some ⟨b2,o2,none⟩) n2 E0)∧V.cell? ⟨b2,o2+i*3+1,none⟩=some (.slice F3 n3 C3)∧V.cell? ⟨gv,0,none⟩=some (.int .i64 x.k)∧V.cell? ⟨gv,1,none⟩=some (.int .i64 x.n)∧V.cell? ⟨gv,2,none⟩=some (.slice Ax x.l.length cx)from by
      have h1:=HKT.out V (Ze9 HBX hV);obtain⟨y0,y1,y2,_⟩:=HXB.out.kept hV HXB.out.lt;exact⟨h1.1.1,h1.2.1,h1.2.2,y0,y1,y2⟩))
    have CSP:=hid (fun V (hV:Below wk.heap.size wk V)=>(show Calls prog 73 #[.agg #[.int .i64 x.k,.int .i64 x.n,.slice Ax x.l.length cx],.int .i64 (n3:Int)] V (Zbk (fun b=>V.heap.size≤b) (L,u,0) V)from by
      have:=Zil x Ax cx n3 V ((HNX.out.kept hV Zag).wide Zag hV.size) (HSS.out V (Ze9 HBX hV));rw[hsp]at this;exact this))
    have CHD:=hid (fun V (hV:Below wk.heap.size wk V) (D:Option Addr) (d:Nat) (hD:Za V 0 V.heap.size u D d)=>(show Calls prog 110 #[.agg #[.int .i64 u.k,.int .i64 u.n,.slice D u.l.length d]] V (Znw u V)from
      Z0e u 0 V.heap.size D d V hD Zag (HSS.out V (Ze9 HBX hV)) (Zh.1 hsu).2.2 (Zh.1 hsu).1 (by have:=(Zh.1 hsu).2.1;omega)))
    unfold Zbk Zc at CSP;simp only at CSP;have HPA:=hid hpa;have hgc:g<wk.heap.size:=by have:=HBX.out.size;omega
    have hbc:b<wk.heap.size:=by have:=HBX.out.size;omega
    have hb2c:b2<wk.heap.size:=by have:=HBX.out.size;omega
    have hgvc:=HXB.out.lt;have hbk1:=hid (show Below wk.heap.size wk wk.drew from(Qa _ _).drew);obtain⟨s0,s1,s2,s3,s4,s5⟩:=HK2.out _ (Qa _ _);clear HTX HOK hsp hsu hpa hkt h0;go_wp2_with fail;go_upto_region 4 with fail
    go_cut [15,16,17]from 42 to 60 (fun s15 s16 s17 wy=>∃gy AL cL Ay cy,s15= .slice AL L.length cL∧s16= .pointer (some ⟨gy,0,none⟩)∧s17= .int .i64 0∧Z8 wy gy u.k u.n (.slice Ay u.l.length cy)∧Below wk.heap.size wk wy∧Ze wy 0 wy.heap.size L AL cL∧Za wy 0 wy.heap.size u Ay cy)
    case first=>
      go_region_held3 (fun w'=>w'.cell? ⟨g,1,none⟩=some (.slice (some ⟨b,o,none⟩) l.length bap)∧w'.cell? ⟨b,o+m*3+2,none⟩=some (.slice (some ⟨b2,o2,none⟩) n2 E0)∧w'.cell? ⟨b2,o2+i*3+1,none⟩=some (.slice F3 n3 C3)∧w'.cell? ⟨gv,0,none⟩=some (.int .i64 x.k)∧w'.cell? ⟨gv,1,none⟩=some (.int .i64 x.n)∧w'.cell? ⟨gv,2,none⟩=some (.slice Ax x.l.length cx))
        ((refine(HK2.out _ ?_);repeat (first|with_reducible exact hbF.out|with_reducible exact hbk1.out|with_reducible exact Qa _ _|with_reducible refine Qd ?_ _|with_reducible refine Qc ?_|with_reducible refine Qb ?_ (by first|omega|(simp<;>omega)) _)))
        (first
        | (go_at_call 73
           refine(CSP.out _ (by repeat (first|with_reducible exact hbk1.out|with_reducible exact Qa _ _|with_reducible refine Qd ?_ _|with_reducible refine Qc ?_|with_reducible refine Qb ?_ (by first|omega|(simp<;>omega)) _))).mono ?_;rintro e w5 ⟨AL,cL,Ay,cy,rfl,hl5,hy5,hb5⟩;have hbF:=hid (by first|exact Ze9 hbk1 hb5|exact(hbk1.out.alloc hbk1.out.size _).trans (hb5.mono (hbk1.out.alloc hbk1.out.size _).size));have hzF:=hbF.out.size
           first
           | (have hbz2:=hid (Qe hbz.out hb5 (by have:=hbz.out.lt;simp<;>omega));have hbz:=hbz2;clear hbz2)
           | (have hbz:Hid (Bk w5 (wk.heap.size) 27 #[.int .i64 0,.int .i64 0,.slice none 0 0]):=hid (Qe (show Bk _ (wk.heap.size) 27 #[.int .i64 0,.int .i64 0,.slice none 0 0]from(Qf wk.drew 27 #[.int .i64 0,.int .i64 0,.slice none 0 0] (by simp))) hb5 (by simp<;>omega)))
           | skip
           have HL5:=hid hl5;have HY5:=hid hy5
           first
           | (have hfz:∀q,w5.frozen? ⟨_,q,none⟩=false:=fun q=>hbz.out.cold q
              have d0:=hbz.out.cell 0;have d1:=hbz.out.cell 1;have d2:=hbz.out.cell 2;simp at d0 d1 d2)
           | skip
           clear hb5 hl5 hy5))
      all_goals
        go_wp2_with fail;go_meet;case rel=>
          first
          | exact⟨_,AL,cL,Ay,cy,rfl,rfl,rfl,Z8.of (Qg w5 _ _),(by repeat (first|with_reducible exact hbF.out|with_reducible exact Qa _ _|with_reducible refine Qd ?_ _|with_reducible refine Qc ?_|with_reducible refine Qb ?_ (by first|omega|(simp<;>omega)) _)),Zd.imp (fun b o hb=>((Qa w5.heap.size w5).alloc Zag _).cell (p:=⟨b,o,none⟩) hb.2) (fun b hb=>⟨Qm _,by have:=hb.2;simp;omega⟩) HL5.out,Zd.imp (fun b o hb=>((Qa w5.heap.size w5).alloc Zag _).cell (p:=⟨b,o,none⟩) hb.2) (fun b hb=>⟨Qm _,by have:=hb.2;simp;omega⟩) HY5.out⟩
          | exact⟨_,AL,cL,Ay,cy,rfl,rfl,rfl,Z8.of (((hbz.out.at_ 0 (.int .i64 u.k)).at_ 1 (.int .i64 u.n)).at_ 2 (.slice Ay u.l.length cy)),(by repeat (first|with_reducible exact hbF.out|with_reducible exact Qa _ _|with_reducible refine Qd ?_ _|with_reducible refine Qc ?_|with_reducible refine Qb ?_ (by first|omega|(simp<;>omega)) _)),(Zd.three HL5.out (fun b hb e=>by have h1:=hb.1;have h2:=hbz.out.lt;subst e;first|omega|(simp at h1;done)|(simp at h1;omega)) _ _ _).imp (fun _ _ _=>rfl) (fun b hb=>⟨Qm _,by rw[Z2];exact hb.2⟩),(Zd.three HY5.out (fun b hb e=>by have h1:=hb.1;have h2:=hbz.out.lt;subst e;first|omega|(simp at h1;done)|(simp at h1;omega)) _ _ _).imp (fun _ _ _=>rfl) (fun b hb=>⟨Qm _,by rw[Z2];exact hb.2⟩)⟩
    case rest=>
      obtain⟨gy,AL,cL,Ay,cy,rfl,rfl,rfl,hty,hby,hnl,hny⟩:=hcut;have CHD1:=hid (CHD.out wc hby Ay cy hny);obtain⟨y0,y1,y2,hlty⟩:=hty;have HBY:=hid (Ze9 HBX hby);have HNL:=hid hnl;obtain⟨as_,has⟩:∃as_,Jc u=as_:=⟨_,rfl⟩;unfold Znw Zc at CHD1;rw[has]at CHD1 HPA HRR;obtain⟨hd,hhd⟩:∃hd,Zaw u=hd:=⟨_,rfl⟩;rw[hhd]at CHD1;clear hby hnl hny has hhd CSP HK2 hbk1 s0 s1 s2 s3 s4 s5 CHD;go_wp2_with fail;refine CHD1.out.mono ?_;rintro e w7 ⟨Ah,ch,Ar,cr,rfl, -,har,hb7⟩;have HB7:=hid (Ze9 HBY hb7);have hrb:=har.bounds;have HAR:=hid (Ze.rest har HPA.out);have HL7:=hid ((HNL.out.kept hb7 Zag).wide Zag hb7.size);have hpl0:(pars.length:Int)≤(as_.length:Int):=by have:=HPA.out;omega
      have hpl1:(pars.length:Int)≤(cr:Int):=by omega
      have HLEN:=hid (show as_.length - pars.length=(as_.drop pars.length).length by rw[Qi]);obtain⟨A2,hA2⟩:∃A2,(if cr=pars.length then Ar else Ar.map (fun x=>x.add (pars.length*3)))=A2:=⟨_,rfl⟩;rw[hA2]at HAR;have HBF:=hid (HB7.out.alloc HB7.out.size (.cells #[.int .i64 hd.k,.int .i64 hd.n,.slice Ah hd.l.length ch] 27));have HFIN:=hid (show ∃A c B d,Value.tuple #[.slice AL L.length cL,.slice A2 (as_.length - pars.length) (cr - pars.length),.int .i64 0]=Value.tuple #[.slice A R.1.length c,.slice B R.2.1.length d,.int .i64 R.2.2]∧Ze (w7.alloc (.cells #[.int .i64 hd.k,.int .i64 hd.n,.slice Ah hd.l.length ch] 27)) 0 (w7.alloc (.cells #[.int .i64 hd.k,.int .i64 hd.n,.slice Ah hd.l.length ch] 27)).heap.size R.1 A c∧Ze (w7.alloc (.cells #[.int .i64 hd.k,.int .i64 hd.n,.slice Ah hd.l.length ch] 27)) 0 (w7.alloc (.cells #[.int .i64 hd.k,.int .i64 hd.n,.slice Ah hd.l.length ch] 27)).heap.size R.2.1 B d from by
        rw[←HRR.out];refine⟨AL,cL,A2,cr - pars.length,by simp only;rw[HLEN.out],(HL7.out.alloc Zag _).wide Zag (by simp),(HAR.out.alloc Zag _).wide Zag (by simp)⟩)
      clear har hb7 hrb HAR HL7 HRR HLEN CHD1 y0 y1 y2;by_cases hcq:cr=pars.length
      all_goals
        first
        | (rw[if_pos hcq]at hA2
           subst hA2)
        | (rw[if_neg hcq]at hA2
           subst hA2)
        go_wp2_with fail;go_region_held3 (fun _=>True) (exact trivial) (first|fail)
        go_wp2_with fail;obtain⟨A,c,B,d,h1,h2,h3⟩:=HFIN.out;refine bodyPost_ret (by simp[results,results97,go_sem];rfl) rfl ?_
        first
        | exact⟨A,c,B,d,congrArg Ending.returned h1,h2.kept ((Qa _ _).drew) Zag,h3.kept ((Qa _ _).drew) Zag,HBF.out.drew⟩
        | exact⟨A,c,B,d,congrArg Ending.returned (by rw[←h1];simp[hcq]),h2.kept ((Qa _ _).drew) Zag,h3.kept ((Qa _ _).drew) Zag,HBF.out.drew⟩
def Zno (l:List TM)(i:Nat):TM×Int:=Jy (l.getD i (.node 0 0 [])) i 0
theorem Z0i {l:List TM}{i:Nat}(h:i<l.length):Zno l i=Jy l[i] i 0:=by
 unfold Zno;rw[List.getD_eq_getElem?_getD,List.getElem?_eq_getElem h];rfl
def Zcx (l:List TM)(i:Nat):List TM:=(List.range i).map fun j=>(Zno l j).1
theorem Zux (l:List TM)(i:Nat):Zcx l (i+1)=Zcx l i++[(Zno l i).1]:=by
 unfold Zcx;rw[List.range_succ,Qk];rfl
theorem Zhh (l:List TM)(i:Nat):(Zcx l i).length=i:=by unfold Zcx;simp
def Z01 (l:List TM)(w:World)(nv iv:Value)(wr:World):Prop:=
 ∃(i:Nat) (ps:List (TM×Option Addr×Nat)) (P:Nat→Prop),i≤l.length∧iv= .int .i64 i∧Below w.heap.size w wr∧
  Zk wr w.heap.size 27 nv ps P∧(∀b,P b→w.heap.size≤b)∧ps.length=i∧ps.map (·.1)=Zcx l i
theorem Zop (l:List TM)(A:Option Addr)(cap:Nat)(w:World)(h:Ze w 0 w.heap.size l A cap)(hlen:l.length≤8000)(hS:Zi w):
  Calls prog 49 #[.slice A l.length cap] w (Zbj (Zcx l l.length) w):=by
 obtain⟨i0,hi0,hz0,hz1,hz2⟩:=info_parts Zc9;obtain⟨hl,hm⟩:=h.bounds;have HN:=hid h.sub;have HLN:=hid hlen;have HCL:=hid (fun(i:Nat)(hi:i<l.length)(u:TM)(F:Option Addr)(C:Nat)(V:World)(hV:Below w.heap.size w V)(hu:Za V 0 w.heap.size u F C)=>(show Calls prog 77 #[.agg #[.int .i64 u.k,.int .i64 u.n,.slice F u.l.length C],.int .i64 i] V (Zn (Jy u i 0) V)from
  Zt3 u i 0 w.heap.size F C V hu hV.size (hS.kept hV)))
 have CG:=hid (fun(V:World)=>Zdw l.length (by have:=HLN.out;omega) V);unfold maxLen at hm;clear h hS hlen;go_enter func49,ntmps49;go_wp2_with fail;refine(CG.out _).mono ?_;rintro e w1 ⟨v0,rfl,ho0,hbx⟩;obtain⟨a0,cc0,rfl⟩:=Zl ho0;have HO0:=hid ho0;have HB0:=hid hbx;clear ho0 hbx CG;go_wp2_with fail;go_loopw [3,13] (Z01 l w) (fun _ iv _=>l.length - (intOf iv).toNat)
 case atStart=>exact⟨0,[],fun _=>False,Qm _,rfl,HB0.out,⟨HO0.out,fun _ h=>h.elim,fun _ h=>by cases h⟩,fun _ h=>h.elim,rfl,rfl⟩
 case round=>
  obtain⟨i,ps,P,hi1,rfl,hB,hrow,hP,hps,hpl⟩:=hrel;have hz:=hB.size;obtain⟨a1,c1,rfl⟩:=Zl hrow.row;have HPS:=hid hps;have HROW:=hid hrow;have HPP:=hid hP;have HPL:=hid hpl;have HBB:=hid hB;clear hrow hP hpl hps;by_cases hil:i<l.length
  ·obtain⟨bk,o,F,C,hA,hb1,hb2,hx,hnode⟩:=(HN.out i hil).kept hB Zag;subst hA;obtain⟨x0',x1',x2'⟩:=hx;have hi1':(i:Int)<(l.length:Int):=by omega
   have hi0':(0:Int)≤(i:Int):=by omega
   have hbw:bk<wr.heap.size:=by omega
   have hty:=Z0i hil;have hmt:=Zux l i;have HIL:=hid hil;obtain⟨u,hu⟩:∃u:TM,l[i]'hil=u:=⟨_,rfl⟩;rw[hu]at hnode x0' x1' x2' hty;have CF:=hid (fun V (hV:Below wr.heap.size wr V)=>HCL.out i hil u F C V (HBB.out.trans (hV.mono hz)) (hnode.kept hV (by omega)));obtain⟨x,c,hxc⟩:∃x c,Zno l i=(x,c):=⟨_,_,rfl⟩;rw[←hty,hxc]at CF;rw[hxc]at hmt;have HXC:=hid hxc;have HMT:=hid hmt;have HA0:=hid (show Below wr.heap.size wr (wr.alloc (.cells #[.int .i64 u.k,.int .i64 u.n,.slice F u.l.length C] 27))from(Qa _ _).alloc Zag _);unfold Zn Zc at CF;clear hty hmt hxc hu hnode hil;go_wp2_with fail;refine(CF.out _ HA0.out).mono ?_;rintro e wc ⟨A',cap',rfl,hnx,hbc⟩;have hbb:=Ze9 HA0 hbc;have HBX:=hid hbb;have HBWC:=hid (HBB.out.trans (hbb.mono hz));have HNX:=hid hnx;have hzc:=hbb.size;have hzu:wr.heap.size+1=(wr.alloc (.cells #[.int .i64 u.k,.int .i64 u.n,.slice F u.l.length C] 27)).heap.size:=by simp
   have HZU:=hid hzu;clear hbc hbb hnx CF x0' x1' x2' hzu;have hps9:ps.length≤8000:=by have:=HPS.out;have:=HLN.out;omega
   have R1:=((HROW.out.below HBX.out).alloc (.cells #[.int .i64 x.k,.int .i64 x.n,.slice A' x.l.length cap'] 27)).alloc (.cells #[.int .i64 x.k,.int .i64 x.n,.slice A' x.l.length cap'] 27);have HR1:=hid R1;have HOW:=hid R1.row;have hown0:=R1.row.lt;have HBW2:=hid ((HBWC.out.alloc HBWC.out.size (.cells #[.int .i64 x.k,.int .i64 x.n,.slice A' x.l.length cap'] 27)).alloc (HBWC.out.alloc HBWC.out.size (.cells #[.int .i64 x.k,.int .i64 x.n,.slice A' x.l.length cap'] 27)).size (.cells #[.int .i64 x.k,.int .i64 x.n,.slice A' x.l.length cap'] 27));clear R1;go_wp2_with (at_builtin;refine Jb rfl _ _ 23 rfl w.heap.size 27 i0 (.agg #[.int .i64 0,.int .i64 0,.slice none 0 0]) 3 40 Tryz.underlying23 hi0 hz0 hz1 hz2 rfl (by decide) _ _ _ rfl HOW.out (some ⟨wc.heap.size+1,0,none⟩) 1 1 (Zq (x,A',cap')) rfl (Zai _ _ _ (by simp) rfl) (Jx _) ?c3 ?c4 ?c5 ?_)
   case c3=>unfold maxLen;omega
   case c4=>omega
   case c5=>simp;omega
   rintro v2' w3 ⟨hown3,hg3,ho3⟩;have HRow:=hid (HR1.out.push (Pn:=fun b=>wr.heap.size≤b∧b<wc.heap.size) (p:=(x,A',cap')) (Zd.imp (fun b o hb=>(((Qa wc.heap.size wc).alloc Zag (.cells #[.int .i64 x.k,.int .i64 x.n,.slice A' x.l.length cap'] 27)).alloc (by simp) (.cells #[.int .i64 x.k,.int .i64 x.n,.slice A' x.l.length cap'] 27)).cell (p:=⟨b,o,none⟩) hb.2) (fun b hb=>⟨by have h1:=hb.1;have h2:=HZU.out;omega,hb.2⟩) HNX.out) (fun b hb=>⟨by have:=hb.2;simp;omega,fun e=>by
    have h1:=HROW.out.row.lt b e;omega⟩) hown3 hg3 ho3)
   have HB4:=hid (HBW2.out.grown hg3 (by have:=HBWC.out.size;simp;omega) (fun g e=>by have:=hown0 g e;omega));clear hown3 hg3 ho3 hown0;go_wp2_with fail;go_roundw
   case rel=>
    refine⟨i+1,ps++[(x,A',cap')],fun b=>P b∨(wr.heap.size≤b∧b<wc.heap.size),by have:=HIL.out;omega,by go_num,HB4.out,HRow.out, ?_,by have:=HPS.out;simp;omega, ?_⟩
    ·intro b hb;rcases hb with hb|hb
     ·exact HPP.out b hb
     ·omega
    ·rw[Qk,HPL.out,HMT.out];rfl
   case measure=>have:=HIL.out;simp[intOf];omega
  ·have HIN:=hid (show i=l.length by omega);have hge: ¬ (i:Int)<(l.length:Int):=by omega
   have HFULL:Hid (ps.map (·.1)=Zcx l l.length):=hid (by rw[HPL.out,HIN.out]);have hpar:=HROW.out.parent (lo:=0) (Qm _) (fun b hb=>Qm _) 0 0;rw[HFULL.out]at hpar;have HPAR:=hid hpar;clear hpar;go_wp2_with fail;go_ret;exact⟨a1,c1,by rw[HPS.out,Zhh,HIN.out];rfl,HPAR.out,HBB.out⟩
def Ztg (d:Int)(x:ET):List TM:=(Jq x.t).drop x.a.toNat++[Ziw d x.a.toNat x.i.toNat (x.a+x.i).toNat]
def Zqv (d:Int)(x:ET)(v:Int):TM×Int:=Zf0 3 (Ztg d x) (.node 2 v [])
theorem Zui (l:List ET)(A B:Option Addr)(cap bap hi g d:Nat)(v:Int)(hd:d<l.length)(w:World)(hr:J8 w hi g l A B cap bap)(hk:l[d].k=1)(hS:Zi w):
    Calls prog 45 #[.pointer (some ⟨g,0,none⟩),.int .i64 d,.int .i64 v] w (Zn (Zqv d l[d] v) w):=by
  have hf:=Zgw hr.fm hd hk;obtain⟨b,o,p,hA,q1,q2,hx,hent⟩:=hr.ents d hd;have hlen:=Zc7 hr.fm;subst hA;have hhl:=hr.hl;have HKT:=hid (fun V (hV:Below w.heap.size w V)=>(show V.cell? ⟨g,0,none⟩=some (.slice (some ⟨b,o,none⟩) l.length cap)∧V.cell? ⟨b,o+d*15+10,none⟩=some (.int .i64 l[d].a)from by
    have h1:=hr.below hV;have h2:=hx.kept hV (by omega);exact⟨h1.c0,h2.c10⟩))
  have CT:=hid (fun V (hV:Below w.heap.size w V)=>Zp4 l (some ⟨b,o,none⟩) B cap bap hi g d hd V (hr.below hV) hk (hS.kept hV));have hnt:=hf.nt;obtain⟨a,hae⟩:∃a:Nat,l[d].a=(a:Int):=⟨l[d].a.toNat,by have:=hf.a0;omega⟩;obtain⟨i,hie⟩:∃i:Nat,l[d].i=(i:Int):=⟨l[d].i.toNat,by have:=hf.i0;omega⟩;have hai:=hf.ai;obtain⟨n,hn⟩:∃n:Nat,n=a+i:=⟨_,rfl⟩;have hn24:n≤24:=by omega
  have hnt':(Jq l[d].t).length=n:=by rw[hnt,hae,hie];omega
  have CF:=hid (fun V (hV:Below w.heap.size w V)=>(show Calls prog 54 #[.pointer (some ⟨g,0,none⟩),.int .i64 d,.int .i64 (n:Int)] V (Zey (Ziw d l[d].a.toNat l[d].i.toNat n) V)from Zoe l (some ⟨b,o,none⟩) B cap bap hi g d n hd V (hr.below hV) hk (by rw[hae,hie];omega) (by omega)));have HLS:=hid (show Ztg d l[d]=(Jq l[d].t).drop a++[Ziw d l[d].a.toNat l[d].i.toNat n]from by unfold Ztg;rw[hae,hie];congr 2;rw[Int.toNat_natCast];congr 1;congr 1;omega);have HMX:=hid (show Zqv d l[d] v=Zf0 3 (Ztg d l[d]) (.node 2 v [])from rfl);obtain⟨u,hu⟩:∃u,Ziw d l[d].a.toNat l[d].i.toNat n=u:=⟨_,rfl⟩;obtain⟨ts,hts⟩:∃ts,Jq l[d].t=ts:=⟨_,rfl⟩;obtain⟨ls,hls⟩:∃ls,Ztg d l[d]=ls:=⟨_,rfl⟩;obtain⟨r,hre⟩:∃r,Zqv d l[d] v=r:=⟨_,rfl⟩;rw[hu]at CF HLS;rw[hts]at CT HLS hnt';rw[hls]at HLS HMX;rw[hre]at HMX⊢;rw[hae]at HKT;have HSS:=hid (fun V (hV:Below w.heap.size w V)=>hS.kept hV);have hbw:b<w.heap.size:=by omega
  have hgw:g<w.heap.size:=by have:=hr.gl;omega
  have hd0:(d:Int)<(l.length:Int):=by omega
  have hd1:(d:Int)≤256:=by omega
  clear hr hf hx hent hae hie hk q1 q2 hhl hS hu hts hls hre hnt;obtain⟨W,hW⟩:∃W,w.alloc (.cells #[.int .i64 0,.int .i64 0,.slice none 0 0] 27)=W:=⟨_,rfl⟩;have HBW:=hid (show Below w.heap.size w W from by rw[←hW];exact(Qa _ _).alloc Zag _);have HKW:=hid (show Bk W w.heap.size 27 #[.int .i64 0,.int .i64 0,.slice none 0 0]from by rw[←hW];exact Qg w _ _);have CS:=hid (fun(V:World)=>(Zvs v V).mono fun e w' h=>(show e= .returned (.agg #[.int .i64 2,.int .i64 v,.slice none 0 0])∧Below V.heap.size V w' from⟨h.1,by rw[h.2];exact(Qa _ _).alloc Zag _⟩));have CL:=hid (fun V (hV:Below w.heap.size w V) (L:Option Addr) (cL:Nat) (hl:Ze V 0 V.heap.size ls L cL)=>(show Calls prog 52 #[.func (.func 53) #[] #[],.slice L ls.length cL,.agg #[.int .i64 2,.int .i64 v,.slice none 0 0]] V (Zn r V)from by
    rw[HMX.out];exact Zi8 ls L cL (.node 2 v []) none 0 V hl (Zas _ _ 2 v) (HSS.out V hV)))
  have hll:ls.length=(n - a)+1:=by rw[HLS.out,Qh,Qi,hnt'];rfl
  obtain⟨rt,rc⟩:=r;unfold Zn Zc at CL;unfold Zey Zc at CF;go_enter func45,ntmps45;go_wp2_with fail;refine(CT.out _ HBW.out).mono ?_;rintro e w1 ⟨T1,c1,rfl,hv1,hb1⟩;have hl1:=hv1.bounds;rw[hnt']at hl1⊢;have HV1:=hid hv1;have HB1:=hid (Ze9 HBW hb1);have HK1:=hid (fun V (hV:Below w1.heap.size w1 V)=>(show Bk V w.heap.size 27 #[.int .i64 0,.int .i64 0,.slice none 0 0]from(HKW.out.below hb1 HKW.out.lt).below hV (by have:=HKW.out.lt;have:=hb1.size;omega)));have HK0:=hid (fun V (hV:Below w1.heap.size w1 V)=>HKT.out V (Ze9 HB1 hV));have CF1:=hid (fun V (hV:Below w1.heap.size w1 V)=>CF.out V (Ze9 HB1 hV));have CL1:=hid (fun V (hV:Below w1.heap.size w1 V)=>CL.out V (Ze9 HB1 hV));have hac:(a:Int)≤(c1:Int):=by omega
  have hac2:(n:Int)≤(c1:Int):=by omega
  have han:(a:Int)≤(n:Int):=by omega
  have han':a≤n:=by omega
  have hac':a≤c1:=by omega
  have HRS:=hid (Ze.rest (n:=a) HV1.out (by omega));have HLD:=hid (show(ts.drop a).length=n - a by rw[Qi,hnt']);obtain⟨A2,hA2⟩:∃A2,(if c1=a then T1 else T1.map (fun x=>x.add (a*3)))=A2:=⟨_,rfl⟩;rw[hA2]at HRS;have CC:=hid (fun(V:World)(g3 g4:Nat)(e3 e4:TypeId)(F:Option Addr)(cF:Nat)(hV:Below w1.heap.size w1 V)(hfam:Za V 0 V.heap.size u F cF)(hb3:Bk V g3 e3 #[.int .i64 u.k,.int .i64 u.n,.slice F u.l.length cF])(hb4:Bk V g4 e4 #[.slice A2 (n - a) (c1 - a),.slice (some ⟨g3,0,none⟩) 1 1])=>(show Calls prog 48 #[.slice (some ⟨g4,0,none⟩) 2 2] V (Zbj ls V)from by
    have hlt:Zc5 V V.heap.size g4 [(ts.drop a,A2,c1 - a),([u],some ⟨g3,0,none⟩,1)]:=Zc5.of (e:=e4) (by
      show Bk V g4 e4 #[.slice A2 (ts.drop a).length (c1 - a),.slice (some ⟨g3,0,none⟩) 1 1]
      rw[HLD.out];exact hb4) Zag (fun p hp=>by
        simp only[Ql,Qj,or_false]at hp;rcases hp with rfl|rfl
        · exact(HRS.out.kept hV Zag).wide Zag hV.size
        · exact Zm9 hfam hb3 ⟨Qm _,hb3.lt⟩ 0 0)
    have hfl:Jh [(ts.drop a,A2,c1 - a),([u],some ⟨g3,0,none⟩,1)]=ls:=by rw[HLS.out];unfold Jh;simp
    have:=Zhy _ V.heap.size g4 V hlt (by simp) (by rw[hfl,hll];omega);rw[hfl]at this;exact this.mono fun _ _ h=>h.gives))
  unfold Zbj at CC;rw[hll]at CC CL1;have hbk0:=hid (show Below w1.heap.size w1 w1.drew from(Qa _ _).drew);obtain⟨t0,t1⟩:=HK0.out _ (Qa _ _);have hgw1:g<w1.heap.size:=by have:=HB1.out.size;omega
  have hbw1:b<w1.heap.size:=by have:=HB1.out.size;omega
  have HWW:=hid (show w.heap.size<w1.heap.size from by have:=HKW.out.lt;have:=hb1.size;omega);clear hv1 hb1 CT hW HRS HLS HMX hai hl1 CF CL hll hn;by_cases hcq:c1=a
  all_goals
    first
    | (rw[if_pos hcq]at hA2
       subst hA2;have hcq2:=hcq.symm;clear hcq;subst hcq2;rw[Nat.sub_self]at CC)
    | (rw[if_neg hcq]at hA2
       subst hA2)
    go_wp2_with fail;go_region_held3 (fun w'=>w'.cell? ⟨g,0,none⟩=some (.slice (some ⟨b,o,none⟩) l.length cap)∧w'.cell? ⟨b,o+d*15+10,none⟩=some (.int .i64 (a:Int)))
      (first|exact HK0.out _ hbk0.out|exact HK0.out _ hbk.out|exact HK0.out _ (hbk.out.alloc hbk.out.size _)|exact HK0.out _ ((hbk.out.alloc hbk.out.size _).alloc (hbk.out.alloc hbk.out.size _).size _)|exact HK0.out _ hbC.out|exact HK0.out _ hbS.out|exact HK0.out _ hB5.out|exact HKT.out _ ((((Ze9 HB1 hB5.out).setCell Zag _).setCell Zag _).setCell Zag _))
      (first
      | (go_at_call 54
         refine(CF1.out _ hbk0.out).mono ?_;rintro e w3 ⟨F3,c3,rfl,hn3,hb3⟩;have hbk:Hid (Below w1.heap.size w1 w3):=hid (Ze9 hbk0 hb3);have HN3:=hid hn3;clear hb3 hn3)
      | (go_at_call 48
         refine(CC.out _ w3.heap.size (w3.heap.size+1) 27 23 F3 c3 (by exact(hbk.out.alloc hbk.out.size _).alloc (hbk.out.alloc hbk.out.size _).size _) (by exact(((HN3.out.kept ((Qa w3.heap.size w3).alloc Zag _) Zag).kept ((Qa _ _).alloc (by simp) _) Zag).wide Zag (by simp<;>omega))) (by exact(Qg w3 _ _).alloc _) (by exact Qf (w3.alloc _) _ _ (by simp))).mono ?_;rintro e w4 ⟨L4,c4,rfl,hn4,hb4⟩;have hbC:Hid (Below w1.heap.size w1 w4):=hid (((hbk.out.alloc hbk.out.size _).alloc (hbk.out.alloc hbk.out.size _).size _).trans (hb4.mono ((hbk.out.alloc hbk.out.size _).alloc (hbk.out.alloc hbk.out.size _).size _).size));have HN4:=hid hn4;clear hb4 hn4)
      | (go_at_call 74
         refine(CS.out _).mono ?_;rintro e w5 ⟨rfl,hb5⟩;have hbS:Hid (Below w1.heap.size w1 w5):=hid (Ze9 hbC hb5);have HN5:=hid ((HN4.out.kept hb5 Zag).wide Zag hb5.size);clear hb5)
      | (go_at_call 52
         refine(CL1.out _ hbS.out L4 c4 HN5.out).mono ?_;rintro e w6 ⟨A6,c6,rfl,hn6,hb6⟩;have hB5:Hid (Below w1.heap.size w1 w6):=hid (Ze9 hbS hb6);have HN6:=hid (show Za w6 w1.heap.size w6.heap.size rt A6 c6 from hn6.wide hbS.out.size Zag);have K5:=HK1.out _ hB5.out;have HK5:=hid K5;have hfz:∀o,w6.frozen? ⟨w.heap.size,o,none⟩=false:=fun o=>K5.cold o;have d0:w6.cell? ⟨w.heap.size,0,none⟩=some (.int .i64 0):=K5.cell 0;have d1:w6.cell? ⟨w.heap.size,1,none⟩=some (.int .i64 0):=K5.cell 1;have d2:w6.cell? ⟨w.heap.size,2,none⟩=some (.slice none 0 0):=K5.cell 2;clear K5 hb6 hn6))
    all_goals
      have B5:=((HK5.out.at_ 0 (.int .i64 rt.k)).at_ 1 (.int .i64 rt.n)).at_ 2 (.slice A6 rt.l.length c6);have HS0:=hid (B5.cell 0);have HS1:=hid (B5.cell 1);have HS2:=hid (B5.cell 2);have HBF:=hid (Ze9 HB1 hB5.out);clear B5;go_wp2_with fail;refine bodyPost_ret (v:= .tuple #[.agg #[.int .i64 rt.k,.int .i64 rt.n,.slice A6 rt.l.length c6],.int .i64 rc]) (by simp[results,results45,go_sem,HS0.out,HS1.out,HS2.out]) rfl ?_;exact Zbh HBF.out Zag HN6.out HWW.out
