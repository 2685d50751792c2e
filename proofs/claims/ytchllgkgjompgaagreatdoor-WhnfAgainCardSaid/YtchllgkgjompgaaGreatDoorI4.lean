import Derived.Test.YtchllgkgjompgaaGreatDoorI3
import Derived.Test.YtchllgkgjompgaaGreatDoorI2
import Derived.Test.YtchllgkgjompgaaGreatDoorM9
import Derived.Test.YtchllgkgjompgaaGreatDoorV2
import Derived.Test.YtchllgkgjompgaaGreatDoorR4
import Derived.Deep.RegionHeld3
import Derived.Deep.CutRange
namespace Go.Proofs.YtchllgkgjompgaaGreatDoor
open Go.RowKit
set_option linter.unusedVariables false
set_option maxRecDepth 100000
open Lib(hid)
open Go.Proofs.Tryz
theorem lrI4{n:Nat}:n≤n:=Nat.le_refl n
theorem trI4{a b c:World}(x:Hid (Below a.heap.size a b))(y:Below b.heap.size b c):Below a.heap.size a c:=x.out.trans (y.mono x.out.size)
def GivesTh (p:List TM×List TM×Int) (w:World) (e:Ending) (w':World):Prop:=
 ∃A c B d,e= .returned (.tuple #[.slice A p.1.length c,.slice B p.2.1.length d,.int .i64 p.2.2])∧IsTerms w' 0 w'.heap.size p.1 A c∧IsTerms w' 0 w'.heap.size p.2.1 B d∧Below w.heap.size w w'
def thrX (t:TM) (n:Nat) (pars ahead:List TM):List TM×List TM×Int:=
 if(manyX t (pars++ahead).reverse).2=0 then((splitX (manyX t (pars++ahead).reverse).1 n).1,(argsT (splitX (manyX t (pars++ahead).reverse).1 n).2.1).drop pars.length,0)else([],[],(manyX t (pars++ahead).reverse).2)
def ThrOk (t:TM) (n:Nat) (pars ahead:List TM):Prop:=
  (manyX t (pars++ahead).reverse).2=0→∃L u,splitX (manyX t (pars++ahead).reverse).1 n=(L,u,0)∧L.length=n∧shapedB u=true∧pars.length≤(argsT u).length
theorem thr_len {t:TM} {n:Nat} {pars ahead L D:List TM} (h:ThrOk t n pars ahead) (h2:thrX t n pars ahead=(L,D,0)):L.length=n:=by
 unfold thrX at h2;by_cases h0:(manyX t (pars++ahead).reverse).2=0
 ·obtain⟨L',u,e1,e2,_⟩:=h h0;rw[if_pos h0,e1]at h2;injection h2 with q1 _;rw[←q1];exact e2
 ·rw[if_neg h0]at h2;injection h2 with _ q2;injection q2 with _ q3;exact absurd q3 h0
set_option maxHeartbeats 8000000 in
theorem through_any (l:List ET) (A B:Option Addr) (cap bap hi g m i:Nat) (hm:m<l.length) (pars ahead:List TM) (Pa Ha:Option Addr) (pc hc:Nat) (w:World) (hr:RulesAt w hi g l A B cap bap) (hk:l[m].k=2)
    (hp:IsTerms w 0 w.heap.size pars Pa pc) (hh:IsTerms w 0 w.heap.size ahead Ha hc) (hlen:pars.length+ahead.length≤1000) (hi0:i<(partsAt l m).args.length) (hi2:i<(partsAt l m).recs.length) (hn24:(partsAt l m).recs[i].ar.length≤24)
    (hok:ThrOk (partsAt l m).args[i] (partsAt l m).recs[i].ar.length pars ahead) (hS:ShapesM w):
    Calls prog 172 #[.pointer (some ⟨g,0,none⟩),.int .i64 m,.int .i64 i,.slice Pa pars.length pc,.slice Ha ahead.length hc] w (GivesTh (thrX (partsAt l m).args[i] (partsAt l m).recs[i].ar.length pars ahead) w):=by
  have hlen2:=formed_len hr.fm;obtain⟨b,o,v0,v1,v2,hB,hbl,k0,k1,k2,F0,C0,G0,D0,H0,E0,rfl,rfl,rfl,ha, -,hrec,hrl, -⟩:=hr.con hm hk;subst hB;obtain⟨b1,o1,Ta,Tc,hF0, -,hb1l,hx1,ht1⟩:=ha.sub i hi0;subst hF0;obtain⟨b2,o2,u1,u2,hH0, -,hb2l,r0,r1,r2,F3,C3,G3,D3,rfl,rfl,hr1,hr2⟩:=hrec i hi2;subst hH0;have hhl:=hr.hl;have hb0:=ha.bounds.1;have hgl:=hr.gl;obtain⟨n3,hn3⟩:∃n,(partsAt l m).recs[i].ar.length=n:=⟨_,rfl⟩;obtain⟨n0,hn0⟩:∃n,(partsAt l m).args.length=n:=⟨_,rfl⟩;obtain⟨n2,hn2⟩:∃n,(partsAt l m).recs.length=n:=⟨_,rfl⟩;obtain⟨t,ht⟩:∃t,(partsAt l m).args[i]=t:=⟨_,rfl⟩;have HKT:=hid (fun V (hV:Below w.heap.size w V)=>(show(V.cell? ⟨g,1,none⟩=some (.slice (some ⟨b,o,none⟩) l.length bap)∧V.cell? ⟨b,o+m*3,none⟩=some (.slice (some ⟨b1,o1,none⟩) n0 C0)∧V.cell? ⟨b1,o1+i*3,none⟩=some (.int .i64 t.k)∧V.cell? ⟨b1,o1+i*3+1,none⟩=some (.int .i64 t.n)∧V.cell? ⟨b1,o1+i*3+2,none⟩=some (.slice Ta t.l.length Tc))∧V.cell? ⟨b,o+m*3+2,none⟩=some (.slice (some ⟨b2,o2,none⟩) n2 E0)∧V.cell? ⟨b2,o2+i*3+1,none⟩=some (.slice F3 n3 C3)from by
    have hV2:=hV.mono hhl;have h1:=(hr.below hV).c1;have h2:=hx1.kept hV2 hb1l;rw[ht]at h2;refine⟨⟨h1, ?_,h2.c0,h2.c1,h2.c2⟩, ?_, ?_⟩
    · rw[←hn0];exact(hV2.cell (p:=⟨b,_,none⟩) hbl).trans k0
    · rw[←hn2];exact(hV2.cell (p:=⟨b,_,none⟩) hbl).trans k2
    · rw[←hn3];exact(hV2.cell (p:=⟨b2,_,none⟩) hb2l).trans r1))
  rw[ht]at hok ht1⊢;rw[hn3]at hok hn24⊢;rw[hn0]at hi0 hb0;rw[hn2]at hi2 hrl;obtain⟨x,ec,hx⟩:∃x ec,manyX t (pars++ahead).reverse=(x,ec):=⟨_,_,rfl⟩;unfold ThrOk at hok;have HTX:=hid (show thrX t n3 pars ahead=if(manyX t (pars++ahead).reverse).2=0 then((splitX (manyX t (pars++ahead).reverse).1 n3).1,(argsT (splitX (manyX t (pars++ahead).reverse).1 n3).2.1).drop pars.length,0)else([],[],(manyX t (pars++ahead).reverse).2)from rfl);obtain⟨R,hR⟩:∃R,thrX t n3 pars ahead=R:=⟨_,rfl⟩;rw[hR,hx]at HTX;rw[hR];rw[hx]at hok;simp only at hok;have HOK:=hid hok;have CC:=hid (fun(V:World) (g4:Nat) (e4:TypeId) (hV:Below w.heap.size w V) (hb4:Bk V g4 e4 #[.slice Pa pars.length pc,.slice Ha ahead.length hc])=>(show Calls prog 145 #[.slice (some ⟨g4,0,none⟩) 2 2] V (GivesR (pars++ahead) V)from by
    have hlt:LsAt V V.heap.size g4 [(pars,Pa,pc),(ahead,Ha,hc)]:=LsAt.of (e:=e4) hb4 lrI4 (fun p hp'=>by
        simp only[List.mem_cons,List.not_mem_nil,or_false]at hp';rcases hp' with rfl|rfl
        · exact(hp.kept hV lrI4).wide lrI4 hV.size
        · exact(hh.kept hV lrI4).wide lrI4 hV.size)
    have hfl:flatL [(pars,Pa,pc),(ahead,Ha,hc)]=pars++ahead:=by unfold flatL;simp
    have:=concatM_any _ V.heap.size g4 V hlt (by simp) (by rw[hfl,List.length_append];omega);rw[hfl]at this;exact this.mono fun _ _ h=>h.gives))
  have CF:=hid (fun V (hV:Below w.heap.size w V) (L:Option Addr) (cL:Nat) (hL:IsTerms V 0 V.heap.size (pars++ahead) L cL)=>(show Calls prog 196 #[.agg #[.int .i64 t.k,.int .i64 t.n,.slice Ta t.l.length Tc],.slice L (pars++ahead).length cL] V (GivesT (x,ec) V)from by
    have:=fill_any t 0 hi Ta Tc (pars++ahead) L cL V (ht1.kept (hV.mono hhl) lrI4) (by have:=hV.size;omega) hL (by rw[List.length_append];omega) (hS.kept hV);rw[hx]at this;exact this))
  obtain⟨ls,hls⟩:∃ls,pars++ahead=ls:=⟨_,rfl⟩;rw[hls]at CC CF;have HSS:=hid (fun V (hV:Below w.heap.size w V)=>hS.kept hV);have HPP:=hid (show IsTerms w 0 w.heap.size pars Pa pc from hp);unfold GivesR at CC;unfold GivesT termV at CF;have hgw:g<w.heap.size:=by omega
  have hbw:b<w.heap.size:=by omega
  have hb1w:b1<w.heap.size:=by omega
  have hb2w:b2<w.heap.size:=by omega
  have hm0:(m:Int)<(l.length:Int):=by omega
  have hm1:(m:Int)≤256:=by omega
  have hi1:(i:Int)<(n0:Int):=by omega
  have hi3:(i:Int)<(n2:Int):=by omega
  have hi4:(0:Int)≤(i:Int):=by omega
  have hbk0:=hid (show Below w.heap.size w w.drew from(Below.refl _ _).drew);obtain⟨⟨t0,t1,t2,t3,t4⟩,t5,t6⟩:=HKT.out _ (Below.refl _ _);clear hr hk k0 k1 k2 ha hrec hx1 ht1 r0 r1 r2 hr1 hr2 hp hh hS hok hn0 hn2 hn3 ht hx hR hls hhl hb0 hrl;go_enter func172,ntmps172;go_upto_region 1 with fail
  go_cut [13,14]from 20 to 38 (fun s13 s14 wx=>∃gv Ax cx,s13= .pointer (some ⟨gv,0,none⟩)∧s14= .int .i64 ec∧TBox wx gv x.k x.n (.slice Ax x.l.length cx)∧Below w.heap.size w wx∧IsTerm wx 0 wx.heap.size x Ax cx)
  case first=>
    go_region_held3 (fun w'=>w'.cell? ⟨g,1,none⟩=some (.slice (some ⟨b,o,none⟩) l.length bap)∧w'.cell? ⟨b,o+m*3,none⟩=some (.slice (some ⟨b1,o1,none⟩) n0 C0)∧w'.cell? ⟨b1,o1+i*3,none⟩=some (.int .i64 t.k)∧w'.cell? ⟨b1,o1+i*3+1,none⟩=some (.int .i64 t.n)∧w'.cell? ⟨b1,o1+i*3+2,none⟩=some (.slice Ta t.l.length Tc))
      ((refine(HKT.out _ ?_).1;repeat (first|with_reducible exact hbF.out|with_reducible exact hbC.out|with_reducible exact hbk0.out|with_reducible exact Below.refl _ _|with_reducible refine Below.al ?_ _|with_reducible refine Below.dr ?_|with_reducible refine Below.st ?_ (by first|omega|(simp<;>omega)) _)))
      (first
      | (go_at_call 145
         refine(CC.out _ _ 23 (by repeat (first|with_reducible exact hbk0.out|with_reducible exact Below.refl _ _|with_reducible refine Below.al ?_ _|with_reducible refine Below.dr ?_|with_reducible refine Below.st ?_ (by first|omega|(simp<;>omega)) _)) (by first|exact(Bk.last _ _ _ (by simp))|exact((Bk.last _ _ _ (by simp)).alloc _))).mono ?_;rintro e w3 ⟨L3,c3,rfl,hl3,hb3⟩;have HL3:=hid hl3;have hbC:=hid (by first|exact trI4 hbk0 hb3|exact(hbk0.out.alloc hbk0.out.size _).trans (hb3.mono (hbk0.out.alloc hbk0.out.size _).size)|exact((hbk0.out.alloc hbk0.out.size _).alloc (hbk0.out.alloc hbk0.out.size _).size _).trans (hb3.mono ((hbk0.out.alloc hbk0.out.size _).alloc (hbk0.out.alloc hbk0.out.size _).size _).size));have hzC:=hbC.out.size
         first
         | (have hbz2:=hid (Bk.below hbz.out hb3 (by have:=hbz.out.lt;simp<;>omega));have hbz:=hbz2;clear hbz2)
         | (have hbz2:=hid (Bk.below (hbz.out.alloc _) hb3 (by have:=hbz.out.lt;simp<;>omega));have hbz:=hbz2;clear hbz2)
         | (have hbz:Hid (Bk w3 (w.heap.size) 25 #[.int .i64 0,.int .i64 0,.slice none 0 0]):=hid (Bk.below (show Bk _ (w.heap.size) 25 #[.int .i64 0,.int .i64 0,.slice none 0 0]from(Bk.last w.drew 25 #[.int .i64 0,.int .i64 0,.slice none 0 0] (by simp))) hb3 (by simp<;>omega)))
         | (have hbz:Hid (Bk w3 (w.heap.size) 25 #[.int .i64 0,.int .i64 0,.slice none 0 0]):=hid (Bk.below (show Bk _ (w.heap.size) 25 #[.int .i64 0,.int .i64 0,.slice none 0 0]from((Bk.last w.drew 25 #[.int .i64 0,.int .i64 0,.slice none 0 0] (by simp)).alloc _)) hb3 (by simp<;>omega)))
         | (have hbz:Hid (Bk w3 (w.heap.size+1) 25 #[.int .i64 0,.int .i64 0,.slice none 0 0]):=hid (Bk.below (show Bk _ (w.heap.size+1) 25 #[.int .i64 0,.int .i64 0,.slice none 0 0]from(Bk.last (w.drew.alloc _) 25 #[.int .i64 0,.int .i64 0,.slice none 0 0] (by simp))) hb3 (by simp<;>omega)))
         | skip
         first|have hlz:=hbz.out.lt|skip
         clear hb3 hl3)
      | (go_at_call 196
         refine(CF.out _ (by repeat (first|with_reducible exact hbC.out|with_reducible exact Below.refl _ _|with_reducible refine Below.al ?_ _|with_reducible refine Below.dr ?_|with_reducible refine Below.st ?_ (by first|omega|(simp<;>omega)) _)) L3 c3 (by first|exact HL3.out|exact(HL3.out.kept ((Below.refl w3.heap.size w3).alloc lrI4 _) lrI4).wide lrI4 (by simp))).mono ?_;rintro e w5 ⟨Ax,cx,rfl,hx5,hb5⟩;have hbF:=hid (by first|exact trI4 hbC hb5|exact(hbC.out.alloc hbC.out.size _).trans (hb5.mono (hbC.out.alloc hbC.out.size _).size));have hzF:=hbF.out.size
         first
         | (have hbz2:=hid (Bk.below hbz.out hb5 (by have:=hbz.out.lt;simp<;>omega));have hbz:=hbz2;clear hbz2)
         | (have hbz2:=hid (Bk.below (hbz.out.alloc _) hb5 (by have:=hbz.out.lt;simp<;>omega));have hbz:=hbz2;clear hbz2)
         | (have hbz:Hid (Bk w5 (w3.heap.size) 25 #[.int .i64 0,.int .i64 0,.slice none 0 0]):=hid (Bk.below (show Bk _ (w3.heap.size) 25 #[.int .i64 0,.int .i64 0,.slice none 0 0]from(Bk.last w3 25 #[.int .i64 0,.int .i64 0,.slice none 0 0] (by simp))) hb5 (by simp<;>omega)))
         | (have hbz:Hid (Bk w5 (w3.heap.size) 25 #[.int .i64 0,.int .i64 0,.slice none 0 0]):=hid (Bk.below (show Bk _ (w3.heap.size) 25 #[.int .i64 0,.int .i64 0,.slice none 0 0]from((Bk.last w3 25 #[.int .i64 0,.int .i64 0,.slice none 0 0] (by simp)).alloc _)) hb5 (by simp<;>omega)))
         | (have hbz:Hid (Bk w5 (w3.heap.size+1) 25 #[.int .i64 0,.int .i64 0,.slice none 0 0]):=hid (Bk.below (show Bk _ (w3.heap.size+1) 25 #[.int .i64 0,.int .i64 0,.slice none 0 0]from(Bk.last (w3.alloc _) 25 #[.int .i64 0,.int .i64 0,.slice none 0 0] (by simp))) hb5 (by simp<;>omega)))
         | skip
         have HX5:=hid hx5
         first
         | (have hfz:∀q,w5.frozen? ⟨_,q,none⟩=false:=fun q=>hbz.out.cold q
            have d0:=hbz.out.cell 0;have d1:=hbz.out.cell 1;have d2:=hbz.out.cell 2;simp at d0 d1 d2)
         | skip
         clear hb5 hx5))
    all_goals
      go_wp2_with fail;go_meet;case rel=>
        first
        | exact⟨_,Ax,cx,rfl,rfl,TBox.of (Bk.new w5 _ _),(by repeat (first|with_reducible exact hbF.out|with_reducible exact Below.refl _ _|with_reducible refine Below.al ?_ _|with_reducible refine Below.dr ?_|with_reducible refine Below.st ?_ (by first|omega|(simp<;>omega)) _)),TermIn.imp (fun b o hb=>((Below.refl w5.heap.size w5).alloc lrI4 _).cell (p:=⟨b,o,none⟩) hb.2) (fun b hb=>⟨Nat.zero_le _,by have:=hb.2;simp;omega⟩) HX5.out⟩
        | exact⟨_,Ax,cx,rfl,rfl,TBox.of (((hbz.out.at_ 0 (.int .i64 x.k)).at_ 1 (.int .i64 x.n)).at_ 2 (.slice Ax x.l.length cx)),(by repeat (first|with_reducible exact hbF.out|with_reducible exact Below.refl _ _|with_reducible refine Below.al ?_ _|with_reducible refine Below.dr ?_|with_reducible refine Below.st ?_ (by first|omega|(simp<;>omega)) _)),(TermIn.three HX5.out (fun b hb e=>by have h1:=hb.1;have h2:=hbz.out.lt;subst e;first|omega|(simp at h1;done)|(simp at h1;omega)) _ _ _).imp (fun _ _ _=>rfl) (fun b hb=>⟨Nat.zero_le _,by rw[size_three];exact hb.2⟩)⟩
  case rest=>
    obtain⟨wk,rfl⟩:∃wk:World,wk=wc:=⟨_,rfl⟩;obtain⟨gv,Ax,cx,rfl,rfl,htb,hbx,hnx⟩:=hcut;have HXB:=hid htb;have HBX:=hid hbx;have HNX:=hid hnx;clear htb hbx hnx t0 t1 t2 t3 t4 t5 t6 CC CF;by_cases h0:ec=0
    case neg=>
      have q0:(ec !=0)=true:=by simpa using h0
      have HRR:=hid (show([],[],ec)=R from by rw[HTX.out];exact(if_neg h0).symm);clear h0 HTX HOK;go_wp2_with fail;refine bodyPost_ret (v:= .tuple #[.slice none 0 0,.slice none 0 0,.int .i64 ec]) (by simp[results,results172,go_sem]) rfl ?_;rw[←HRR.out];exact⟨none,0,none,0,rfl,nil_terms _ _ _,nil_terms _ _ _,HBX.out⟩
    have q0:(ec !=0)=false:=by rw[h0];rfl
    obtain⟨L,u,hsp, -,hsu,hpa⟩:=HOK.out h0;have HRR:=hid (show(L,(argsT u).drop pars.length,0)=R from by rw[HTX.out,if_pos h0];simp only;rw[hsp]);have hkt:=(HKT.out _ HBX.out);have HK2:=hid (fun V (hV:Below wk.heap.size wk V)=>(show V.cell? ⟨g,1,none⟩=some (.slice (some ⟨b,o,none⟩) l.length bap)∧V.cell? ⟨b,o+m*3+2,none⟩=some (.slice (some ⟨b2,o2,none⟩) n2 E0)∧V.cell? ⟨b2,o2+i*3+1,none⟩=some (.slice F3 n3 C3)∧V.cell? ⟨gv,0,none⟩=some (.int .i64 x.k)∧V.cell? ⟨gv,1,none⟩=some (.int .i64 x.n)∧V.cell? ⟨gv,2,none⟩=some (.slice Ax x.l.length cx)from by
      have h1:=HKT.out V (trI4 HBX hV);obtain⟨y0,y1,y2,_⟩:=HXB.out.kept hV HXB.out.lt;exact⟨h1.1.1,h1.2.1,h1.2.2,y0,y1,y2⟩))
    have CSP:=hid (fun V (hV:Below wk.heap.size wk V)=>(show Calls prog 190 #[.agg #[.int .i64 x.k,.int .i64 x.n,.slice Ax x.l.length cx],.int .i64 (n3:Int)] V (GivesS (fun b=>V.heap.size≤b) (L,u,0) V)from by
      have:=split_any x Ax cx n3 V ((HNX.out.kept hV lrI4).wide lrI4 hV.size) (HSS.out V (trI4 HBX hV));rw[hsp]at this;exact this))
    have CHD:=hid (fun V (hV:Below wk.heap.size wk V) (D:Option Addr) (d:Nat) (hD:IsTerm V 0 V.heap.size u D d)=>(show Calls prog 78 #[.agg #[.int .i64 u.k,.int .i64 u.n,.slice D u.l.length d]] V (GivesSp u V)from
      spine_any u 0 V.heap.size D d V hD lrI4 (HSS.out V (trI4 HBX hV)) (shapedB_true.1 hsu).2.2 (shapedB_true.1 hsu).1 (by have:=(shapedB_true.1 hsu).2.1;omega)))
    unfold GivesS termV at CSP;simp only at CSP;have HPA:=hid hpa;have hgc:g<wk.heap.size:=by have:=HBX.out.size;omega
    have hbc:b<wk.heap.size:=by have:=HBX.out.size;omega
    have hb2c:b2<wk.heap.size:=by have:=HBX.out.size;omega
    have hgvc:=HXB.out.lt;have hbk1:=hid (show Below wk.heap.size wk wk.drew from(Below.refl _ _).drew);obtain⟨s0,s1,s2,s3,s4,s5⟩:=HK2.out _ (Below.refl _ _);clear HTX HOK hsp hsu hpa hkt h0;go_wp2_with fail;go_upto_region 4 with fail
    go_cut [15,16,17]from 42 to 60 (fun s15 s16 s17 wy=>∃gy AL cL Ay cy,s15= .slice AL L.length cL∧s16= .pointer (some ⟨gy,0,none⟩)∧s17= .int .i64 0∧TBox wy gy u.k u.n (.slice Ay u.l.length cy)∧Below wk.heap.size wk wy∧IsTerms wy 0 wy.heap.size L AL cL∧IsTerm wy 0 wy.heap.size u Ay cy)
    case first=>
      go_region_held3 (fun w'=>w'.cell? ⟨g,1,none⟩=some (.slice (some ⟨b,o,none⟩) l.length bap)∧w'.cell? ⟨b,o+m*3+2,none⟩=some (.slice (some ⟨b2,o2,none⟩) n2 E0)∧w'.cell? ⟨b2,o2+i*3+1,none⟩=some (.slice F3 n3 C3)∧w'.cell? ⟨gv,0,none⟩=some (.int .i64 x.k)∧w'.cell? ⟨gv,1,none⟩=some (.int .i64 x.n)∧w'.cell? ⟨gv,2,none⟩=some (.slice Ax x.l.length cx))
        ((refine(HK2.out _ ?_);repeat (first|with_reducible exact hbF.out|with_reducible exact hbk1.out|with_reducible exact Below.refl _ _|with_reducible refine Below.al ?_ _|with_reducible refine Below.dr ?_|with_reducible refine Below.st ?_ (by first|omega|(simp<;>omega)) _)))
        (first
        | (go_at_call 190
           refine(CSP.out _ (by repeat (first|with_reducible exact hbk1.out|with_reducible exact Below.refl _ _|with_reducible refine Below.al ?_ _|with_reducible refine Below.dr ?_|with_reducible refine Below.st ?_ (by first|omega|(simp<;>omega)) _))).mono ?_;rintro e w5 ⟨AL,cL,Ay,cy,rfl,hl5,hy5,hb5⟩;have hbF:=hid (by first|exact trI4 hbk1 hb5|exact(hbk1.out.alloc hbk1.out.size _).trans (hb5.mono (hbk1.out.alloc hbk1.out.size _).size));have hzF:=hbF.out.size
           first
           | (have hbz2:=hid (Bk.below hbz.out hb5 (by have:=hbz.out.lt;simp<;>omega));have hbz:=hbz2;clear hbz2)
           | (have hbz:Hid (Bk w5 (wk.heap.size) 25 #[.int .i64 0,.int .i64 0,.slice none 0 0]):=hid (Bk.below (show Bk _ (wk.heap.size) 25 #[.int .i64 0,.int .i64 0,.slice none 0 0]from(Bk.last wk.drew 25 #[.int .i64 0,.int .i64 0,.slice none 0 0] (by simp))) hb5 (by simp<;>omega)))
           | skip
           have HL5:=hid hl5;have HY5:=hid hy5
           first
           | (have hfz:∀q,w5.frozen? ⟨_,q,none⟩=false:=fun q=>hbz.out.cold q
              have d0:=hbz.out.cell 0;have d1:=hbz.out.cell 1;have d2:=hbz.out.cell 2;simp at d0 d1 d2)
           | skip
           clear hb5 hl5 hy5))
      all_goals
        go_wp2_with fail;go_meet;case rel=>
          first
          | exact⟨_,AL,cL,Ay,cy,rfl,rfl,rfl,TBox.of (Bk.new w5 _ _),(by repeat (first|with_reducible exact hbF.out|with_reducible exact Below.refl _ _|with_reducible refine Below.al ?_ _|with_reducible refine Below.dr ?_|with_reducible refine Below.st ?_ (by first|omega|(simp<;>omega)) _)),TermIn.imp (fun b o hb=>((Below.refl w5.heap.size w5).alloc lrI4 _).cell (p:=⟨b,o,none⟩) hb.2) (fun b hb=>⟨Nat.zero_le _,by have:=hb.2;simp;omega⟩) HL5.out,TermIn.imp (fun b o hb=>((Below.refl w5.heap.size w5).alloc lrI4 _).cell (p:=⟨b,o,none⟩) hb.2) (fun b hb=>⟨Nat.zero_le _,by have:=hb.2;simp;omega⟩) HY5.out⟩
          | exact⟨_,AL,cL,Ay,cy,rfl,rfl,rfl,TBox.of (((hbz.out.at_ 0 (.int .i64 u.k)).at_ 1 (.int .i64 u.n)).at_ 2 (.slice Ay u.l.length cy)),(by repeat (first|with_reducible exact hbF.out|with_reducible exact Below.refl _ _|with_reducible refine Below.al ?_ _|with_reducible refine Below.dr ?_|with_reducible refine Below.st ?_ (by first|omega|(simp<;>omega)) _)),(TermIn.three HL5.out (fun b hb e=>by have h1:=hb.1;have h2:=hbz.out.lt;subst e;first|omega|(simp at h1;done)|(simp at h1;omega)) _ _ _).imp (fun _ _ _=>rfl) (fun b hb=>⟨Nat.zero_le _,by rw[size_three];exact hb.2⟩),(TermIn.three HY5.out (fun b hb e=>by have h1:=hb.1;have h2:=hbz.out.lt;subst e;first|omega|(simp at h1;done)|(simp at h1;omega)) _ _ _).imp (fun _ _ _=>rfl) (fun b hb=>⟨Nat.zero_le _,by rw[size_three];exact hb.2⟩)⟩
    case rest=>
      obtain⟨gy,AL,cL,Ay,cy,rfl,rfl,rfl,hty,hby,hnl,hny⟩:=hcut;have CHD1:=hid (CHD.out wc hby Ay cy hny);obtain⟨y0,y1,y2,hlty⟩:=hty;have HBY:=hid (trI4 HBX hby);have HNL:=hid hnl;obtain⟨as_,has⟩:∃as_,argsT u=as_:=⟨_,rfl⟩;unfold GivesSp termV at CHD1;rw[has]at CHD1 HPA HRR;obtain⟨hd,hhd⟩:∃hd,headT u=hd:=⟨_,rfl⟩;rw[hhd]at CHD1;clear hby hnl hny has hhd CSP HK2 hbk1 s0 s1 s2 s3 s4 s5 CHD;go_wp2_with fail;refine CHD1.out.mono ?_;rintro e w7 ⟨Ah,ch,Ar,cr,rfl, -,har,hb7⟩;have HB7:=hid (trI4 HBY hb7);have hrb:=har.bounds;have HAR:=hid (IsTerms.rest har HPA.out);have HL7:=hid ((HNL.out.kept hb7 lrI4).wide lrI4 hb7.size);have hpl0:(pars.length:Int)≤(as_.length:Int):=by have:=HPA.out;omega
      have hpl1:(pars.length:Int)≤(cr:Int):=by omega
      have HLEN:=hid (show as_.length - pars.length=(as_.drop pars.length).length by rw[List.length_drop]);obtain⟨A2,hA2⟩:∃A2,(if cr=pars.length then Ar else Ar.map (fun x=>x.add (pars.length*3)))=A2:=⟨_,rfl⟩;rw[hA2]at HAR;have HBF:=hid (HB7.out.alloc HB7.out.size (.cells #[.int .i64 hd.k,.int .i64 hd.n,.slice Ah hd.l.length ch] 25));have HFIN:=hid (show ∃A c B d,Value.tuple #[.slice AL L.length cL,.slice A2 (as_.length - pars.length) (cr - pars.length),.int .i64 0]=Value.tuple #[.slice A R.1.length c,.slice B R.2.1.length d,.int .i64 R.2.2]∧IsTerms (w7.alloc (.cells #[.int .i64 hd.k,.int .i64 hd.n,.slice Ah hd.l.length ch] 25)) 0 (w7.alloc (.cells #[.int .i64 hd.k,.int .i64 hd.n,.slice Ah hd.l.length ch] 25)).heap.size R.1 A c∧IsTerms (w7.alloc (.cells #[.int .i64 hd.k,.int .i64 hd.n,.slice Ah hd.l.length ch] 25)) 0 (w7.alloc (.cells #[.int .i64 hd.k,.int .i64 hd.n,.slice Ah hd.l.length ch] 25)).heap.size R.2.1 B d from by
        rw[←HRR.out];refine⟨AL,cL,A2,cr - pars.length,by simp only;rw[HLEN.out],(HL7.out.alloc lrI4 _).wide lrI4 (by simp),(HAR.out.alloc lrI4 _).wide lrI4 (by simp)⟩)
      clear har hb7 hrb HAR HL7 HRR HLEN CHD1 y0 y1 y2;by_cases hcq:cr=pars.length
      all_goals
        first
        | (rw[if_pos hcq]at hA2
           subst hA2)
        | (rw[if_neg hcq]at hA2
           subst hA2)
        go_wp2_with fail;go_region_held3 (fun _=>True) (exact trivial) (first|fail)
        go_wp2_with fail;obtain⟨A,c,B,d,h1,h2,h3⟩:=HFIN.out;refine bodyPost_ret (by simp[results,results172,go_sem];rfl) rfl ?_
        first
        | exact⟨A,c,B,d,congrArg Ending.returned h1,h2.kept ((Below.refl _ _).drew) lrI4,h3.kept ((Below.refl _ _).drew) lrI4,HBF.out.drew⟩
        | exact⟨A,c,B,d,congrArg Ending.returned (by rw[←h1];simp[hcq]),h2.kept ((Below.refl _ _).drew) lrI4,h3.kept ((Below.refl _ _).drew) lrI4,HBF.out.drew⟩
end Go.Proofs.YtchllgkgjompgaaGreatDoor
