import Derived.Test.YtinlmmaokphhbaaGreatDoorIoRcr
import Derived.Test.YtinlmmaokphhbaaGreatDoorI3
import Derived.Test.YtinlmmaokphhbaaGreatDoorS4
import Derived.Deep.RegionHeld3
import Derived.Deep.CutRange
namespace Go.Proofs.YtinlmmaokphhbaaGreatDoor
open Go.RowKit
set_option linter.unusedVariables false
set_option maxRecDepth 100000
open Lib(hid)
open Go.Proofs.Tryz
open Bk renaming below→Qa,last→Qb
open Go.Proofs.YtinlmmaokphhbaaGreatDoor.Below renaming dr→Qc,al→Qd,st→Qe
open Go.RowKit.Below renaming refl→Qf
open _root_.List renaming not_mem_nil→Qg,mem_cons→Qh,getElem?_eq_getElem→Qi
open _root_.Nat renaming zero_le→Qj
theorem Zp{n:Nat}:n≤n:=Nat.le_refl n
theorem Jr{a b c:World}(x:Hid (Below a.heap.size a b))(y:Below b.heap.size b c):Below a.heap.size a c:=x.out.trans (y.mono x.out.size)
def mA (l:List ET)(m:Nat):Nat:=((l[m]?.map (fun x:ET=>x.a)).getD 0).toNat
def mK (l:List ET)(m:Nat):Nat:=(Zj l m).args.length
def Zl1 (l:List ET)(m:Nat):List TM:=Z7 (mA l m+1+mK l m)
def Zqu (l:List ET)(m:Nat):TM:=(Zl1 l m).getD (mA l m) (.node 0 0 [])
def Zeu (l:List ET)(m:Nat):List TM:=(Zl1 l m).drop (mA l m+1)
def Zdb (l:List ET)(m:Nat):List TM:=(Zl1 l m).take (mA l m)
def mAg (l:List ET)(m:Nat):List TM:=Zga 3 (Zj l m) (Zdb l m) (Zeu l m) [Zqu l m] (Zj l m).recs.length
def Zf2 (l:List ET)(m:Nat):List TM:=Zhj (Zj l m).args 1 0 (mK l m)
def Zhz (l:List ET)(m:Nat):List TM:=Zev 1 (mK l m) (Zj l m).inds
def mIn (l:List ET)(m:Nat):TM:=Zac (.node 6 m []) (Zdb l m++Zeu l m)
def Zte (l:List ET)(m:Nat):TM:=Zac (Zqu l m) (Zhz l m++[mIn l m])
def Zl3 (l:List ET)(m:Nat):TM×Int:=Zf0 3 (Zf2 l m++Zcx (mAg l m) (mAg l m).length) (Jy (Zte l m) (mAg l m).length 0).1
structure Zpm (l:List ET) (m:Nat):Prop where
 la:(Zj l m).recs.length=mK l m
 a9:mA l m+1+mK l m≤50
 li:(Zj l m).inds.length≤100
 r24:∀i (h:i<(Zj l m).recs.length),(Zj l m).recs[i].ar.length≤24
 thr:∀i (h:i<(Zj l m).recs.length) (h2:i<(Zj l m).args.length),(Zj l m).recs[i].is=true→Zlf (Zj l m).args[i] (Zj l m).recs[i].ar.length (Zdb l m) ((Zeu l m).take i)
 ok:Zh0 3 (Zj l m) (Zdb l m) (Zeu l m) [Zqu l m] (Zj l m).recs.length
 tl:Zhv (Zj l m).args 1 0 (mK l m)
 il:Zf8 1 (mK l m) (Zj l m).inds=0
 up:(Jy (Zte l m) (mAg l m).length 0).2=0
theorem Z12 (l:List ET)(m:Nat):(Zeu l m).length=mK l m:=by unfold Zeu Zl1;rw[List.length_drop,Zar];omega
theorem Zy9 (l:List ET)(m:Nat):(Zdb l m).length=mA l m:=by unfold Zdb Zl1;rw[List.length_take,Zar];omega
theorem slc {A A':Option Addr}{n n' c c':Nat}(h1:A=A')(h2:n=n')(h3:c=c'):Value.slice A n c=Value.slice A' n' c':=by rw[h1,h2,h3]
theorem Z8c:Z3a 3 (.func (.func 53) #[] #[]):=fun l L capL t A cap w hl ht hS=>Zi8 l L capL t A cap w hl ht hS
set_option maxHeartbeats 16000000 in
theorem Zw6 (l:List ET)(A B:Option Addr)(cap bap hi g m:Nat)(hm:m<l.length)(w:World)(hr:J8 w hi g l A B cap bap)(hk:l[m].k=2)(hok:Zpm l m)(hS:Zi w):
    Calls prog 46 #[.pointer (some ⟨g,0,none⟩),.int .i64 m] w (Zn (Zl3 l m) w):=by
  have hlen:=Zc7 hr.fm;have hhl:=hr.hl;have hgl:=hr.gl;have HRR:=hid (fun V (hV:Below w.heap.size w V)=>hr.below hV);have HSS:=hid (fun V (hV:Below w.heap.size w V)=>hS.kept hV);obtain⟨d,hd,hcf⟩:=Zq6 hr.fm hm hk;obtain⟨b0,o0,p,hA, -,hb0,hx, -⟩:=hr.ents m hm;obtain⟨b,o,v0,v1,v2,hB,hbl,k0,k1,k2,hcv⟩:=hr.con hm hk;subst hA;subst hB;obtain⟨a,hae⟩:∃a:Nat,l[m].a=(a:Int):=⟨l[m].a.toNat,by have:=hcf.a;have:=hcf.a0;omega⟩;have hmA:mA l m=a:=by unfold mA;rw[Qi hm];simp[hae]
  have HKT:=hid (fun V (hV:Below w.heap.size w V)=>(show V.cell? ⟨g,0,none⟩=some (.slice (some ⟨b0,o0,none⟩) l.length cap)∧V.cell? ⟨b0,o0+m*15+10,none⟩=some (.int .i64 (a:Int))∧V.cell? ⟨g,1,none⟩=some (.slice (some ⟨b,o,none⟩) l.length bap)∧V.cell? ⟨b,o+m*3,none⟩=some v0∧V.cell? ⟨b,o+m*3+1,none⟩=some v1∧V.cell? ⟨b,o+m*3+2,none⟩=some v2 from by
    have hV2:=hV.mono hhl;have h1:=hr.below hV;have h2:=hx.kept hV2 hb0;refine⟨h1.c0, ?_,h1.c1,(hV2.cell (p:=⟨b,_,none⟩) hbl).trans k0,(hV2.cell (p:=⟨b,_,none⟩) hbl).trans k1,(hV2.cell (p:=⟨b,_,none⟩) hbl).trans k2⟩;rw[←hae];exact h2.c10))
  obtain⟨F0,C0,G0,D0,H0,E0,hv0,hv1,hv2,hta,hti, -, -, -⟩:=hcv;subst hv0;subst hv1;subst hv2;have HTA:=hid (fun V (hV:Below w.heap.size w V)=>(show Ze V 0 V.heap.size (Zj l m).args F0 C0 from(hta.kept (hV.mono hhl) Zp).wide Zp (by have:=hV.size;omega)));have HTI:=hid (fun V (hV:Below w.heap.size w V)=>(show Ze V 0 V.heap.size (Zj l m).inds G0 D0 from(hti.kept (hV.mono hhl) Zp).wide Zp (by have:=hV.size;omega)));have HMO:=hid hok;have h50:=hok.a9;rw[hmA]at h50;obtain⟨k,hkk⟩:∃k,mK l m=k:=⟨_,rfl⟩;rw[hkk]at h50;have hargl:(Zj l m).args.length=k:=hkk;rw[hargl]at HKT;obtain⟨vs,hvs⟩:∃vs,Zl1 l m=vs:=⟨_,rfl⟩;have hvs2:Z7 (a+1+k)=vs:=by rw[←hvs];unfold Zl1;rw[hmA,hkk]
  have hvl:vs.length=a+1+k:=by rw[←hvs2,Zar]
  have hav:a<vs.length:=by omega
  obtain⟨mot,hmot⟩:∃t,vs[a]=t:=⟨_,rfl⟩;have HMOT:=hid (show Zqu l m=mot from by unfold Zqu;rw[hvs,hmA,List.getD_eq_getElem?_getD,Qi hav];exact hmot);have HMM:=hid (show vs[a]=mot from hmot);have HOWN:=hid (show Zeu l m=vs.drop (a+1)from by unfold Zeu;rw[hvs,hmA]);have HPARS:=hid (show Zdb l m=vs.take a from by unfold Zdb;rw[hvs,hmA]);have CV:=hid (fun(V:World)=>(show Calls prog 50 #[.int .i64 ((a:Int)+1+(k:Int))] V (Zbj vs V)from by
    have:=Zme (a+1+k) (by omega) V;rw[hvs2,show((a+1+k:Nat):Int)=(a:Int)+1+(k:Int)by omega]at this;exact this))
  have wr1:IntKind.i64.wrap ((a:Int)+1)=(a:Int)+1:=IntWalk.i64_in _ (by omega);have wr2:IntKind.i64.wrap ((a:Int)+1+(k:Int))=(a:Int)+1+(k:Int):=IntWalk.i64_in _ (by omega);have hm0:(m:Int)<(l.length:Int):=by omega
  have hm1:(m:Int)≤256:=by omega
  have hgw:g<w.heap.size:=by omega
  have hbw:b<w.heap.size:=by omega
  have hb0w:b0<w.heap.size:=by omega
  obtain⟨R,hR⟩:∃R,Zl3 l m=R:=⟨_,rfl⟩;have HRX:=hid hR;rw[hR];have HMA:=hid hmA;have HKK:=hid hkk;have HVL:=hid hvl;have HHH:=hid hhl;obtain⟨W,hW⟩:∃W,w.alloc (.cells #[.int .i64 0,.int .i64 0,.slice none 0 0] 27)=W:=⟨_,rfl⟩;have HBW:=hid (show Below w.heap.size w W from by rw[←hW];exact(Qf _ _).alloc Zp _);have HKW:=hid (show Bk W w.heap.size 27 #[.int .i64 0,.int .i64 0,.slice none 0 0]from by rw[←hW];exact Bk.new w _ _);have HKW1:=hid (fun V (hV:Below W.heap.size W V)=>HKT.out V (Jr HBW hV));have hbk0:=hid (show Below W.heap.size W W.drew from(Qf _ _).drew);obtain⟨t0,t1,t2,t3,t4,t5⟩:=HKW1.out _ (Qf _ _);have hgW:g<W.heap.size:=by have:=HBW.out.size;omega
  have hbW:b<W.heap.size:=by have:=HBW.out.size;omega
  have hb0W:b0<W.heap.size:=by have:=HBW.out.size;omega
  clear hr hS hcf hx k0 k1 k2 hta hti hok hmA hkk hargl hvs hvs2 hvl hmot hR hhl hae;go_enter func46,ntmps46;go_wp2_with fail;go_upto_region 1 with fail
  go_cut [6,7]from 18 to 32 (fun s6 s7 wx=>∃gc,s6= .int .i64 (a:Int)∧s7= .pointer (some ⟨gc,0,none⟩)∧Bk wx gc 83 #[.slice F0 k C0,.slice G0 (Zj l m).inds.length D0,.slice H0 (Zj l m).recs.length E0]∧Below W.heap.size W wx)
  case first=>
    go_region_held3 (fun w'=>w'.cell? ⟨g,0,none⟩=some (.slice (some ⟨b0,o0,none⟩) l.length cap)∧w'.cell? ⟨b0,o0+m*15+10,none⟩=some (.int .i64 (a:Int))∧w'.cell? ⟨g,1,none⟩=some (.slice (some ⟨b,o,none⟩) l.length bap)∧w'.cell? ⟨b,o+m*3,none⟩=some (.slice F0 k C0)∧w'.cell? ⟨b,o+m*3+1,none⟩=some (.slice G0 (Zj l m).inds.length D0)∧w'.cell? ⟨b,o+m*3+2,none⟩=some (.slice H0 (Zj l m).recs.length E0))
      ((refine(HKW1.out _ ?_);repeat (first|with_reducible exact hbk0.out|with_reducible exact Qf _ _|with_reducible refine Qd ?_ _|with_reducible refine Qc ?_|with_reducible refine Qe ?_ (by first|omega|(simp<;>omega)) _)))
      (first|fail)
    all_goals
      go_wp2_with fail;go_meet;case rel=>exact⟨_,rfl,rfl,Qb _ _ _ (by simp),(by repeat (first|with_reducible exact hbk0.out|with_reducible exact Qf _ _|with_reducible refine Qd ?_ _|with_reducible refine Qc ?_|with_reducible refine Qe ?_ (by first|omega|(simp<;>omega)) _))⟩
  case rest=>
    obtain⟨wa,rfl⟩:∃wa:World,wa=wc:=⟨_,rfl⟩;obtain⟨gc,rfl,rfl,hbc,hba⟩:=hcut;have HBA:=hid (Jr HBW hba);have HZ:=hid (HKW.out.below hba HKW.out.lt);have HBC:=hid hbc;have hcl:=hbc.lt;have c0:wa.cell? ⟨gc,0,none⟩=some (.slice F0 k C0):=hbc.cell 0;clear hba hbc hbk0 t0 t1 t2 t3 t4 t5 HKW1;go_wp2_with fail;refine(CV.out _).mono ?_;rintro e wv ⟨Av,cv,rfl,hv,hbv⟩;have HBV:=hid (Jr HBA hbv);have HZV:=hid (HZ.out.below hbv HZ.out.lt);have HCV:=hid (HBC.out.below hbv HBC.out.lt);have hvb:=hv.bounds.1;rw[HVL.out]at hvb⊢;obtain⟨bv,ov,Ma,Mc,hAv, -,hbvl,hxm,hmt⟩:=hv.sub a hav;subst hAv;rw[HMM.out]at hxm hmt;have HTV:=hid hv;have HXM:=hid hxm;have HMT:=hid hmt;have hac:(a:Int)≤(cv:Int):=by omega
    have hac2:((a:Int)+1)≤(cv:Int):=by omega
    have hav1:(a:Int)<((a+1+k:Nat):Int):=by omega
    have hav2:(a:Int)+1≤((a+1+k:Nat):Int):=by omega
    have hav3:(a:Int)≤((a+1+k:Nat):Int):=by omega
    have hav4:(0:Int)≤(a:Int):=by omega
    have hav5:(0:Int)≤(a:Int)+1:=by omega
    obtain⟨nv,hnv⟩:∃nv,a+1+k=nv:=⟨_,rfl⟩;rw[hnv]at hvb hav1 hav2 hav3⊢;have hav8:(a+1)≤nv:=by omega
    have hav9:(a+1)≤cv:=by omega
    have hkn:nv - (a+1)=k:=by omega
    have HRS:=hid (Ze.rest (n:=(a+1)) HTV.out (by rw[HVL.out];omega));have HOW2:=hid (show Zeu l m=vs.drop (a+1)from by rw[HOWN.out]);obtain⟨A10,hA10⟩:∃A2,(if cv=(a+1)then(some ⟨bv,ov,none⟩:Option Addr)else(some ⟨bv,ov,none⟩:Option Addr).map (fun x=>x.add ((a+1)*3)))=A2:=⟨_,rfl⟩;rw[hA10]at HRS;have HK3:=hid (fun V (hV:Below wv.heap.size wv V)=>(show V.cell? ⟨bv,ov+a*3,none⟩=some (.int .i64 mot.k)∧V.cell? ⟨bv,ov+a*3+1,none⟩=some (.int .i64 mot.n)∧V.cell? ⟨bv,ov+a*3+2,none⟩=some (.slice Ma mot.l.length Mc)from by
      obtain⟨z0,z1,z2⟩:=HXM.out.kept hV hbvl;exact⟨z0,z1,z2⟩))
    have hbk0:=hid (show Below wv.heap.size wv wv.drew from(Qf _ _).drew);obtain⟨s0,s1,s2⟩:=HK3.out _ (Qf _ _);clear hbv hv hxm hmt c0 hnv;go_wp2_with fail;go_upto_region 3 with fail
    go_cut [9,10]from 40 to 47 (fun s9 s10 wx=>∃gm,s9= .pointer (some ⟨gm,0,none⟩)∧s10= .slice A10 k (cv - (a+1))∧Z8 wx gm mot.k mot.n (.slice Ma mot.l.length Mc)∧Below wv.heap.size wv wx)
    case first=>
      by_cases hcq:cv=(a+1)
      all_goals
        first
        | (rw[if_pos hcq]at hA10
           subst hA10;have hcq2:=hcq.symm;have hcq3:(cv:Int)≤(nv:Int):=by omega
           have hcq4:cv≤nv:=by omega
           clear hcq)
        | (rw[if_neg hcq]at hA10
           subst hA10)
        go_region_held3 (fun w'=>w'.cell? ⟨bv,ov+a*3,none⟩=some (.int .i64 mot.k)∧w'.cell? ⟨bv,ov+a*3+1,none⟩=some (.int .i64 mot.n)∧w'.cell? ⟨bv,ov+a*3+2,none⟩=some (.slice Ma mot.l.length Mc))
          ((refine(HK3.out _ ?_);repeat (first|with_reducible exact hbk0.out|with_reducible exact Qf _ _|with_reducible refine Qd ?_ _|with_reducible refine Qc ?_|with_reducible refine Qe ?_ (by first|omega|(simp<;>omega)) _)))
          (first|fail)
        all_goals
          go_wp2_with fail;go_meet;case rel=>exact⟨_,rfl,slc (by first|rfl|(rw[Option.map_some,Addr.add_lit])) (by omega) (by omega),Z8.of (Qb _ _ _ (by simp)),(by repeat (first|with_reducible exact hbk0.out|with_reducible exact Qf _ _|with_reducible refine Qd ?_ _|with_reducible refine Qc ?_|with_reducible refine Qe ?_ (by first|omega|(simp<;>omega)) _))⟩
    case rest=>
      obtain⟨wb,rfl⟩:∃wb:World,wb=wc:=⟨_,rfl⟩;obtain⟨gm,rfl,rfl,htm,hbb⟩:=hcut;have HBB:=hid (Jr HBV hbb);have HZB:=hid (HZV.out.below hbb HZV.out.lt);have HCB:=hid (HCV.out.below hbb HCV.out.lt);have HTM:=hid htm;have hgml:=htm.lt;have hzb:=hbb.size;have HLV:=hid (fun V (hV:Below wb.heap.size wb V)=>(show Ze V 0 wb.heap.size vs (some ⟨bv,ov,none⟩) cv from((HTV.out.kept (hbb.trans (hV.mono hbb.size)) Zp).wide Zp hbb.size)));have HLO:=hid (fun V (hV:Below wb.heap.size wb V)=>(show Ze V 0 wb.heap.size (Zeu l m) A10 (cv - (a+1))from by
        rw[HOW2.out];exact(HRS.out.kept (hbb.trans (hV.mono hbb.size)) Zp).wide Zp hbb.size))
      have HLP:=hid (fun V (hV:Below wb.heap.size wb V)=>(show Ze V 0 wb.heap.size (Zdb l m) (some ⟨bv,ov,none⟩) cv from by
        rw[HPARS.out];exact Ze.take (HLV.out V hV) a))
      have HLM:=hid (fun V (hV:Below wb.heap.size wb V)=>(show Za V 0 wb.heap.size mot Ma Mc from((HMT.out.kept (hbb.trans (hV.mono hbb.size)) Zp).wide Zp hbb.size)));have hol:(Zeu l m).length=k:=by rw[Z12];exact HKK.out
      have hpl:(Zdb l m).length=a:=by rw[Zy9];exact HMA.out
      have CR:=hid (fun(V:World)(g2:Nat)(e2:TypeId)(hV:Below wb.heap.size wb V)(hb2:Bk V g2 e2 #[.int .i64 mot.k,.int .i64 mot.n,.slice Ma mot.l.length Mc])=>(show Calls prog 75 #[.pointer (some ⟨g,0,none⟩),.int .i64 m,.slice (some ⟨bv,ov,none⟩) a cv,.slice A10 k (cv - (a+1)),.slice (some ⟨g2,0,none⟩) 1 1,.func (.func 53) #[] #[]] V (fun e w'=>∃A d,e= .returned (.tuple #[.slice A (mAg l m).length d,.int .i64 0])∧Ze w' 0 w'.heap.size (mAg l m) A d∧Below V.heap.size V w')from by
        have hVw:=Jr HBB hV;have hM:=HMO.out;have:=Zsa 3 _ Z8c l _ _ cap bap hi g m hm (Zdb l m) (Zeu l m) [mot] (some ⟨bv,ov,none⟩) A10 (some ⟨g2,0,none⟩) cv (cv - (a+1)) 1 V (HRR.out V hVw) hk ((HLP.out V hV).wide Zp hV.size) ((HLO.out V hV).wide Zp hV.size) (Zm9 ((HLM.out V hV).wide Zp hV.size) hb2 ⟨Qj _,hb2.lt⟩ 0 0) (by rw[hpl];omega) (by rw[hol];exact HKK.out.symm) (by rw[hol];omega) (by simp) (by simp) (by rw[hM.la];rfl) hM.r24 hM.thr (HSS.out V hVw);rw[hpl,hol]at this;refine this.mono fun e w' h=> ?_;obtain⟨h1,h2⟩:=h;have hOK:=hM.ok;rw[HMOT.out]at hOK;have hag:mAg l m=Zga 3 (Zj l m) (Zdb l m) (Zeu l m) [mot] (Zj l m).recs.length:=by unfold mAg;rw[HMOT.out]
        rcases h1 with ⟨_,A,d,e1,e2⟩|⟨e1,_⟩
        · rw[←hag]at e1 e2;exact⟨A,d,e1,e2,h2⟩
        · exact absurd hOK e1))
      have HKM:=hid (fun V (hV:Below wb.heap.size wb V)=>(show V.cell? ⟨gm,0,none⟩=some (.int .i64 mot.k)∧V.cell? ⟨gm,1,none⟩=some (.int .i64 mot.n)∧V.cell? ⟨gm,2,none⟩=some (.slice Ma mot.l.length Mc)from by
        obtain⟨z0,z1,z2,_⟩:=HTM.out.kept hV HTM.out.lt;exact⟨z0,z1,z2⟩))
      obtain⟨ag,hag⟩:∃ag,mAg l m=ag:=⟨_,rfl⟩;have HAGE:=hid hag;rw[hag]at CR;have hbk1:=hid (show Below wb.heap.size wb wb.drew from(Qf _ _).drew);obtain⟨s0,s1,s2⟩:=HKM.out _ (Qf _ _);clear htm hbb HK3 hbk0 HRS hA10 hag;go_wp2_with fail;go_upto_region 4 with fail
      go_cut [11,12]from 48 to 59 (fun s11 s12 wx=>∃Ag cg,s11= .slice Ag ag.length cg∧s12= .int .i64 0∧Ze wx 0 wx.heap.size ag Ag cg∧Below wb.heap.size wb wx)
      case first=>
        go_region_held3 (fun w'=>w'.cell? ⟨gm,0,none⟩=some (.int .i64 mot.k)∧w'.cell? ⟨gm,1,none⟩=some (.int .i64 mot.n)∧w'.cell? ⟨gm,2,none⟩=some (.slice Ma mot.l.length Mc))
          ((refine(HKM.out _ ?_);repeat (first|with_reducible exact hbC.out|with_reducible exact hbk1.out|with_reducible exact Qf _ _|with_reducible refine Qd ?_ _|with_reducible refine Qc ?_|with_reducible refine Qe ?_ (by first|omega|(simp<;>omega)) _)))
          (first
          | (go_at_call 75
             refine(CR.out _ _ 27 (by repeat (first|with_reducible exact hbk1.out|with_reducible exact Qf _ _|with_reducible refine Qd ?_ _|with_reducible refine Qc ?_|with_reducible refine Qe ?_ (by first|omega|(simp<;>omega)) _)) (by first|exact(Qb _ _ _ (by simp)))).mono ?_;rintro e w3 ⟨Ag,cg,rfl,hg3,hb3⟩;have hbC:=hid (by first|exact Jr hbk1 hb3|exact(hbk1.out.alloc hbk1.out.size _).trans (hb3.mono (hbk1.out.alloc hbk1.out.size _).size));have hzC:=hbC.out.size;have HG3:=hid hg3;clear hb3 hg3))
        all_goals
          go_wp2_with fail;go_meet;case rel=>exact⟨Ag,cg,rfl,rfl,HG3.out,hbC.out⟩
      case rest=>
        obtain⟨wd,rfl⟩:∃wd:World,wd=wc:=⟨_,rfl⟩;obtain⟨Ag,cg,rfl,rfl,hagt,hbd⟩:=hcut;have HBD:=hid (Jr HBB hbd);have HZD:=hid (HZB.out.below hbd HZB.out.lt);have HCD:=hid (HCB.out.below hbd HCB.out.lt);have HTMD:=hid (HTM.out.kept hbd HTM.out.lt);have HAG:=hid hagt;have HBBD:=hid hbd;have hzd:=hbd.size;have c0:wd.cell? ⟨gc,0,none⟩=some (.slice F0 k C0):=HCD.out.cell 0;have CTL:=hid (show Calls prog 47 #[.slice F0 k C0,.int .i64 1,.int .i64 0] wd (fun e w'=>∃A c,e= .returned (.tuple #[.slice A k c,.int .i64 0])∧Ze w' 0 w'.heap.size (Zf2 l m) A c∧Below wd.heap.size wd w')from by
          have hM:=HMO.out;have hkk:=HKK.out;unfold mK at hkk;have:=Zrv (Zj l m).args F0 C0 1 0 wd (HTA.out wd HBD.out) ⟨by decide,by decide⟩ (by rw[hkk];omega) (HSS.out wd HBD.out);rw[hkk]at this;refine this.mono fun e w' h=> ?_;obtain⟨h1,h2⟩:=h;rcases h1 with ⟨_,A,c,e1,e2⟩|⟨i,hi,_,e1,_⟩
          · exact⟨A,c,by rw[hkk]at e1;exact e1,by rw[hkk]at e2;unfold Zf2;rw[HKK.out];exact e2,h2⟩
          · exact absurd (hM.tl i (by rw[HKK.out,←hkk];exact hi)) e1)
        clear hagt hbd CR HKM hbk1 s0 s1 s2;go_wp2_with fail;refine CTL.out.mono ?_;rintro e we ⟨Ar,cr,rfl,hat,hbe⟩;have HBE:=hid (Jr HBD hbe);have HZE:=hid (HZD.out.below hbe HZD.out.lt);have HCE:=hid (HCD.out.below hbe HCD.out.lt);have HTME:=hid (HTMD.out.kept hbe HTMD.out.lt);have HBDE:=hid hbe;have HAT:=hid hat;have hze:=hbe.size;have e1:we.cell? ⟨gc,1,none⟩=some (.slice G0 (Zj l m).inds.length D0):=HCE.out.cell 1;have CAI:=hid (show Calls prog 76 #[.slice G0 (Zj l m).inds.length D0,.int .i64 1,.int .i64 (k:Int)] we (fun e w'=>∃A c,e= .returned (.tuple #[.slice A (Zj l m).inds.length c,.int .i64 0])∧Ze w' 0 w'.heap.size (Zhz l m) A c∧Below we.heap.size we w')from by
          have hM:=HMO.out;have:=Zvg (Zj l m).inds 1 k 0 we.heap.size G0 D0 we (HTI.out we HBE.out) Zp (HSS.out we HBE.out) (by have:=hM.li;omega);refine this.mono fun e w' h=> ?_;obtain⟨h1,h2⟩:=h;have hil:=hM.il;rw[HKK.out]at hil;rcases h1 with ⟨_,A,c,e1,e2⟩|⟨e1,_⟩
          · refine⟨A,c,e1, ?_,h2⟩;unfold Zhz;rw[HKK.out];exact e2.wide (Qj _) Zp
          · exact absurd hil e1)
        clear hat hbe CTL c0;go_wp2_with fail;refine CAI.out.mono ?_;rintro e wf ⟨Ai,ci,rfl,hit,hbf⟩;have HBF0:=hid (Jr HBE hbf);have HZF:=hid (HZE.out.below hbf HZE.out.lt);have HTMF:=hid (HTME.out.kept hbf HTME.out.lt);have HBDF:=hid (Jr HBDE hbf);have HBBF:=hid (Jr HBBD HBDF.out);have hzf:=hbf.size;have HIT:=hid (fun V (hV:Below wf.heap.size wf V)=>(show Ze V 0 wf.heap.size (Zhz l m) Ai ci from hit.kept hV Zp));have HATF:=hid (fun V (hV:Below wf.heap.size wf V)=>(show Ze V 0 wf.heap.size (Zf2 l m) Ar cr from((HAT.out.kept (hbf.trans (hV.mono hbf.size)) Zp).wide Zp hbf.size)));have HAGF:=hid (fun V (hV:Below wf.heap.size wf V)=>(show Ze V 0 wf.heap.size ag Ag cg from((HAG.out.kept (Jr HBDF hV) Zp).wide Zp HBDF.out.size)));have HLPF:=hid (fun V (hV:Below wf.heap.size wf V)=>(show Ze V 0 wf.heap.size (Zdb l m) (some ⟨bv,ov,none⟩) cv from(HLP.out V (Jr HBBF hV)).wide Zp HBBF.out.size));have HLOF:=hid (fun V (hV:Below wf.heap.size wf V)=>(show Ze V 0 wf.heap.size (Zeu l m) A10 (cv - (a+1))from(HLO.out V (Jr HBBF hV)).wide Zp HBBF.out.size));have HLMF:=hid (fun V (hV:Below wf.heap.size wf V)=>(show Za V 0 wf.heap.size mot Ma Mc from(HLM.out V (Jr HBBF hV)).wide Zp HBBF.out.size));have CC:=hid (fun(V:World)=>(Zo3 m V).mono fun e w' h=>(show e= .returned (.agg #[.int .i64 6,.int .i64 m,.slice none 0 0])∧Below V.heap.size V w' from⟨h.1,by rw[h.2];exact(Qf _ _).alloc Zp _⟩));obtain⟨x1,hx1⟩:∃x1,mIn l m=x1:=⟨_,rfl⟩;obtain⟨y1,hy1⟩:∃y1,Zte l m=y1:=⟨_,rfl⟩;obtain⟨ni,hni⟩:∃n,(Zj l m).inds.length=n:=⟨_,rfl⟩;have hil2:(Zhz l m).length=ni:=by unfold Zhz Zev;rw[List.length_map,hni]
        have CA1:=hid (fun(V:World)(g2:Nat)(e2:TypeId)(hV:Below wf.heap.size wf V)(hb2:Bk V g2 e2 #[.slice (some ⟨bv,ov,none⟩) a cv,.slice A10 k (cv - (a+1))])=>(show Calls prog 51 #[.agg #[.int .i64 6,.int .i64 m,.slice none 0 0],.slice (some ⟨g2,0,none⟩) 2 2] V (Zey x1 V)from by
          have hls:Zc5 V V.heap.size g2 [(Zdb l m,some ⟨bv,ov,none⟩,cv),(Zeu l m,A10,cv - (a+1))]:=Zc5.of (e:=e2) (by
            show Bk V g2 e2 #[.slice (some ⟨bv,ov,none⟩) (Zdb l m).length cv,.slice A10 (Zeu l m).length (cv - (a+1))]
            rw[hpl,hol];exact hb2) Zp (fun p hp=>by
            simp only[Qh,Qg,or_false]at hp;rcases hp with rfl|rfl
            · exact(HLPF.out V hV).wide Zp hV.size
            · exact(HLOF.out V hV).wide Zp hV.size)
          have:=Zjp (.node 6 m []) none 0 _ V.heap.size g2 V (Zas _ _ 6 m) hls (by simp);rw[show Jh [(Zdb l m,some ⟨bv,ov,none⟩,cv),(Zeu l m,A10,cv - (a+1))]=Zdb l m++Zeu l m from by unfold Jh;simp]at this;rw[←hx1];exact this))
        have CA2:=hid (fun(V:World)(g2 g3:Nat)(e2 e3:TypeId)(Ax:Option Addr)(cx:Nat)(hV:Below wf.heap.size wf V)(hxt:Za V 0 V.heap.size x1 Ax cx)(hb3:Bk V g3 e3 #[.slice Ai ni ci,.slice (some ⟨g2,0,none⟩) 1 1]) (hb2:Bk V g2 e2 #[.int .i64 x1.k,.int .i64 x1.n,.slice Ax x1.l.length cx])=>(show Calls prog 51 #[.agg #[.int .i64 mot.k,.int .i64 mot.n,.slice Ma mot.l.length Mc],.slice (some ⟨g3,0,none⟩) 2 2] V (Zey y1 V)from by
          have hls:Zc5 V V.heap.size g3 [(Zhz l m,Ai,ci),([x1],some ⟨g2,0,none⟩,1)]:=Zc5.of (e:=e3) (by
            show Bk V g3 e3 #[.slice Ai (Zhz l m).length ci,.slice (some ⟨g2,0,none⟩) 1 1]
            rw[hil2];exact hb3) Zp (fun p hp=>by
            simp only[Qh,Qg,or_false]at hp;rcases hp with rfl|rfl
            · exact(HIT.out V hV).wide Zp hV.size
            · exact Zm9 hxt hb2 ⟨Qj _,hb2.lt⟩ 0 0)
          have:=Zjp mot Ma Mc _ V.heap.size g3 V ((HLMF.out V hV).wide Zp hV.size) hls (by simp);rw[show Jh [(Zhz l m,Ai,ci),([x1],some ⟨g2,0,none⟩,1)]=Zhz l m++[x1]from by unfold Jh;simp]at this;rw[←hy1];unfold Zte;rw[hx1,HMOT.out];exact this))
        obtain⟨rs,rc,hrs⟩:∃r c,Jy y1 ag.length 0=(r,c):=⟨_,_,rfl⟩;have hrc:rc=0:=by
          have:=HMO.out.up;rw[HAGE.out,hy1,hrs]at this;exact this
        subst hrc;have CU:=hid (fun V (hV:Below wf.heap.size wf V) (Ay:Option Addr) (cy:Nat) (hyt:Za V 0 V.heap.size y1 Ay cy)=>(show Calls prog 77 #[.agg #[.int .i64 y1.k,.int .i64 y1.n,.slice Ay y1.l.length cy],.int .i64 (ag.length:Int)] V (Zn (rs,0) V)from by
          have:=Zt3 y1 ag.length 0 V.heap.size Ay cy V hyt Zp (HSS.out V (Jr HBF0 hV));rw[hrs]at this;exact this))
        rw[hni];have HKM2:=hid (fun V (hV:Below wf.heap.size wf V)=>(show V.cell? ⟨gm,0,none⟩=some (.int .i64 mot.k)∧V.cell? ⟨gm,1,none⟩=some (.int .i64 mot.n)∧V.cell? ⟨gm,2,none⟩=some (.slice Ma mot.l.length Mc)from by
          obtain⟨z0,z1,z2,_⟩:=HTMF.out.kept hV HTMF.out.lt;exact⟨z0,z1,z2⟩))
        have HRSE:=hid (show(Jy (Zte l m) (mAg l m).length 0).1=rs from by rw[HAGE.out,hy1,hrs]);unfold Zey Zc at CA1 CA2;unfold Zn Zc at CU;have hbk1:=hid (show Below wf.heap.size wf wf.drew from(Qf _ _).drew);obtain⟨s0,s1,s2⟩:=HKM2.out _ (Qf _ _);have hgmf:gm<wf.heap.size:=by omega
        clear hit hbf CAI e1 hx1 hy1 hni hrs hil2;go_wp2_with fail;go_upto_region 9 with fail
        go_cut [12,17]from 78 to 96 (fun s12 s17 wx=>∃gv Ax cx,gv≠w.heap.size∧s12= .int .i64 0∧s17= .pointer (some ⟨gv,0,none⟩)∧Z8 wx gv rs.k rs.n (.slice Ax rs.l.length cx)∧Below wf.heap.size wf wx∧Za wx wf.heap.size wx.heap.size rs Ax cx)
        case first=>
          go_region_held3 (fun w'=>w'.cell? ⟨gm,0,none⟩=some (.int .i64 mot.k)∧w'.cell? ⟨gm,1,none⟩=some (.int .i64 mot.n)∧w'.cell? ⟨gm,2,none⟩=some (.slice Ma mot.l.length Mc))
            ((refine(HKM2.out _ ?_);repeat (first|with_reducible exact hbF.out|with_reducible exact hbQ.out|with_reducible exact hbP.out|with_reducible exact hbC.out|with_reducible exact hbk1.out|with_reducible exact Qf _ _|with_reducible refine Qd ?_ _|with_reducible refine Qc ?_|with_reducible refine Qe ?_ (by first|omega|(simp<;>omega)) _)))
            (first
            | (go_at_call 78
               refine(CC.out _).mono ?_;rintro e w3 ⟨rfl,hb3⟩;have hbC:=hid (by first|exact Jr hbk1 hb3|exact(hbk1.out.alloc hbk1.out.size _).trans (hb3.mono (hbk1.out.alloc hbk1.out.size _).size)|exact((hbk1.out.alloc hbk1.out.size _).alloc (hbk1.out.alloc hbk1.out.size _).size _).trans (hb3.mono ((hbk1.out.alloc hbk1.out.size _).alloc (hbk1.out.alloc hbk1.out.size _).size _).size));have hzC:=hbC.out.size
               first
               | (have hbz2:=hid (Qa hbz.out hb3 (by have:=hbz.out.lt;simp<;>omega));have hbz:=hbz2;clear hbz2)
               | (have hbz2:=hid (Qa (hbz.out.alloc _) hb3 (by have:=hbz.out.lt;simp<;>omega));have hbz:=hbz2;clear hbz2)
               | (have hbz:Hid (Bk w3 (wf.heap.size) 27 #[.int .i64 0,.int .i64 0,.slice none 0 0]):=hid (Qa (show Bk _ (wf.heap.size) 27 #[.int .i64 0,.int .i64 0,.slice none 0 0]from(Qb wf.drew 27 #[.int .i64 0,.int .i64 0,.slice none 0 0] (by simp))) hb3 (by simp<;>omega)))
               | (have hbz:Hid (Bk w3 (wf.heap.size) 27 #[.int .i64 0,.int .i64 0,.slice none 0 0]):=hid (Qa (show Bk _ (wf.heap.size) 27 #[.int .i64 0,.int .i64 0,.slice none 0 0]from((Qb wf.drew 27 #[.int .i64 0,.int .i64 0,.slice none 0 0] (by simp)).alloc _)) hb3 (by simp<;>omega)))
               | (have hbz:Hid (Bk w3 (wf.heap.size+1) 27 #[.int .i64 0,.int .i64 0,.slice none 0 0]):=hid (Qa (show Bk _ (wf.heap.size+1) 27 #[.int .i64 0,.int .i64 0,.slice none 0 0]from(Qb (wf.drew.alloc _) 27 #[.int .i64 0,.int .i64 0,.slice none 0 0] (by simp))) hb3 (by simp<;>omega)))
               | skip
               first|have hlz:=hbz.out.lt|skip
               first
               | (have hls22:=hid (Qa hls2.out hb3 (by have:=hls2.out.lt;simp<;>omega));have hls2:=hls22;clear hls22)
               | (have hls22:=hid (Qa (hls2.out.alloc _) hb3 (by have:=hls2.out.lt;simp<;>omega));have hls2:=hls22;clear hls22)
               | (have hls2:Hid (Bk w3 (wf.heap.size) 23 #[.slice (some ⟨bv,ov,none⟩) a cv,.slice A10 k (cv - (a+1))]):=hid (Qa (show Bk _ (wf.heap.size) 23 #[.slice (some ⟨bv,ov,none⟩) a cv,.slice A10 k (cv - (a+1))]from(Qb wf.drew 23 #[.slice (some ⟨bv,ov,none⟩) a cv,.slice A10 k (cv - (a+1))] (by simp))) hb3 (by simp<;>omega)))
               | (have hls2:Hid (Bk w3 (wf.heap.size) 23 #[.slice (some ⟨bv,ov,none⟩) a cv,.slice A10 k (cv - (a+1))]):=hid (Qa (show Bk _ (wf.heap.size) 23 #[.slice (some ⟨bv,ov,none⟩) a cv,.slice A10 k (cv - (a+1))]from((Qb wf.drew 23 #[.slice (some ⟨bv,ov,none⟩) a cv,.slice A10 k (cv - (a+1))] (by simp)).alloc _)) hb3 (by simp<;>omega)))
               | (have hls2:Hid (Bk w3 (wf.heap.size+1) 23 #[.slice (some ⟨bv,ov,none⟩) a cv,.slice A10 k (cv - (a+1))]):=hid (Qa (show Bk _ (wf.heap.size+1) 23 #[.slice (some ⟨bv,ov,none⟩) a cv,.slice A10 k (cv - (a+1))]from(Qb (wf.drew.alloc _) 23 #[.slice (some ⟨bv,ov,none⟩) a cv,.slice A10 k (cv - (a+1))] (by simp))) hb3 (by simp<;>omega)))
               | skip
               clear hb3)
            | (go_at_call 77
               refine(CU.out _ (by repeat (first|with_reducible exact hbQ.out|with_reducible exact Qf _ _|with_reducible refine Qd ?_ _|with_reducible refine Qc ?_|with_reducible refine Qe ?_ (by first|omega|(simp<;>omega)) _)) Ay cy (by first|exact HY5.out|exact(HY5.out.alloc Zp _).wide Zp (by simp))).mono ?_;rintro e w6 ⟨Ax,cx,rfl,hx6,hb6⟩;have hbF:=hid (by first|exact Jr hbQ hb6|exact(hbQ.out.alloc hbQ.out.size _).trans (hb6.mono (hbQ.out.alloc hbQ.out.size _).size));have hzF:=hbF.out.size
               first
               | (have hbz2:=hid (Qa hbz.out hb6 (by have:=hbz.out.lt;simp<;>omega));have hbz:=hbz2;clear hbz2)
               | (have hbz2:=hid (Qa (hbz.out.alloc _) hb6 (by have:=hbz.out.lt;simp<;>omega));have hbz:=hbz2;clear hbz2)
               | (have hbz:Hid (Bk w6 (w5.heap.size) 27 #[.int .i64 0,.int .i64 0,.slice none 0 0]):=hid (Qa (show Bk _ (w5.heap.size) 27 #[.int .i64 0,.int .i64 0,.slice none 0 0]from(Qb w5 27 #[.int .i64 0,.int .i64 0,.slice none 0 0] (by simp))) hb6 (by simp<;>omega)))
               | (have hbz:Hid (Bk w6 (w5.heap.size) 27 #[.int .i64 0,.int .i64 0,.slice none 0 0]):=hid (Qa (show Bk _ (w5.heap.size) 27 #[.int .i64 0,.int .i64 0,.slice none 0 0]from((Qb w5 27 #[.int .i64 0,.int .i64 0,.slice none 0 0] (by simp)).alloc _)) hb6 (by simp<;>omega)))
               | (have hbz:Hid (Bk w6 (w5.heap.size+1) 27 #[.int .i64 0,.int .i64 0,.slice none 0 0]):=hid (Qa (show Bk _ (w5.heap.size+1) 27 #[.int .i64 0,.int .i64 0,.slice none 0 0]from(Qb (w5.alloc _) 27 #[.int .i64 0,.int .i64 0,.slice none 0 0] (by simp))) hb6 (by simp<;>omega)))
               | skip
               have HX6:=hid hx6
               first
               | (have hfz:∀q,w6.frozen? ⟨_,q,none⟩=false:=fun q=>hbz.out.cold q
                  have d0:=hbz.out.cell 0;have d1:=hbz.out.cell 1;have d2:=hbz.out.cell 2;simp at d0 d1 d2)
               | skip
               clear hb6 hx6)
            | (go_at_call 51
               refine(CA2.out _ _ _ 27 23 A4 c4 (by repeat (first|with_reducible exact hbP.out|with_reducible exact Qf _ _|with_reducible refine Qd ?_ _|with_reducible refine Qc ?_|with_reducible refine Qe ?_ (by first|omega|(simp<;>omega)) _)) (by first|exact(HX4.out.kept (((Qf w4.heap.size w4).alloc Zp _).alloc (by simp) _) Zp).wide Zp (by simp<;>omega)|exact(HX4.out.kept ((((Qf w4.heap.size w4).alloc Zp _).alloc (by simp) _).alloc (by simp<;>omega) _) Zp).wide Zp (by simp<;>omega)) (by first|exact(Qb _ _ _ (by simp))|exact((Qb _ _ _ (by simp)).alloc _)) (by first|exact(Qb _ _ _ (by simp)).alloc _|exact((Qb _ _ _ (by simp)).alloc _).alloc _)).mono ?_;rintro e w5 ⟨Ay,cy,rfl,hy5,hb5⟩;have hbQ:=hid (by first|exact Jr hbP hb5|exact(hbP.out.alloc hbP.out.size _).trans (hb5.mono (hbP.out.alloc hbP.out.size _).size)|exact((hbP.out.alloc hbP.out.size _).alloc (hbP.out.alloc hbP.out.size _).size _).trans (hb5.mono ((hbP.out.alloc hbP.out.size _).alloc (hbP.out.alloc hbP.out.size _).size _).size)|exact(((hbP.out.alloc hbP.out.size _).alloc (hbP.out.alloc hbP.out.size _).size _).alloc ((hbP.out.alloc hbP.out.size _).alloc (hbP.out.alloc hbP.out.size _).size _).size _).trans (hb5.mono (((hbP.out.alloc hbP.out.size _).alloc (hbP.out.alloc hbP.out.size _).size _).alloc ((hbP.out.alloc hbP.out.size _).alloc (hbP.out.alloc hbP.out.size _).size _).size _).size));have hzQ:=hbQ.out.size
               first
               | (have hbz2:=hid (Qa hbz.out hb5 (by have:=hbz.out.lt;simp<;>omega));have hbz:=hbz2;clear hbz2)
               | (have hbz2:=hid (Qa (hbz.out.alloc _) hb5 (by have:=hbz.out.lt;simp<;>omega));have hbz:=hbz2;clear hbz2)
               | (have hbz2:=hid (Qa ((hbz.out.alloc _).alloc _) hb5 (by have:=hbz.out.lt;simp<;>omega));have hbz:=hbz2;clear hbz2)
               | (have hbz:Hid (Bk w5 (w4.heap.size) 27 #[.int .i64 0,.int .i64 0,.slice none 0 0]):=hid (Qa (show Bk _ (w4.heap.size) 27 #[.int .i64 0,.int .i64 0,.slice none 0 0]from(Qb w4 27 #[.int .i64 0,.int .i64 0,.slice none 0 0] (by simp))) hb5 (by simp<;>omega)))
               | (have hbz:Hid (Bk w5 (w4.heap.size) 27 #[.int .i64 0,.int .i64 0,.slice none 0 0]):=hid (Qa (show Bk _ (w4.heap.size) 27 #[.int .i64 0,.int .i64 0,.slice none 0 0]from((Qb w4 27 #[.int .i64 0,.int .i64 0,.slice none 0 0] (by simp)).alloc _)) hb5 (by simp<;>omega)))
               | (have hbz:Hid (Bk w5 (w4.heap.size) 27 #[.int .i64 0,.int .i64 0,.slice none 0 0]):=hid (Qa (show Bk _ (w4.heap.size) 27 #[.int .i64 0,.int .i64 0,.slice none 0 0]from(((Qb w4 27 #[.int .i64 0,.int .i64 0,.slice none 0 0] (by simp)).alloc _).alloc _)) hb5 (by simp<;>omega)))
               | (have hbz:Hid (Bk w5 (w4.heap.size+1) 27 #[.int .i64 0,.int .i64 0,.slice none 0 0]):=hid (Qa (show Bk _ (w4.heap.size+1) 27 #[.int .i64 0,.int .i64 0,.slice none 0 0]from(Qb (w4.alloc _) 27 #[.int .i64 0,.int .i64 0,.slice none 0 0] (by simp))) hb5 (by simp<;>omega)))
               | (have hbz:Hid (Bk w5 (w4.heap.size+1) 27 #[.int .i64 0,.int .i64 0,.slice none 0 0]):=hid (Qa (show Bk _ (w4.heap.size+1) 27 #[.int .i64 0,.int .i64 0,.slice none 0 0]from((Qb (w4.alloc _) 27 #[.int .i64 0,.int .i64 0,.slice none 0 0] (by simp)).alloc _)) hb5 (by simp<;>omega)))
               | (have hbz:Hid (Bk w5 (w4.heap.size+1+1) 27 #[.int .i64 0,.int .i64 0,.slice none 0 0]):=hid (Qa (show Bk _ (w4.heap.size+1+1) 27 #[.int .i64 0,.int .i64 0,.slice none 0 0]from(Qb ((w4.alloc _).alloc _) 27 #[.int .i64 0,.int .i64 0,.slice none 0 0] (by simp))) hb5 (by simp<;>omega)))
               | skip
               first|have hlz2:=hbz.out.lt|skip
               have HY5:=hid hy5;clear hb5 hy5)
            | (go_at_call 51
               refine(CA1.out _ _ 23 (by repeat (first|with_reducible exact hbC.out|with_reducible exact Qf _ _|with_reducible refine Qd ?_ _|with_reducible refine Qc ?_|with_reducible refine Qe ?_ (by first|omega|(simp<;>omega)) _)) (by first|exact hls2.out|exact hls2.out.alloc _|exact Qb _ _ _ (by simp)|exact(Qb _ _ _ (by simp)).alloc _)).mono ?_;rintro e w4 ⟨A4,c4,rfl,hx4,hb4⟩;have hbP:=hid (by first|exact Jr hbC hb4|exact(hbC.out.alloc hbC.out.size _).trans (hb4.mono (hbC.out.alloc hbC.out.size _).size)|exact((hbC.out.alloc hbC.out.size _).alloc (hbC.out.alloc hbC.out.size _).size _).trans (hb4.mono ((hbC.out.alloc hbC.out.size _).alloc (hbC.out.alloc hbC.out.size _).size _).size));have hzP:=hbP.out.size
               first
               | (have hbz2:=hid (Qa hbz.out hb4 (by have:=hbz.out.lt;simp<;>omega));have hbz:=hbz2;clear hbz2)
               | (have hbz2:=hid (Qa (hbz.out.alloc _) hb4 (by have:=hbz.out.lt;simp<;>omega));have hbz:=hbz2;clear hbz2)
               | (have hbz:Hid (Bk w4 (w3.heap.size) 27 #[.int .i64 0,.int .i64 0,.slice none 0 0]):=hid (Qa (show Bk _ (w3.heap.size) 27 #[.int .i64 0,.int .i64 0,.slice none 0 0]from(Qb w3 27 #[.int .i64 0,.int .i64 0,.slice none 0 0] (by simp))) hb4 (by simp<;>omega)))
               | (have hbz:Hid (Bk w4 (w3.heap.size) 27 #[.int .i64 0,.int .i64 0,.slice none 0 0]):=hid (Qa (show Bk _ (w3.heap.size) 27 #[.int .i64 0,.int .i64 0,.slice none 0 0]from((Qb w3 27 #[.int .i64 0,.int .i64 0,.slice none 0 0] (by simp)).alloc _)) hb4 (by simp<;>omega)))
               | (have hbz:Hid (Bk w4 (w3.heap.size+1) 27 #[.int .i64 0,.int .i64 0,.slice none 0 0]):=hid (Qa (show Bk _ (w3.heap.size+1) 27 #[.int .i64 0,.int .i64 0,.slice none 0 0]from(Qb (w3.alloc _) 27 #[.int .i64 0,.int .i64 0,.slice none 0 0] (by simp))) hb4 (by simp<;>omega)))
               | skip
               first|have hlz1:=hbz.out.lt|skip
               have HX4:=hid hx4;clear hb4 hx4))
          all_goals
            go_wp2_with fail;go_meet;case rel=>
              first
              | exact⟨_,Ax,cx,by have:=HZF.out.lt;omega,rfl,rfl,Z8.of (((hbz.out.at_ 0 (.int .i64 rs.k)).at_ 1 (.int .i64 rs.n)).at_ 2 (.slice Ax rs.l.length cx)),(by repeat (first|with_reducible exact hbF.out|with_reducible exact Qf _ _|with_reducible refine Qd ?_ _|with_reducible refine Qc ?_|with_reducible refine Qe ?_ (by first|omega|(simp<;>omega)) _)),(Zd.three HX6.out (fun b hb e=>by have h1:=hb.1;have h2:=hbz.out.lt;subst e;first|omega|(simp at h1;done)|(simp at h1;omega)) _ _ _).imp (fun _ _ _=>rfl) (fun b hb=>⟨by have h1:=hb.1;have h2:=hbQ.out.size;first|omega|(simp at h1;omega),by rw[Z2];exact hb.2⟩)⟩
              | exact⟨_,Ax,cx,by have:=HZF.out.lt;omega,rfl,rfl,Z8.of (Bk.new w6 _ _),(by repeat (first|with_reducible exact hbF.out|with_reducible exact Qf _ _|with_reducible refine Qd ?_ _|with_reducible refine Qc ?_|with_reducible refine Qe ?_ (by first|omega|(simp<;>omega)) _)),Zd.imp (fun b o hb=>((Qf w6.heap.size w6).alloc Zp _).cell (p:=⟨b,o,none⟩) hb.2) (fun b hb=>⟨by have h1:=hb.1;have h2:=hbQ.out.size;first|omega|(simp at h1;omega),by have:=hb.2;simp;omega⟩) HX6.out⟩
        case rest=>
          obtain⟨wg,rfl⟩:∃wg:World,wg=wc:=⟨_,rfl⟩;obtain⟨gv,Ax,cx,hgne,rfl,rfl,htb,hbg,hnx⟩:=hcut;have HGNE:=hid hgne;have HBG:=hid (Jr HBF0 hbg);have HZG:=hid (HZF.out.below hbg HZF.out.lt);have HNX:=hid (fun V (hV:Below wg.heap.size wg V)=>(show Za V 0 wg.heap.size rs Ax cx from(hnx.kept hV Zp).wide (Qj _) Zp));have HTBG:=hid htb;have hzg:=hbg.size;have hgvl:=htb.lt;have HAGG:=hid (fun V (hV:Below wg.heap.size wg V)=>(show Ze V 0 V.heap.size ag Ag cg from(HAGF.out V (hbg.trans (hV.mono hbg.size))).wide Zp (by have:=hV.size;omega)));have HATG:=hid (fun V (hV:Below wg.heap.size wg V)=>(show Ze V 0 V.heap.size (Zf2 l m) Ar cr from(HATF.out V (hbg.trans (hV.mono hbg.size))).wide Zp (by have:=hV.size;omega)));have hagl:ag.length≤100:=by
            have h1:=Zpb 3 (Zj l m) (Zdb l m) (Zeu l m) [Zqu l m] (Zj l m).recs.length;have h2:=HMO.out.la;have h3:=HKK.out;have h4:=HAGE.out;unfold mAg at h4;rw[h4]at h1;omega
          have CS:=hid (fun V (hV:Below wg.heap.size wg V)=>(show Calls prog 49 #[.slice Ag ag.length cg] V (Zbj (Zcx ag ag.length) V)from Zop ag Ag cg V (HAGG.out V hV) (by omega) (HSS.out V (Jr HBG hV))));have hal:(Zf2 l m).length=k:=by unfold Zf2;rw[Zx5,HKK.out]
          obtain⟨st,hst⟩:∃st,Zcx ag ag.length=st:=⟨_,rfl⟩;have hstl:st.length=ag.length:=by rw[←hst,Zhh]
          have CCt:=hid (fun(V:World)(g2:Nat)(e2:TypeId)(As:Option Addr)(cs:Nat)(hV:Below wg.heap.size wg V)(hs:Ze V 0 V.heap.size st As cs)(hb2:Bk V g2 e2 #[.slice Ar k cr,.slice As ag.length cs])=>(show Calls prog 48 #[.slice (some ⟨g2,0,none⟩) 2 2] V (Zbj (Zf2 l m++st) V)from by
            have hls:Zc5 V V.heap.size g2 [(Zf2 l m,Ar,cr),(st,As,cs)]:=Zc5.of (e:=e2) (by
              show Bk V g2 e2 #[.slice Ar (Zf2 l m).length cr,.slice As st.length cs]
              rw[hal,hstl];exact hb2) Zp (fun p hp=>by
              simp only[Qh,Qg,or_false]at hp;rcases hp with rfl|rfl
              · exact HATG.out V hV
              · exact hs)
            have hfl:Jh [(Zf2 l m,Ar,cr),(st,As,cs)]=Zf2 l m++st:=by unfold Jh;simp
            have:=Zhy _ V.heap.size g2 V hls (by simp) (by rw[hfl,List.length_append,hal,hstl];omega);rw[hfl]at this;exact this.mono fun _ _ h=>h.gives))
          obtain⟨all,hall⟩:∃all,Zf2 l m++st=all:=⟨_,rfl⟩;rw[hall]at CCt;rw[hst]at CS;have HRE:Hid (R=Zf0 3 all rs):=hid (by rw[←HRX.out];unfold Zl3;rw[HRSE.out,HAGE.out,hst,hall]);have CL:=hid (fun V (hV:Below wg.heap.size wg V) (L:Option Addr) (cL:Nat) (hl:Ze V 0 V.heap.size all L cL)=>(show Calls prog 52 #[.func (.func 53) #[] #[],.slice L all.length cL,.agg #[.int .i64 rs.k,.int .i64 rs.n,.slice Ax rs.l.length cx]] V (Zn R V)from by
            rw[HRE.out];exact Zi8 all L cL rs Ax cx V hl ((HNX.out V hV).wide Zp hV.size) (HSS.out V (Jr HBG hV))))
          have HKR:=hid (fun V (hV:Below wg.heap.size wg V)=>(show V.cell? ⟨gv,0,none⟩=some (.int .i64 rs.k)∧V.cell? ⟨gv,1,none⟩=some (.int .i64 rs.n)∧V.cell? ⟨gv,2,none⟩=some (.slice Ax rs.l.length cx)from by
            obtain⟨z0,z1,z2,_⟩:=HTBG.out.kept hV HTBG.out.lt;exact⟨z0,z1,z2⟩))
          have HZV2:=hid (fun V (hV:Below wg.heap.size wg V)=>HZG.out.below hV HZG.out.lt);have hzl:=HZG.out.lt;obtain⟨rt,rcc⟩:=R;unfold Zbj at CS CCt;unfold Zn Zc at CL;rw[hstl]at CS;have hbk2:=hid (show Below wg.heap.size wg wg.drew from(Qf _ _).drew);obtain⟨s0,s1,s2⟩:=HKR.out _ (Qf _ _);have hww:=HBG.out.size;have hwz:=HBW.out.size;clear htb hbg hnx hst hall HKM2 hbk1 CA1 CA2 CU CC hal hstl;go_wp2_with fail;go_region_held3 (fun w'=>w'.cell? ⟨gv,0,none⟩=some (.int .i64 rs.k)∧w'.cell? ⟨gv,1,none⟩=some (.int .i64 rs.n)∧w'.cell? ⟨gv,2,none⟩=some (.slice Ax rs.l.length cx))
            ((first
              | with_reducible exact HKS.out
              | (refine HKR.out _ ?_;repeat (first|with_reducible exact hbF.out|with_reducible exact hbP.out|with_reducible exact hbC.out|with_reducible exact hbk2.out|with_reducible exact Qf _ _|with_reducible refine Qd ?_ _|with_reducible refine Qc ?_))))
            (first
            | (go_at_call 49
               refine(CS.out _ (by repeat (first|with_reducible exact hbk2.out|with_reducible exact Qf _ _|with_reducible refine Qd ?_ _|with_reducible refine Qc ?_|with_reducible refine Qe ?_ (by first|omega|(simp<;>omega)) _))).mono ?_;rintro e w3 ⟨As,cs,rfl,hs3,hb3⟩;have hbC:=hid (by first|exact Jr hbk2 hb3);have HS3:=hid hs3;clear hb3 hs3)
            | (go_at_call 48
               refine(CCt.out _ _ 23 As cs (by repeat (first|with_reducible exact hbC.out|with_reducible exact Qf _ _|with_reducible refine Qd ?_ _|with_reducible refine Qc ?_|with_reducible refine Qe ?_ (by first|omega|(simp<;>omega)) _)) (by exact(HS3.out.kept ((Qf w3.heap.size w3).alloc Zp _) Zp).wide Zp (by simp)) (by first|exact(Qb _ _ _ (by simp)))).mono ?_;rintro e w4 ⟨L4,c4,rfl,hn4,hb4⟩;have hbP:=hid (by first|exact Jr hbC hb4|exact(hbC.out.alloc hbC.out.size _).trans (hb4.mono (hbC.out.alloc hbC.out.size _).size));have HN4:=hid hn4;clear hb4 hn4)
            | (go_at_call 52
               refine(CL.out _ hbP.out L4 c4 HN4.out).mono ?_;rintro e w6 ⟨A6,c6,rfl,hn6,hb6⟩;have hbF:=hid (by first|exact Jr hbP hb6);have HN6:=hid (show Za w6 wg.heap.size w6.heap.size rt A6 c6 from hn6.wide hbP.out.size Zp);have K5:=HZV2.out _ hbF.out;have HK5:=hid K5;have hfz:∀q,w6.frozen? ⟨w.heap.size,q,none⟩=false:=fun q=>K5.cold q;have d0:w6.cell? ⟨w.heap.size,0,none⟩=some (.int .i64 0):=K5.cell 0;have d1:w6.cell? ⟨w.heap.size,1,none⟩=some (.int .i64 0):=K5.cell 1;have d2:w6.cell? ⟨w.heap.size,2,none⟩=some (.slice none 0 0):=K5.cell 2;have HKS:=hid (show(((w6.setCell ⟨w.heap.size,0,none⟩ (.int .i64 rt.k)).setCell ⟨w.heap.size,1,none⟩ (.int .i64 rt.n)).setCell ⟨w.heap.size,2,none⟩ (.slice A6 rt.l.length c6)).cell? ⟨gv,0,none⟩=some (.int .i64 rs.k)∧(((w6.setCell ⟨w.heap.size,0,none⟩ (.int .i64 rt.k)).setCell ⟨w.heap.size,1,none⟩ (.int .i64 rt.n)).setCell ⟨w.heap.size,2,none⟩ (.slice A6 rt.l.length c6)).cell? ⟨gv,1,none⟩=some (.int .i64 rs.n)∧(((w6.setCell ⟨w.heap.size,0,none⟩ (.int .i64 rt.k)).setCell ⟨w.heap.size,1,none⟩ (.int .i64 rt.n)).setCell ⟨w.heap.size,2,none⟩ (.slice A6 rt.l.length c6)).cell? ⟨gv,2,none⟩=some (.slice Ax rs.l.length cx)from by
                 obtain⟨z0,z1,z2⟩:=HKR.out _ hbF.out;exact⟨(Zb0 HGNE.out 0 1 2 _ _ _).trans z0,(Zb0 HGNE.out 0 1 2 _ _ _).trans z1,(Zb0 HGNE.out 0 1 2 _ _ _).trans z2⟩)
               clear K5 hb6 hn6))
          all_goals
            have B5:=((HK5.out.at_ 0 (.int .i64 rt.k)).at_ 1 (.int .i64 rt.n)).at_ 2 (.slice A6 rt.l.length c6);have HS0:=hid (B5.cell 0);have HS1:=hid (B5.cell 1);have HS2:=hid (B5.cell 2);have HBF:=hid (Jr HBG hbF.out);clear B5;go_wp2_with fail;refine bodyPost_ret (v:= .tuple #[.agg #[.int .i64 rt.k,.int .i64 rt.n,.slice A6 rt.l.length c6],.int .i64 rcc]) (by simp[results,results46,go_sem,HS0.out,HS1.out,HS2.out]) rfl ?_;exact Zbh HBF.out Zp HN6.out hzl
