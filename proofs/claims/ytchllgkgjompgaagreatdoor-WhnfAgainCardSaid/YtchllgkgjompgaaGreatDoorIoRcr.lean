import Derived.Test.YtchllgkgjompgaaGreatDoorI4
import Derived.Test.YtchllgkgjompgaaGreatDoorI3
import Derived.Test.YtchllgkgjompgaaGreatDoorL2
import Derived.Deep.RegionHeld3
import Derived.Deep.CutRange
namespace Go.Proofs.YtchllgkgjompgaaGreatDoor
open Go.RowKit
set_option linter.unusedVariables false
set_option maxRecDepth 100000
open Lib(hid)
open Go.Proofs.Tryz
theorem lrIoRcr{n:Nat}:n≤n:=Nat.le_refl n
theorem trIoRcr{a b c:World}(x:Hid (Below a.heap.size a b))(y:Below b.heap.size b c):Below a.heap.size a c:=x.out.trans (y.mono x.out.size)
def stepR (κ:Int) (c:CoT) (pars own front:List TM) (i:Nat):TM×Int:=
  if(thrX (c.args.getD i (.node 0 0 [])) (c.recs.getD i zeroRc).ar.length pars (own.take i)).2.2=0 then
    (if errL (thrX (c.args.getD i (.node 0 0 [])) (c.recs.getD i zeroRc).ar.length pars (own.take i)).1.length 0 (front++[own.getD i (.node 0 0 [])])=0 then
      laidX κ (thrX (c.args.getD i (.node 0 0 [])) (c.recs.getD i zeroRc).ar.length pars (own.take i)).1
        (applyT ((mapL (thrX (c.args.getD i (.node 0 0 [])) (c.recs.getD i zeroRc).ar.length pars (own.take i)).1.length 0 front).getD 0 (.node 0 0 []))
          ((mapL (thrX (c.args.getD i (.node 0 0 [])) (c.recs.getD i zeroRc).ar.length pars (own.take i)).1.length 0 front).drop 1++((thrX (c.args.getD i (.node 0 0 [])) (c.recs.getD i zeroRc).ar.length pars (own.take i)).2.1++
            [applyT (liftX (own.getD i (.node 0 0 [])) (thrX (c.args.getD i (.node 0 0 [])) (c.recs.getD i zeroRc).ar.length pars (own.take i)).1.length 0).1 (varsT (thrX (c.args.getD i (.node 0 0 [])) (c.recs.getD i zeroRc).ar.length pars (own.take i)).1.length)])))
     else((.node 0 0 []),2))
  else((.node 0 0 []),(thrX (c.args.getD i (.node 0 0 [])) (c.recs.getD i zeroRc).ar.length pars (own.take i)).2.2)
theorem stepR_of {κ:Int} {c:CoT} {pars own front:List TM} {i:Nat} {a x:TM} {n:Nat} {L D:List TM} {e:Int} (ha:c.args.getD i (.node 0 0 [])=a) (hn:(c.recs.getD i zeroRc).ar.length=n) (hx:own.getD i (.node 0 0 [])=x) (h:thrX a n pars (own.take i)=(L,D,e)):
  stepR κ c pars own front i=if e=0 then(if errL L.length 0 (front++[x])=0 then laidX κ L (applyT ((mapL L.length 0 front).getD 0 (.node 0 0 [])) ((mapL L.length 0 front).drop 1++(D++[applyT (liftX x L.length 0).1 (varsT L.length)])))else((.node 0 0 []),2))else((.node 0 0 []),e):=by
 unfold stepR;rw[ha,hn,hx,h]
def isR (c:CoT) (i:Nat):Bool:=(c.recs.getD i zeroRc).is
def recL (κ:Int) (c:CoT) (pars own front:List TM):Nat→List TM
 | 0=>[]
 | i+1=>if isR c i then recL κ c pars own front i++[(stepR κ c pars own front i).1]else recL κ c pars own front i
def recOk (κ:Int) (c:CoT) (pars own front:List TM) (n:Nat):Prop:=∀i,i<n→isR c i=true→(stepR κ c pars own front i).2=0
theorem recOk_yes {κ:Int} {c:CoT} {pars own front:List TM} {n:Nat} (h:recOk κ c pars own front n) (h1:isR c n=true→(stepR κ c pars own front n).2=0):recOk κ c pars own front (n+1):=fun i hi hr=>by
 by_cases e:i<n
 ·exact h i e hr
 ·obtain rfl:i=n:=by omega
  exact h1 hr
theorem recL_len (κ:Int) (c:CoT) (pars own front:List TM):∀n,(recL κ c pars own front n).length≤n
 | 0=>by rw[recL];exact Nat.le_refl _
 | n+1=>by
  have:=recL_len κ c pars own front n;rw[recL];split
  ·rw[List.length_append];simp;omega
  ·omega
def RcrE (κ:Int) (c:CoT) (pars own front:List TM) (q:Int):Prop:=∃i,i<c.recs.length∧isR c i=true∧recOk κ c pars own front i∧(stepR κ c pars own front i).2=q∧q≠0
def GivesRr (κ:Int) (c:CoT) (pars own front:List TM) (w:World) (e:Ending) (w':World):Prop:=
  ((recOk κ c pars own front c.recs.length∧∃A d,e= .returned (.tuple #[.slice A (recL κ c pars own front c.recs.length).length d,.int .i64 0])∧IsTerms w' 0 w'.heap.size (recL κ c pars own front c.recs.length) A d)∨
   (¬ recOk κ c pars own front c.recs.length∧∃q:Int,RcrE κ c pars own front q∧e= .returned (.tuple #[.slice none 0 0,.int .i64 q])))∧Below w.heap.size w w'
def RcrRel (κ:Int) (c:CoT) (pars own front:List TM) (w:World) (nv iv:Value) (wr:World):Prop:=
 ∃(i:Nat) (ps:List (TM×Option Addr×Nat)) (P:Nat→Prop),i≤c.recs.length∧iv= .int .i64 i∧Below w.heap.size w wr∧
  TermRow wr w.heap.size 25 nv ps P∧(∀b,P b→w.heap.size≤b)∧ps.map (·.1)=recL κ c pars own front i∧recOk κ c pars own front i
def LayOk (κ:Int) (lay:Value):Prop:=∀(l:List TM) (L:Option Addr) (capL:Nat) (t:TM) (A:Option Addr) (cap:Nat) (w:World),IsTerms w 0 w.heap.size l L capL→IsTerm w 0 w.heap.size t A cap→ShapesM w→
  Calls prog 174 #[lay,.slice L l.length capL,termV t A cap] w (GivesT (laidX κ l t) w)
theorem all_tuple {ts:List TM} {k n:Int} {w w':World} {e:Ending} (h:AllIs ts k n w e w'):∃v,e= .returned (.tuple #[v,.int .i64 (errL k n ts)])∧(errL k n ts=0→∃A c,v= .slice A ts.length c∧IsTerms w' 0 w'.heap.size (mapL k n ts) A c)∧Below w.heap.size w w':=by
 obtain⟨h1,h2⟩:=h;rcases h1 with ⟨h0,A,c,rfl,ht⟩|⟨h0,rfl⟩
 ·exact⟨_,by rw[h0],fun _=>⟨A,c,rfl,ht.wide (Nat.zero_le _) lrIoRcr⟩,h2⟩
 ·exact⟨_,rfl,fun q=>absurd q h0,h2⟩
theorem recs_at (l:List ET) (m:Nat) {i:Nat} (h:i<(partsAt l m).recs.length):(partsAt l m).recs.getD i zeroRc=(partsAt l m).recs[i]:=by
 rw[List.getD_eq_getElem?_getD,List.getElem?_eq_getElem h];rfl
theorem src_of_bk {w:World} {g:Nat} {e:TypeId} {p:TM×Option Addr×Nat} (h:Bk w g e #[.int .i64 p.1.k,.int .i64 p.1.n,.slice p.2.1 p.1.l.length p.2.2]):Src w 3 (some ⟨g,0,none⟩) 1 (cellsM p):=
 ⟨rfl,fun _=>⟨⟨g,0,none⟩,rfl,fun j u hj=>by
  rw[Addr.add_lit,Nat.zero_add,h.cell]
  match j,hj with
  | 0,hj=>exact hj
  | 1,hj=>exact hj
  | 2,hj=>exact hj
  | j+3,hj=>simp[cellsM]at hj⟩⟩
theorem row_app {V w':World} {base:Nat} {a Xa:Option Addr} {c Xc:Nat} {ps:List (TM×Option Addr×Nat)} {P Pn:Nat→Prop} {x:TM} {v':Value} (h:TermRow V base 25 (.slice a ps.length c) ps P) (hx:TermIn V Pn x Xa Xc) (hPn:∀b,Pn b→b<base) (hb:base≤V.heap.size)
    (ha:AppTo V base 25 3 (.slice a ps.length c) (ps.length+1) (flatM ps++cellsM (x,Xa,Xc)) v' w'):
    ∃a4 c4,v'= .slice a4 (ps.length+1) c4∧IsTerms w' 0 w'.heap.size (ps.map (·.1)++[x]) a4 c4∧∀W:World,Below W.heap.size W V→W.heap.size≤base→Below W.heap.size W w':=by
  obtain⟨h1,h2,h3⟩:=ha;obtain⟨a4,c4,rfl⟩:=own_sliceM h1;have hlt:=h.row.lt;have hr:=h.push (Pn:=Pn) (p:=(x,Xa,Xc)) hx (fun b hb'=>⟨by have:=hPn b hb';omega,fun e=>by have:=hlt b e;have:=hPn b hb';omega⟩) h1 h2 h3;refine⟨a4,c4,rfl, ?_,fun W hW hWb=>hW.grown h2 (by omega) (fun g e=>by have:=hlt g e;omega)⟩;have hpar:=TermRow.parent (ps:=ps++[(x,Xa,Xc)]) (A:=a4) (cap:=c4) (lo:=0) (by rw[List.length_append];exact hr) (Nat.zero_le _) (fun _ _=>Nat.zero_le _) 0 0;rw[List.map_append]at hpar;exact hpar
set_option maxHeartbeats 16000000 in
theorem recurring_any (κ:Int) (lay:Value) (hlay:LayOk κ lay) (l:List ET) (A B:Option Addr) (cap bap hi g m:Nat) (hm:m<l.length) (pars own front:List TM) (Pa Oa Fa:Option Addr) (pc oc fc:Nat) (w:World) (hr:RulesAt w hi g l A B cap bap) (hk:l[m].k=2)
    (hp:IsTerms w 0 w.heap.size pars Pa pc) (ho:IsTerms w 0 w.heap.size own Oa oc) (hf:IsTerms w 0 w.heap.size front Fa fc) (hlp:pars.length≤100) (hlo:own.length=(partsAt l m).args.length) (hlo2:own.length≤100) (hlf:1≤front.length) (hlf2:front.length≤200) (hla:(partsAt l m).recs.length=(partsAt l m).args.length)
    (h24:∀i (h:i<(partsAt l m).recs.length),(partsAt l m).recs[i].ar.length≤24)
    (hok:∀i (h:i<(partsAt l m).recs.length) (h2:i<(partsAt l m).args.length),(partsAt l m).recs[i].is=true→ThrOk (partsAt l m).args[i] (partsAt l m).recs[i].ar.length pars (own.take i)) (hS:ShapesM w):
    Calls prog 144 #[.pointer (some ⟨g,0,none⟩),.int .i64 m,.slice Pa pars.length pc,.slice Oa own.length oc,.slice Fa front.length fc,lay] w (GivesRr κ (partsAt l m) pars own front w):=by
  obtain⟨i0,hi0,hz0,hz1,hz2⟩:=info_parts infoM;have hlen2:=formed_len hr.fm;have hhl:=hr.hl;have hgl:=hr.gl;have HRR:=hid (fun V (hV:Below w.heap.size w V)=>hr.below hV);have HSS:=hid (fun V (hV:Below w.heap.size w V)=>hS.kept hV);have HPP:=hid hp;have HOO:=hid ho;have HFF:=hid hf;obtain⟨b,o,v0,v1,v2,hB,hbl,k0,k1,k2,F0,C0,G0,D0,H0,E0,rfl,rfl,rfl,ha, -,hrec,hrl,hrm⟩:=hr.con hm hk;unfold maxLen at hrm;have CTH:=hid (fun V (hV:Below w.heap.size w V) (i:Nat) (h1:i<(partsAt l m).args.length) (h2:i<(partsAt l m).recs.length) (h3:(partsAt l m).recs[i].is=true)=>(show Calls prog 172 #[.pointer (some ⟨g,0,none⟩),.int .i64 m,.int .i64 i,.slice Pa pars.length pc,.slice Oa i oc] V (GivesTh (thrX (partsAt l m).args[i] (partsAt l m).recs[i].ar.length pars (own.take i)) V)from by
    have hti:(own.take i).length=i:=by rw[List.length_take];omega
    have:=through_any l A B cap bap hi g m i hm pars (own.take i) Pa Oa pc oc V (hr.below hV) hk ((hp.kept hV lrIoRcr).wide lrIoRcr hV.size) (IsTerms.take ((ho.kept hV lrIoRcr).wide lrIoRcr hV.size) i) (by rw[hti];omega) h1 h2 (h24 i h2) (hok i h2 h1 h3) (hS.kept hV);rw[hti]at this;exact this))
  have HREC:=hid hrec;have HOKT:=hid hok;have H24:=hid h24;have HCL:=hid (fun V (hV:Below w.heap.size w V)=>(show V.cell? ⟨g,1,none⟩=some (.slice (some ⟨b,o,none⟩) l.length bap)∧V.cell? ⟨b,o+m*3+2,none⟩=some (.slice H0 (partsAt l m).recs.length E0)from by
    have hV2:=hV.mono hhl;have h1:=(hr.below hV).c1;rw[hB]at h1;exact⟨h1,(hV2.cell (p:=⟨b,_,none⟩) hbl).trans k2⟩))
  have HLY:=hid hlay;have hgw:g<w.heap.size:=by omega
  have hbw:b<w.heap.size:=by omega
  have hm0:(m:Int)<(l.length:Int):=by omega
  have hm1:(m:Int)≤256:=by omega
  obtain⟨t0,t1⟩:=HCL.out _ (Below.refl _ _);have HLO:=hid hlo;have HLA:=hid hla;have hmax:(partsAt l m).recs.length≤100:=by omega
  obtain⟨c,hc⟩:∃c,partsAt l m=c:=⟨_,rfl⟩;have HRA:=hid (fun(i:Nat) (h:i<(partsAt l m).recs.length)=>recs_at l m h);rw[hc]at t1 HLO HLA hmax⊢;obtain⟨nr,hnr⟩:∃n,c.recs.length=n:=⟨_,rfl⟩;have HNR:=hid hnr;rw[hnr]at t1 hmax;have HCC:=hid hc;have HLF:=hid hlf;have HLF2:=hid hlf2;have HLO2:=hid hlo2;have HHH:=hid hhl;clear hr hS hp ho hf k0 k1 k2 ha hrec hlay hok h24 hlo hla hc hnr hhl hlf hlf2 hlo2 hlp;go_enter func144,ntmps144;go_wp2_with fail;go_loopw [14,34] (RcrRel κ c pars own front w) (fun _ iv _=>c.recs.length - (intOf iv).toNat)
  case atStart=>exact⟨0,[],fun _=>False,Nat.zero_le _,rfl,Below.refl _ _,TermRow.nil _ _ _,fun _ h=>h.elim,rfl,fun i hi=>absurd hi (Nat.not_lt_zero _)⟩
  case round=>
    obtain⟨i,ps,P,hi1,rfl,hB2,hrow,hP,hpl,hok⟩:=hrel;have hz:=hB2.size;obtain⟨a1,c1,rfl⟩:=own_sliceM hrow.row;have HROW:=hid hrow;have HPP2:=hid hP;have HPL:=hid hpl;have HOK:=hid hok;have HBB:=hid hB2;have hpm:ps.length≤100:=by
      have h1:ps.length=(recL κ c pars own front i).length:=by rw[←hpl,List.length_map]
      have h2:=recL_len κ c pars own front i;have h3:=HNR.out;omega
    rw[HNR.out]at hi1;clear hrow hP hpl hok;by_cases hil:i<nr
    · have hil2:i<(partsAt l m).recs.length:=by rw[HCC.out,HNR.out];exact hil
      have hil3:i<(partsAt l m).args.length:=by rw[HCC.out,←HLA.out,HNR.out];exact hil
      obtain⟨b2,o2,u1,u2,hH0, -,hb2l,r0,r1,r2,F3,C3,G3,D3,hu1,hu2, -, -⟩:=HREC.out i hil2;have hV2:=hB2.mono HHH.out;have r0':=(hV2.cell (p:=⟨b2,_,none⟩) hb2l).trans r0;have r1':=(hV2.cell (p:=⟨b2,_,none⟩) hb2l).trans r1;have r2':=(hV2.cell (p:=⟨b2,_,none⟩) hb2l).trans r2;subst hu1;subst hu2;subst hH0;have hi2':(i:Int)<(nr:Int):=by omega
      have hi3':(0:Int)≤(i:Int):=by omega
      have hbw2:b2<wr.heap.size:=by have:=HHH.out;omega
      have hisr:(partsAt l m).recs[i].is=isR c i:=by unfold isR;rw[←HCC.out,recs_at l m hil2]
      rw[hisr]at r0';have CTI:=hid (fun V (hV:Below w.heap.size w V) (h3:isR c i=true)=>CTH.out V hV i hil3 hil2 (hisr.trans h3));have hokt:isR c i=true→ThrOk (partsAt l m).args[i] (partsAt l m).recs[i].ar.length pars (own.take i):=fun h3=>HOKT.out i hil2 hil3 (hisr.trans h3);have hni24:(partsAt l m).recs[i].ar.length≤24:=H24.out i hil2;obtain⟨ai,hai⟩:∃ai,(partsAt l m).args[i]=ai:=⟨_,rfl⟩;rw[hai]at hokt;have HAI:=hid (show c.args.getD i (.node 0 0 [])=ai from by rw[←HCC.out,List.getD_eq_getElem?_getD,List.getElem?_eq_getElem hil3];exact hai);have HNI:=hid (show(c.recs.getD i zeroRc).ar.length=(partsAt l m).recs[i].ar.length from by rw[←HCC.out,recs_at l m hil2]);rw[hai]at CTI;obtain⟨ni,hni⟩:∃ni,(partsAt l m).recs[i].ar.length=ni:=⟨_,rfl⟩;obtain⟨ki,hki⟩:∃ki,(partsAt l m).recs[i].ix.length=ki:=⟨_,rfl⟩;rw[hni]at CTI HNI r1' hokt hni24;rw[hki]at r2';have hio:i<own.length:=by have:=HLO.out;have:=HLA.out;have:=HNR.out;omega
      obtain⟨bo,oo,Xa,Xc,hOa, -,hbo,hxo,hto⟩:=HOO.out.sub i hio;subst hOa;obtain⟨x,hx⟩:∃x,own[i]=x:=⟨_,rfl⟩;have HXI:=hid (show own.getD i (.node 0 0 [])=x from by rw[List.getD_eq_getElem?_getD,List.getElem?_eq_getElem hio];exact hx);rw[hx]at hxo hto;have HTO:=hid hto;have HXO:=hid hxo;obtain⟨q,hq⟩:∃q,isR c i=q:=⟨_,rfl⟩;have hrec1:recL κ c pars own front (i+1)=if isR c i then recL κ c pars own front i++[(stepR κ c pars own front i).1]else recL κ c pars own front i:=by rw[recL]
      rw[hq]at r0' CTI hrec1 hokt;have HQ:=hid hq;have HR1:=hid hrec1;clear r0 r1 r2 hisr hai hni hki hx hq hrec1 hxo hto;cases q with
      | false=>
        clear CTI;go_wp2_with fail;go_roundw
        case rel=>
          refine⟨i+1,ps,P,by have:=HNR.out;omega,by go_num,HBB.out.alloc hz _,HROW.out.alloc _,HPP2.out,by rw[HR1.out,HPL.out];rfl,recOk_yes HOK.out (fun h=>by rw[HQ.out]at h;cases h)⟩
        case measure=>have:=HNR.out;simp[intOf];omega
      | true=>
        obtain⟨th1,th2,the,hth⟩:∃a b c,thrX ai ni pars (own.take i)=(a,b,c):=⟨_,_,_,rfl⟩;have HST:=hid (stepR_of (κ:=κ) (front:=front) HAI.out HNI.out HXI.out hth);obtain⟨sx,se,hse⟩:∃a b,stepR κ c pars own front i=(a,b):=⟨_,_,rfl⟩;rw[hse]at HST HR1;have HSE:=hid hse;have CT1:=hid (fun V (hV:Below w.heap.size w V)=>CTI.out V hV rfl);rw[hth]at CT1;unfold GivesTh at CT1;simp only at CT1;have hioc:i≤oc:=by have:=HOO.out.bounds.1;omega
        have hioc':(i:Int)≤(oc:Int):=by omega
        have hiol:(i:Int)<(own.length:Int):=by omega
        have hiol':(i:Int)≤(own.length:Int):=by omega
        have HTL:=hid (fun(h:the=0)=>(show th1.length=ni from by subst h;exact thr_len (hokt rfl) hth));obtain⟨n,hn⟩:∃n,th1.length=n:=⟨_,rfl⟩;rw[hn]at CT1 HST HTL;have HN:=hid hn;obtain⟨X,hX⟩:∃X,wr.alloc (.cells #[.bool true,.slice F3 ni C3,.slice G3 ki D3] 204)=X:=⟨_,rfl⟩;have HBX:=hid (show Below wr.heap.size wr X from by rw[←hX];exact(Below.refl _ _).alloc lrIoRcr _);have hbx0:X.cell? ⟨wr.heap.size,0,none⟩=some (.bool true):=by rw[←hX];exact(Bk.new wr 204 _).cell 0
        have CT2:=hid (CT1.out X (HBB.out.trans (HBX.out.mono hz)));clear hth hse CTI CT1 HREC CTH hn hokt;go_wp2_with fail;refine CT2.out.mono ?_;rintro e w2 ⟨A1,d1,A2,d2,rfl,hl1,hl2,hb2⟩;have HB2:=hid (trIoRcr HBX hb2);have HL1:=hid hl1;have HL2:=hid hl2;have hzw2:=HB2.out.size;clear hb2 hl1 hl2 CT2 hX r0' r1' r2' hbx0;by_cases h0:the=0
        case neg=>
          have q0:(the !=0)=true:=by simpa using h0
          have HNO:=hid (show ¬ recOk κ c pars own front c.recs.length from fun h=>by
            have:=h i (by rw[HNR.out];exact hil) HQ.out;rw[HSE.out,HST.out,if_neg h0]at this;exact h0 this)
          have HH0:=hid (show RcrE κ c pars own front the from⟨i,by rw[HNR.out];exact hil,HQ.out,HOK.out,by rw[HSE.out,HST.out,if_neg h0],h0⟩);clear h0;go_wp2_with fail;go_ret2;exact⟨.inr ⟨HNO.out,the,HH0.out,rfl⟩,HBB.out.trans (HB2.out.mono hz)⟩
        have q0:(the !=0)=false:=by rw[h0];rfl
        subst h0;rw[if_pos rfl]at HST;have hn24:n≤24:=by have:=HTL.out rfl;omega
        have hn24':(n:Int)≤24:=by omega
        obtain⟨E,hE⟩:∃E,errL n 0 (front++[x])=E:=⟨_,rfl⟩;rw[hE]at HST;have CCl:=hid (fun V (hV:Below w.heap.size w V)=>cloneM_any front Fa fc V ((HFF.out.kept hV lrIoRcr).wide lrIoRcr hV.size) (by have:=HLF2.out;omega));have CAl:=hid (fun V (hV:Below w.heap.size w V) (A':Option Addr) (c':Nat) (h:IsTerms V 0 V.heap.size (front++[x]) A' c')=>(all_any (front++[x]) n 0 0 V.heap.size A' c' V h lrIoRcr (HSS.out V hV) (by rw[List.length_append];simp;have:=HLF2.out;omega)).mono fun _ _ h=>all_tuple h);have hNl:(front++[x]).length=front.length+1:=by rw[List.length_append];rfl
        rw[hNl,hE]at CAl;have hN2:1≤front.length:=by have:=HLF.out;omega
        have hN9:front.length≤200:=by have:=HLF2.out;omega
        have HKO:=hid (fun V (hV:Below w.heap.size w V)=>(show V.cell? ⟨bo,oo+i*3,none⟩=some (.int .i64 x.k)∧V.cell? ⟨bo,oo+i*3+1,none⟩=some (.int .i64 x.n)∧V.cell? ⟨bo,oo+i*3+2,none⟩=some (.slice Xa x.l.length Xc)from by
          obtain⟨a0,a1,a2⟩:=HXO.out.kept hV hbo;exact⟨a0,a1,a2⟩))
        have HB0:=hid (HBB.out.trans (HB2.out.mono hz));have HKO2:=hid (fun V (hV:Below w2.heap.size w2 V)=>HKO.out V (trIoRcr HB0 hV));have CCl2:=hid (fun V (hV:Below w2.heap.size w2 V)=>CCl.out V (trIoRcr HB0 hV));have CAl2:=hid (fun V (hV:Below w2.heap.size w2 V)=>CAl.out V (trIoRcr HB0 hV));have HTX:=hid (fun V (hV:Below w2.heap.size w2 V)=>(show TermIn V (fun b=>b<w.heap.size) x Xa Xc from TermIn.imp (fun _ _ _=>rfl) (fun b hb=>hb.2) (HTO.out.kept (trIoRcr HB0 hV) lrIoRcr)));unfold CloneIs at CCl2;obtain⟨s0,s1,s2⟩:=HKO2.out _ (Below.refl _ _);have hbow:bo<w2.heap.size:=by have:=HB0.out.size;omega
        have HWW2:=hid HB0.out.size;have hbk0:=hid (show Below w2.heap.size w2 w2.drew from(Below.refl _ _).drew);clear hE CCl CAl hNl;go_wp2_with fail;go_upto_region 10 with fail
        go_cut [19,21]from 59 to 71 (fun s19 s21 wx=>s19= .int .i64 E∧(E=0→∃A c,s21= .slice A (front.length+1) c∧IsTerms wx 0 wx.heap.size (mapL n 0 (front++[x])) A c)∧Below w2.heap.size w2 wx)
        case first=>
          go_region_held3 (fun w'=>w'.cell? ⟨bo,oo+i*3,none⟩=some (.int .i64 x.k)∧w'.cell? ⟨bo,oo+i*3+1,none⟩=some (.int .i64 x.n)∧w'.cell? ⟨bo,oo+i*3+2,none⟩=some (.slice Xa x.l.length Xc))
            ((refine(HKO2.out _ ?_);repeat (first|with_reducible exact hbA.out|with_reducible exact hbP.out|with_reducible exact hbC.out|with_reducible exact hbk0.out|with_reducible exact Below.refl _ _|with_reducible refine Below.al ?_ _|with_reducible refine Below.dr ?_|with_reducible refine Below.st ?_ (by first|omega|(simp<;>omega)) _)))
            (first
            | (go_at_call 123
               refine(CCl2.out _ (by repeat (first|with_reducible exact hbk0.out|with_reducible exact Below.refl _ _|with_reducible refine Below.al ?_ _|with_reducible refine Below.dr ?_|with_reducible refine Below.st ?_ (by first|omega|(simp<;>omega)) _))).mono ?_;rintro e w3 ⟨a3,c3,ps3,rfl,hrow3,hps3,hb3⟩;have hbC:=hid (by first|exact trIoRcr hbk0 hb3|exact(hbk0.out.alloc hbk0.out.size _).trans (hb3.mono (hbk0.out.alloc hbk0.out.size _).size));have hzC:=hbC.out.size;have hzD:=hb3.size;simp at hzD;have HROW3:=hid hrow3;have hpl3:ps3.length=front.length:=by rw[←hps3,List.length_map]
               have HPS3:=hid hps3;have HPL3:=hid hpl3
               first
               | (have hsrc:=hid (src_of_bk (p:=(x,Xa,Xc)) (Bk.below (show Bk _ w2.heap.size 25 #[.int .i64 x.k,.int .i64 x.n,.slice Xa x.l.length Xc]from Bk.last w2.drew _ _ (by simp)) hb3 (by simp))))
               | skip
               clear hrow3 hps3 hb3 hpl3)
            | (go_at_call 173
               refine(CAl2.out _ hbP.out a4 c4 HA4.out).mono ?_;rintro e w5 ⟨v5,rfl,hv5,hb5⟩;have hbA:=hid (trIoRcr hbP hb5);have HV5:=hid hv5;clear hv5 hb5)
            | (refine step_app rfl (.tmp 61) (.tmp 66) 23 rfl _ 25 i0 (.agg #[.int .i64 0,.int .i64 0,.slice none 0 0]) 3 40 Tryz.underlying23 hi0 hz0 hz1 hz2 rfl (by decide) (.slice a3 ps3.length c3) ps3.length (flatM ps3) rfl (HROW3.out.alloc _).row (some ⟨w3.heap.size,0,none⟩) 1 1 (cellsM (x,Xa,Xc)) rfl (src_at _ _ _ (by simp) rfl) (cellsM_one _) (by have:=HPL3.out;unfold maxLen;omega) (by have:=HPL3.out;omega) (by simp;omega) ?_
               rintro v4 w4 ha4;obtain⟨a4,c4,rfl,hA4,hB4⟩:=row_app (HROW3.out.alloc _) (HTX.out _ (hbC.out.alloc hbC.out.size _)) (fun b hb=>by have:=HWW2.out;simp<;>omega) (by simp;omega) ha4;have hbP:=hid (hB4 w2 (hbC.out.alloc hbC.out.size _) (by simp<;>omega));rw[HPL3.out];rw[HPS3.out]at hA4;have HA4:=hid hA4;clear ha4 hA4 hB4)
            | (refine step_app rfl (.tmp 61) (.tmp 66) 23 rfl _ 25 i0 (.agg #[.int .i64 0,.int .i64 0,.slice none 0 0]) 3 40 Tryz.underlying23 hi0 hz0 hz1 hz2 rfl (by decide) (.slice a3 ps3.length c3) ps3.length (flatM ps3) rfl HROW3.out.row (some ⟨w2.heap.size,0,none⟩) 1 1 (cellsM (x,Xa,Xc)) rfl hsrc.out (cellsM_one _) (by have:=HPL3.out;unfold maxLen;omega) (by have:=HPL3.out;omega) (by simp;omega) ?_
               rintro v4 w4 ha4;obtain⟨a4,c4,rfl,hA4,hB4⟩:=row_app HROW3.out (HTX.out _ hbC.out) (fun b hb=>by have:=HWW2.out;simp<;>omega) (by simp;omega) ha4;have hbP:=hid (hB4 w2 hbC.out (by simp<;>omega));rw[HPL3.out];rw[HPS3.out]at hA4;have HA4:=hid hA4;clear ha4 hA4 hB4))
          all_goals
            go_wp2_with fail;go_meet;case rel=>exact⟨rfl,HV5.out,hbA.out⟩
        case rest=>
          obtain⟨wj,rfl⟩:∃wj:World,wj=wc:=⟨_,rfl⟩;obtain⟨rfl,hv,hbj⟩:=hcut;have HBJ:=hid (trIoRcr HB0 hbj);have HB2J:=hid hbj;have hzj:=HBJ.out.size;clear CCl2 CAl2 HKO2 HKO hbk0 s0 s1 s2 hbj;by_cases hE0:E=0
          case neg=>
            have q1:(E !=0)=true:=by simpa using hE0
            have HNO:=hid (show ¬ recOk κ c pars own front c.recs.length from fun h=>by
              have:=h i (by rw[HNR.out];exact hil) HQ.out;rw[HSE.out,HST.out,if_neg hE0]at this;simp at this)
            have HH0:=hid (show RcrE κ c pars own front 2 from⟨i,by rw[HNR.out];exact hil,HQ.out,HOK.out,by rw[HSE.out,HST.out,if_neg hE0],by decide⟩);clear hE0 hv;go_wp2_with fail;go_ret2;exact⟨.inr ⟨HNO.out,2,HH0.out,rfl⟩,HBJ.out⟩
          have q1:(E !=0)=false:=by rw[hE0];rfl
          obtain⟨A5,c5,rfl,hlf5⟩:=hv hE0;rw[if_pos hE0]at HST;have hfl:mapL n 0 (front++[x])=mapL n 0 front++[(liftX x n 0).1]:=by unfold mapL;rw[List.map_append];rfl
          rw[hfl]at hlf5;obtain⟨fl,hfle⟩:∃fl,mapL n 0 front=fl:=⟨_,rfl⟩;obtain⟨la,hla⟩:∃la,(liftX x n 0).1=la:=⟨_,rfl⟩;have hfll:fl.length=front.length:=by rw[←hfle];unfold mapL;rw[List.length_map]
          rw[hfle,hla]at hlf5 HST;have hl5b:=hlf5.bounds.1;rw[List.length_append,hfll]at hl5b;simp only[List.length_cons,List.length_nil]at hl5b;obtain⟨b5,o5,La,Lc,hA5, -,hb5l,hx5,ht5⟩:=hlf5.sub front.length (by rw[List.length_append,hfll];simp);subst hA5;obtain⟨b5',o5',Ha,Hc,hA5', -,hb5l',hx0,ht0⟩:=hlf5.sub 0 (by rw[List.length_append,hfll];simp);obtain⟨rfl,rfl⟩:b5=b5'∧o5=o5':=by
            injection hA5' with q;injection q with q1 q2;exact⟨q1,q2⟩
          have hgN:(fl++[la])[front.length]'(by rw[List.length_append,hfll];simp)=la:=by simp[hfll]
          rw[hgN]at hx5 ht5;obtain⟨f0,ft,hft⟩:∃f0 ft,fl=f0::ft:=by
            cases fl with
            | nil=>simp at hfll;omega
            | cons a r=>exact⟨a,r,rfl⟩
          subst hft;have hg0:((f0::ft)++[la])[0]'(by simp)=f0:=by simp
          rw[hg0]at hx0 ht0;have hftl:ft.length=front.length - 1:=by simp at hfll;omega
          have HFT:=hid (show IsTerms wj 0 wj.heap.size ft (some ⟨b5,o5+1*3,none⟩) (c5 - 1)from by
            have h1:=IsTerms.take hlf5 front.length;rw[show((f0::ft)++[la]).take front.length=f0::ft from by rw[List.take_append_of_le_length (by omega),List.take_of_length_le (by omega)]]at h1;have h2:=IsTerms.drop h1 1 (by simp);exact h2)
          have HLAT:=hid (show IsTerm wj 0 wj.heap.size la La Lc from ht5);have HF0T:=hid (show IsTerm wj 0 wj.heap.size f0 Ha Hc from ht0);have HSQ:Hid ((sx,se)=laidX κ th1 (applyT f0 (ft++(th2++[applyT la (varsT n)])))):=hid HST.out;have HXLA:=hid hx5;have HXF0:=hid hx0;have hNc:(front.length:Int)≤(c5:Int):=by omega
          have hNl1:(front.length:Int)<((front.length+1:Nat):Int):=by omega
          have hNl2:(front.length:Int)<(front.length:Int)+1:=by omega
          have hNl3:(front.length:Int)≤(front.length:Int)+1:=by omega
          have hN0':(0:Int)≤(front.length:Int):=by omega
          have hN3:(1:Int)≤(front.length:Int):=by omega
          have hN4:(0:Int)<(front.length:Int):=by omega
          have hN5:0<front.length:=by omega
          have hN6: ¬ front.length=0:=by omega
          have hc51: ¬ c5=1:=by omega
          have hc5i:(1:Int)≤(c5:Int):=by omega
          have HKN:=hid (fun V (hV:Below wj.heap.size wj V)=>(show V.cell? ⟨b5,o5+front.length*3,none⟩=some (.int .i64 la.k)∧V.cell? ⟨b5,o5+front.length*3+1,none⟩=some (.int .i64 la.n)∧V.cell? ⟨b5,o5+front.length*3+2,none⟩=some (.slice La la.l.length Lc)from by
            obtain⟨a0,a1,a2⟩:=HXLA.out.kept hV hb5l;exact⟨a0,a1,a2⟩))
          have hbk0:=hid (show Below wj.heap.size wj wj.drew from(Below.refl _ _).drew);obtain⟨s0,s1,s2⟩:=HKN.out _ (Below.refl _ _);clear hv hlf5 hfl hfle hla hx5 ht5 hx0 ht0 hA5' hgN hg0 hE0 HST;go_wp2_with fail;go_upto_region 13 with fail
          go_cut [22,23]from 74 to 82 (fun s22 s23 wx=>∃gv,s22= .slice (some ⟨b5,o5,none⟩) front.length c5∧s23= .pointer (some ⟨gv,0,none⟩)∧TBox wx gv la.k la.n (.slice La la.l.length Lc)∧Below wj.heap.size wj wx)
          case first=>
            go_region_held3 (fun w'=>w'.cell? ⟨b5,o5+front.length*3,none⟩=some (.int .i64 la.k)∧w'.cell? ⟨b5,o5+front.length*3+1,none⟩=some (.int .i64 la.n)∧w'.cell? ⟨b5,o5+front.length*3+2,none⟩=some (.slice La la.l.length Lc))
              ((refine(HKN.out _ ?_);repeat (first|with_reducible exact hbk0.out|with_reducible exact Below.refl _ _|with_reducible refine Below.al ?_ _|with_reducible refine Below.dr ?_|with_reducible refine Below.st ?_ (by first|omega|(simp<;>omega)) _)))
              (first|fail)
            all_goals
              go_wp2_with fail;go_meet;case rel=>exact⟨_,rfl,rfl,TBox.of (Bk.last _ _ _ (by simp)),(by repeat (first|with_reducible exact hbk0.out|with_reducible exact Below.refl _ _|with_reducible refine Below.al ?_ _|with_reducible refine Below.dr ?_|with_reducible refine Below.st ?_ (by first|omega|(simp<;>omega)) _))⟩
          case rest=>
            obtain⟨wk,rfl⟩:∃wk:World,wk=wc:=⟨_,rfl⟩;obtain⟨gl,rfl,rfl,htbl,hbl2⟩:=hcut;have HBK:=hid (trIoRcr HBJ hbl2);have HJK:=hid hbl2;have hzk:=hbl2.size;have HXB:=hid htbl;have CV:=hid (fun(V:World)=>vars_any n (by omega) V);obtain⟨x1,hx1⟩:∃x1,applyT la (varsT n)=x1:=⟨_,rfl⟩;obtain⟨y1,hy1⟩:∃y1,applyT f0 (ft++(th2++[x1]))=y1:=⟨_,rfl⟩;have HFT2:=hid (fun V (hV:Below wk.heap.size wk V)=>(show IsTerms V 0 wk.heap.size ft (some ⟨b5,o5+1*3,none⟩) (c5 - 1)from((HFT.out.kept (trIoRcr HJK hV) lrIoRcr).wide lrIoRcr hzk)));have HL22:=hid (fun V (hV:Below wk.heap.size wk V)=>(show IsTerms V 0 wk.heap.size th2 A2 d2 from((HL2.out.kept (HB2J.out.trans ((trIoRcr HJK hV).mono HB2J.out.size)) lrIoRcr).wide lrIoRcr (by have:=HB2J.out.size;omega))));have HL12:=hid (fun V (hV:Below wk.heap.size wk V)=>(show IsTerms V 0 wk.heap.size th1 A1 d1 from((HL1.out.kept (HB2J.out.trans ((trIoRcr HJK hV).mono HB2J.out.size)) lrIoRcr).wide lrIoRcr (by have:=HB2J.out.size;omega))));have HLA2:=hid (fun V (hV:Below wk.heap.size wk V)=>(show IsTerm V 0 V.heap.size la La Lc from((HLAT.out.kept (trIoRcr HJK hV) lrIoRcr).wide lrIoRcr (by have:=hV.size;omega))));have HF02:=hid (fun V (hV:Below wk.heap.size wk V)=>(show IsTerm V 0 V.heap.size f0 Ha Hc from((HF0T.out.kept (trIoRcr HJK hV) lrIoRcr).wide lrIoRcr (by have:=hV.size;omega))));have CA1:=hid (fun(V:World) (g2:Nat) (e2:TypeId) (Av:Option Addr) (cv:Nat) (hV:Below wk.heap.size wk V) (hv:IsTerms V 0 V.heap.size (varsT n) Av cv) (hb2:Bk V g2 e2 #[.slice Av (varsT n).length cv])=>(show Calls prog 148 #[.agg #[.int .i64 la.k,.int .i64 la.n,.slice La la.l.length Lc],.slice (some ⟨g2,0,none⟩) 1 1] V (GivesA x1 V)from by
              have hls:LsAt V V.heap.size g2 [(varsT n,Av,cv)]:=LsAt.of (e:=e2) hb2 lrIoRcr (fun p hp=>by
                simp only[List.mem_cons,List.not_mem_nil,or_false]at hp;subst hp;exact hv)
              have:=appd_any la La Lc _ V.heap.size g2 V (HLA2.out V hV) hls (by simp);rw[show flatL [(varsT n,Av,cv)]=varsT n from by unfold flatL;simp,hx1]at this;exact this))
            have CA2:=hid (fun(V:World) (g2 g3:Nat) (e2 e3:TypeId) (Ax:Option Addr) (cx:Nat) (hV:Below wk.heap.size wk V) (hxt:IsTerm V 0 V.heap.size x1 Ax cx) (hb3:Bk V g3 e3 #[.slice (some ⟨b5,o5+1*3,none⟩) ft.length (c5 - 1),.slice A2 th2.length d2,.slice (some ⟨g2,0,none⟩) 1 1]) (hb2:Bk V g2 e2 #[.int .i64 x1.k,.int .i64 x1.n,.slice Ax x1.l.length cx])=>(show Calls prog 148 #[.agg #[.int .i64 f0.k,.int .i64 f0.n,.slice Ha f0.l.length Hc],.slice (some ⟨g3,0,none⟩) 3 3] V (GivesA y1 V)from by
              have hls:LsAt V V.heap.size g3 [(ft,some ⟨b5,o5+1*3,none⟩,c5 - 1),(th2,A2,d2),([x1],some ⟨g2,0,none⟩,1)]:=LsAt.of (e:=e3) hb3 lrIoRcr (fun p hp=>by
                simp only[List.mem_cons,List.not_mem_nil,or_false]at hp;rcases hp with rfl|rfl|rfl
                · exact(HFT2.out V hV).wide lrIoRcr hV.size
                · exact(HL22.out V hV).wide lrIoRcr hV.size
                · exact one_in hxt hb2 ⟨Nat.zero_le _,hb2.lt⟩ 0 0)
              have:=appd_any f0 Ha Hc _ V.heap.size g3 V (HF02.out V hV) hls (by simp);rw[show flatL [(ft,some ⟨b5,o5+1*3,none⟩,c5 - 1),(th2,A2,d2),([x1],some ⟨g2,0,none⟩,1)]=ft++(th2++[x1])from by unfold flatL;simp,hy1]at this;exact this))
            have CL:=hid (fun V (hV:Below wk.heap.size wk V) (Ay:Option Addr) (cy:Nat) (hyt:IsTerm V 0 V.heap.size y1 Ay cy)=>(show Calls prog 174 #[lay,.slice A1 n d1,.agg #[.int .i64 y1.k,.int .i64 y1.n,.slice Ay y1.l.length cy]] V (GivesT (sx,se) V)from by
              have:=HLY.out th1 A1 d1 y1 Ay cy V ((HL12.out V hV).wide lrIoRcr hV.size) hyt (HSS.out V (trIoRcr HBK hV));rw[←hy1,←hx1,←HSQ.out,HN.out]at this;rw[←hy1,←hx1];exact this))
            unfold GivesR at CV;rw[varsT_len]at CV CA1;rw[hftl]at CA2;unfold GivesA termV at CA1 CA2;unfold GivesT termV at CL;simp only[Nat.one_mul]at CA2;have HK14:=hid (fun V (hV:Below wk.heap.size wk V)=>(show V.cell? ⟨b5,o5,none⟩=some (.int .i64 f0.k)∧V.cell? ⟨b5,o5+1,none⟩=some (.int .i64 f0.n)∧V.cell? ⟨b5,o5+2,none⟩=some (.slice Ha f0.l.length Hc)∧V.cell? ⟨gl,0,none⟩=some (.int .i64 la.k)∧V.cell? ⟨gl,1,none⟩=some (.int .i64 la.n)∧V.cell? ⟨gl,2,none⟩=some (.slice La la.l.length Lc)from by
              obtain⟨a0,a1,a2⟩:=HXF0.out.kept (trIoRcr HJK hV) hb5l';obtain⟨l0,l1,l2,_⟩:=HXB.out.kept hV HXB.out.lt;rw[Nat.zero_mul,Nat.add_zero]at a0 a1 a2;exact⟨a0,a1,a2,l0,l1,l2⟩))
            have hbk1:=hid (show Below wk.heap.size wk wk.drew from(Below.refl _ _).drew);obtain⟨s0,s1,s2,l0,l1,l2⟩:=HK14.out _ (Below.refl _ _);have hgl2:=HXB.out.lt;have hb5k:b5<wk.heap.size:=by omega
            clear htbl hbl2 hx1 hy1 hbk0 HFT HL1 HL2 HKN;go_wp2_with fail;go_upto_region 14 with fail
            go_cut [19,24]from 83 to 102 (fun s19 s24 wx=>∃gv Ax cx,s19= .int .i64 se∧s24= .pointer (some ⟨gv,0,none⟩)∧TBox wx gv sx.k sx.n (.slice Ax sx.l.length cx)∧Below wk.heap.size wk wx∧IsTerm wx wk.heap.size wx.heap.size sx Ax cx)
            case first=>
              go_region_held3 (fun w'=>w'.cell? ⟨b5,o5,none⟩=some (.int .i64 f0.k)∧w'.cell? ⟨b5,o5+1,none⟩=some (.int .i64 f0.n)∧w'.cell? ⟨b5,o5+2,none⟩=some (.slice Ha f0.l.length Hc)∧w'.cell? ⟨gl,0,none⟩=some (.int .i64 la.k)∧w'.cell? ⟨gl,1,none⟩=some (.int .i64 la.n)∧w'.cell? ⟨gl,2,none⟩=some (.slice La la.l.length Lc))
                ((refine(HK14.out _ ?_);repeat (first|with_reducible exact hbF.out|with_reducible exact hbQ.out|with_reducible exact hbP.out|with_reducible exact hbC.out|with_reducible exact hbk1.out|with_reducible exact Below.refl _ _|with_reducible refine Below.al ?_ _|with_reducible refine Below.dr ?_|with_reducible refine Below.st ?_ (by first|omega|(simp<;>omega)) _)))
                (first
                | (go_at_call 175
                   refine(CV.out _).mono ?_;rintro e w3 ⟨Av,cv,rfl,hv3,hb3⟩;have hbC:=hid (by first|exact trIoRcr hbk1 hb3|exact(hbk1.out.alloc hbk1.out.size _).trans (hb3.mono (hbk1.out.alloc hbk1.out.size _).size));have hzC:=hbC.out.size
                   first
                   | (have hbz2:=hid (Bk.below hbz.out hb3 (by have:=hbz.out.lt;simp<;>omega));have hbz:=hbz2;clear hbz2)
                   | (have hbz:Hid (Bk w3 (wk.heap.size) 25 #[.int .i64 0,.int .i64 0,.slice none 0 0]):=hid (Bk.below (show Bk _ (wk.heap.size) 25 #[.int .i64 0,.int .i64 0,.slice none 0 0]from(Bk.last wk.drew 25 #[.int .i64 0,.int .i64 0,.slice none 0 0] (by simp))) hb3 (by simp<;>omega)))
                   | skip
                   first|have hlz:=hbz.out.lt|skip
                   have HV3:=hid hv3;clear hb3 hv3)
                | (go_at_call 174
                   refine(CL.out _ (by repeat (first|with_reducible exact hbQ.out|with_reducible exact Below.refl _ _|with_reducible refine Below.al ?_ _|with_reducible refine Below.dr ?_|with_reducible refine Below.st ?_ (by first|omega|(simp<;>omega)) _)) Ay cy (by first|exact HY5.out|exact(HY5.out.alloc lrIoRcr _).wide lrIoRcr (by simp))).mono ?_;rintro e w6 ⟨Ax,cx,rfl,hx6,hb6⟩;have hbF:=hid (by first|exact trIoRcr hbQ hb6|exact(hbQ.out.alloc hbQ.out.size _).trans (hb6.mono (hbQ.out.alloc hbQ.out.size _).size));have hzF:=hbF.out.size
                   first
                   | (have hbz2:=hid (Bk.below hbz.out hb6 (by have:=hbz.out.lt;simp<;>omega));have hbz:=hbz2;clear hbz2)
                   | (have hbz2:=hid (Bk.below (hbz.out.alloc _) hb6 (by have:=hbz.out.lt;simp<;>omega));have hbz:=hbz2;clear hbz2)
                   | (have hbz:Hid (Bk w6 (w5.heap.size) 25 #[.int .i64 0,.int .i64 0,.slice none 0 0]):=hid (Bk.below (show Bk _ (w5.heap.size) 25 #[.int .i64 0,.int .i64 0,.slice none 0 0]from(Bk.last w5 25 #[.int .i64 0,.int .i64 0,.slice none 0 0] (by simp))) hb6 (by simp<;>omega)))
                   | (have hbz:Hid (Bk w6 (w5.heap.size) 25 #[.int .i64 0,.int .i64 0,.slice none 0 0]):=hid (Bk.below (show Bk _ (w5.heap.size) 25 #[.int .i64 0,.int .i64 0,.slice none 0 0]from((Bk.last w5 25 #[.int .i64 0,.int .i64 0,.slice none 0 0] (by simp)).alloc _)) hb6 (by simp<;>omega)))
                   | (have hbz:Hid (Bk w6 (w5.heap.size+1) 25 #[.int .i64 0,.int .i64 0,.slice none 0 0]):=hid (Bk.below (show Bk _ (w5.heap.size+1) 25 #[.int .i64 0,.int .i64 0,.slice none 0 0]from(Bk.last (w5.alloc _) 25 #[.int .i64 0,.int .i64 0,.slice none 0 0] (by simp))) hb6 (by simp<;>omega)))
                   | skip
                   have HX6:=hid hx6
                   first
                   | (have hfz:∀q,w6.frozen? ⟨_,q,none⟩=false:=fun q=>hbz.out.cold q
                      have d0:=hbz.out.cell 0;have d1:=hbz.out.cell 1;have d2:=hbz.out.cell 2;simp at d0 d1 d2)
                   | skip
                   clear hb6 hx6)
                | (go_at_call 148
                   refine(CA2.out _ _ _ 25 23 A4 c4 (by repeat (first|with_reducible exact hbP.out|with_reducible exact Below.refl _ _|with_reducible refine Below.al ?_ _|with_reducible refine Below.dr ?_|with_reducible refine Below.st ?_ (by first|omega|(simp<;>omega)) _)) (by first|exact(HX4.out.kept (((Below.refl w4.heap.size w4).alloc lrIoRcr _).alloc (by simp) _) lrIoRcr).wide lrIoRcr (by simp<;>omega)|exact(HX4.out.kept ((((Below.refl w4.heap.size w4).alloc lrIoRcr _).alloc (by simp) _).alloc (by simp<;>omega) _) lrIoRcr).wide lrIoRcr (by simp<;>omega)) (by first|exact(Bk.last _ _ _ (by simp))|exact((Bk.last _ _ _ (by simp)).alloc _)) (by first|exact(Bk.last _ _ _ (by simp)).alloc _|exact((Bk.last _ _ _ (by simp)).alloc _).alloc _)).mono ?_;rintro e w5 ⟨Ay,cy,rfl,hy5,hb5⟩;have hbQ:=hid (by first|exact trIoRcr hbP hb5|exact(hbP.out.alloc hbP.out.size _).trans (hb5.mono (hbP.out.alloc hbP.out.size _).size)|exact((hbP.out.alloc hbP.out.size _).alloc (hbP.out.alloc hbP.out.size _).size _).trans (hb5.mono ((hbP.out.alloc hbP.out.size _).alloc (hbP.out.alloc hbP.out.size _).size _).size)|exact(((hbP.out.alloc hbP.out.size _).alloc (hbP.out.alloc hbP.out.size _).size _).alloc ((hbP.out.alloc hbP.out.size _).alloc (hbP.out.alloc hbP.out.size _).size _).size _).trans (hb5.mono (((hbP.out.alloc hbP.out.size _).alloc (hbP.out.alloc hbP.out.size _).size _).alloc ((hbP.out.alloc hbP.out.size _).alloc (hbP.out.alloc hbP.out.size _).size _).size _).size));have hzQ:=hbQ.out.size
                   first
                   | (have hbz2:=hid (Bk.below hbz.out hb5 (by have:=hbz.out.lt;simp<;>omega));have hbz:=hbz2;clear hbz2)
                   | (have hbz2:=hid (Bk.below (hbz.out.alloc _) hb5 (by have:=hbz.out.lt;simp<;>omega));have hbz:=hbz2;clear hbz2)
                   | (have hbz2:=hid (Bk.below ((hbz.out.alloc _).alloc _) hb5 (by have:=hbz.out.lt;simp<;>omega));have hbz:=hbz2;clear hbz2)
                   | (have hbz:Hid (Bk w5 (w4.heap.size) 25 #[.int .i64 0,.int .i64 0,.slice none 0 0]):=hid (Bk.below (show Bk _ (w4.heap.size) 25 #[.int .i64 0,.int .i64 0,.slice none 0 0]from(Bk.last w4 25 #[.int .i64 0,.int .i64 0,.slice none 0 0] (by simp))) hb5 (by simp<;>omega)))
                   | (have hbz:Hid (Bk w5 (w4.heap.size) 25 #[.int .i64 0,.int .i64 0,.slice none 0 0]):=hid (Bk.below (show Bk _ (w4.heap.size) 25 #[.int .i64 0,.int .i64 0,.slice none 0 0]from((Bk.last w4 25 #[.int .i64 0,.int .i64 0,.slice none 0 0] (by simp)).alloc _)) hb5 (by simp<;>omega)))
                   | (have hbz:Hid (Bk w5 (w4.heap.size) 25 #[.int .i64 0,.int .i64 0,.slice none 0 0]):=hid (Bk.below (show Bk _ (w4.heap.size) 25 #[.int .i64 0,.int .i64 0,.slice none 0 0]from(((Bk.last w4 25 #[.int .i64 0,.int .i64 0,.slice none 0 0] (by simp)).alloc _).alloc _)) hb5 (by simp<;>omega)))
                   | (have hbz:Hid (Bk w5 (w4.heap.size+1) 25 #[.int .i64 0,.int .i64 0,.slice none 0 0]):=hid (Bk.below (show Bk _ (w4.heap.size+1) 25 #[.int .i64 0,.int .i64 0,.slice none 0 0]from(Bk.last (w4.alloc _) 25 #[.int .i64 0,.int .i64 0,.slice none 0 0] (by simp))) hb5 (by simp<;>omega)))
                   | (have hbz:Hid (Bk w5 (w4.heap.size+1) 25 #[.int .i64 0,.int .i64 0,.slice none 0 0]):=hid (Bk.below (show Bk _ (w4.heap.size+1) 25 #[.int .i64 0,.int .i64 0,.slice none 0 0]from((Bk.last (w4.alloc _) 25 #[.int .i64 0,.int .i64 0,.slice none 0 0] (by simp)).alloc _)) hb5 (by simp<;>omega)))
                   | (have hbz:Hid (Bk w5 (w4.heap.size+1+1) 25 #[.int .i64 0,.int .i64 0,.slice none 0 0]):=hid (Bk.below (show Bk _ (w4.heap.size+1+1) 25 #[.int .i64 0,.int .i64 0,.slice none 0 0]from(Bk.last ((w4.alloc _).alloc _) 25 #[.int .i64 0,.int .i64 0,.slice none 0 0] (by simp))) hb5 (by simp<;>omega)))
                   | skip
                   first|have hlz2:=hbz.out.lt|skip
                   have HY5:=hid hy5;clear hb5 hy5)
                | (go_at_call 148
                   refine(CA1.out _ _ 23 Av cv (by repeat (first|with_reducible exact hbC.out|with_reducible exact Below.refl _ _|with_reducible refine Below.al ?_ _|with_reducible refine Below.dr ?_|with_reducible refine Below.st ?_ (by first|omega|(simp<;>omega)) _)) (by first|exact(HV3.out.kept ((Below.refl w3.heap.size w3).alloc lrIoRcr _) lrIoRcr).wide lrIoRcr (by simp<;>omega)|exact(HV3.out.kept (((Below.refl w3.heap.size w3).alloc lrIoRcr _).alloc (by simp) _) lrIoRcr).wide lrIoRcr (by simp<;>omega)) (by first|exact(Bk.last _ _ _ (by simp))|exact((Bk.last _ _ _ (by simp)).alloc _))).mono ?_;rintro e w4 ⟨A4,c4,rfl,hx4,hb4⟩;have hbP:=hid (by first|exact trIoRcr hbC hb4|exact(hbC.out.alloc hbC.out.size _).trans (hb4.mono (hbC.out.alloc hbC.out.size _).size)|exact((hbC.out.alloc hbC.out.size _).alloc (hbC.out.alloc hbC.out.size _).size _).trans (hb4.mono ((hbC.out.alloc hbC.out.size _).alloc (hbC.out.alloc hbC.out.size _).size _).size));have hzP:=hbP.out.size
                   first
                   | (have hbz2:=hid (Bk.below hbz.out hb4 (by have:=hbz.out.lt;simp<;>omega));have hbz:=hbz2;clear hbz2)
                   | (have hbz2:=hid (Bk.below (hbz.out.alloc _) hb4 (by have:=hbz.out.lt;simp<;>omega));have hbz:=hbz2;clear hbz2)
                   | (have hbz:Hid (Bk w4 (w3.heap.size) 25 #[.int .i64 0,.int .i64 0,.slice none 0 0]):=hid (Bk.below (show Bk _ (w3.heap.size) 25 #[.int .i64 0,.int .i64 0,.slice none 0 0]from(Bk.last w3 25 #[.int .i64 0,.int .i64 0,.slice none 0 0] (by simp))) hb4 (by simp<;>omega)))
                   | (have hbz:Hid (Bk w4 (w3.heap.size) 25 #[.int .i64 0,.int .i64 0,.slice none 0 0]):=hid (Bk.below (show Bk _ (w3.heap.size) 25 #[.int .i64 0,.int .i64 0,.slice none 0 0]from((Bk.last w3 25 #[.int .i64 0,.int .i64 0,.slice none 0 0] (by simp)).alloc _)) hb4 (by simp<;>omega)))
                   | (have hbz:Hid (Bk w4 (w3.heap.size+1) 25 #[.int .i64 0,.int .i64 0,.slice none 0 0]):=hid (Bk.below (show Bk _ (w3.heap.size+1) 25 #[.int .i64 0,.int .i64 0,.slice none 0 0]from(Bk.last (w3.alloc _) 25 #[.int .i64 0,.int .i64 0,.slice none 0 0] (by simp))) hb4 (by simp<;>omega)))
                   | skip
                   first|have hlz1:=hbz.out.lt|skip
                   have HX4:=hid hx4;clear hb4 hx4))
              all_goals
                go_wp2_with fail;go_meet;case rel=>
                  first
                  | exact⟨_,Ax,cx,rfl,rfl,TBox.of (((hbz.out.at_ 0 (.int .i64 sx.k)).at_ 1 (.int .i64 sx.n)).at_ 2 (.slice Ax sx.l.length cx)),(by repeat (first|with_reducible exact hbF.out|with_reducible exact Below.refl _ _|with_reducible refine Below.al ?_ _|with_reducible refine Below.dr ?_|with_reducible refine Below.st ?_ (by first|omega|(simp<;>omega)) _)),(TermIn.three HX6.out (fun b hb e=>by have h1:=hb.1;have h2:=hbz.out.lt;subst e;first|omega|(simp at h1;done)|(simp at h1;omega)) _ _ _).imp (fun _ _ _=>rfl) (fun b hb=>⟨by have h1:=hb.1;have h2:=hbQ.out.size;first|omega|(simp at h1;omega),by rw[size_three];exact hb.2⟩)⟩
                  | exact⟨_,Ax,cx,rfl,rfl,TBox.of (Bk.new w6 _ _),(by repeat (first|with_reducible exact hbF.out|with_reducible exact Below.refl _ _|with_reducible refine Below.al ?_ _|with_reducible refine Below.dr ?_|with_reducible refine Below.st ?_ (by first|omega|(simp<;>omega)) _)),TermIn.imp (fun b o hb=>((Below.refl w6.heap.size w6).alloc lrIoRcr _).cell (p:=⟨b,o,none⟩) hb.2) (fun b hb=>⟨by have:=hb.1;have:=hbQ.out.size;simp at*;omega,by have:=hb.2;simp;omega⟩) HX6.out⟩
            case rest=>
              obtain⟨wm,rfl⟩:∃wm:World,wm=wc:=⟨_,rfl⟩;obtain⟨gv,Ax,cx,rfl,rfl,htb,hbm,hnx⟩:=hcut;have HWR:=hid (HB2.out.trans ((HB2J.out.trans ((trIoRcr HJK hbm).mono HB2J.out.size)).mono HB2.out.size));have HBM:=hid (HBB.out.trans (HWR.out.mono hz));have HNX:=hid hnx;have hkz:=HB2J.out.size;have hjz:=HJK.out.size;obtain⟨k0,k1,k2,hkl⟩:=htb;clear CV CA1 CA2 CL HK14 hbk1 s0 s1 s2 l0 l1 l2 hbm hnx;by_cases hs0:se=0
              case neg=>
                have q2:(se !=0)=true:=by simpa using hs0
                have HNO:=hid (show ¬ recOk κ c pars own front c.recs.length from fun h=>by
                  have:=h i (by rw[HNR.out];exact hil) HQ.out;rw[HSE.out]at this;exact hs0 this)
                have HH0:=hid (show RcrE κ c pars own front se from⟨i,by rw[HNR.out];exact hil,HQ.out,HOK.out,by rw[HSE.out],hs0⟩);clear hs0;go_wp2_with fail;go_ret2;exact⟨.inr ⟨HNO.out,se,HH0.out,rfl⟩,HBM.out⟩
              have q2:(se !=0)=false:=by rw[hs0];rfl
              have HS0:=hid hs0;have R1:=(HROW.out.below HWR.out).alloc (.cells #[.int .i64 sx.k,.int .i64 sx.n,.slice Ax sx.l.length cx] 25);have HR2:=hid R1;have HOW:=hid R1.row;have hown0:=R1.row.lt;have HBW2:=hid (HBM.out.alloc HBM.out.size (.cells #[.int .i64 sx.k,.int .i64 sx.n,.slice Ax sx.l.length cx] 25));have hzm:=HBM.out.size;have hzw:=HWR.out.size;clear R1 hs0;go_wp2_with (at_builtin;refine wpList_app rfl _ _ 23 rfl w.heap.size 25 i0 (.agg #[.int .i64 0,.int .i64 0,.slice none 0 0]) 3 40 Tryz.underlying23 hi0 hz0 hz1 hz2 rfl (by decide) _ _ _ rfl HOW.out (some ⟨wm.heap.size,0,none⟩) 1 1 (cellsM (sx,Ax,cx)) rfl (src_at _ _ _ (by simp) rfl) (cellsM_one _) ?c3 ?c4 ?c5 ?_)
              case c3=>unfold maxLen;omega
              case c4=>omega
              case c5=>simp;omega
              rintro v2' w7 ⟨hown3,hg3,ho3⟩;have HRow:=hid (HR2.out.push (Pn:=fun b=>wk.heap.size≤b∧b<wm.heap.size) (p:=(sx,Ax,cx)) (TermIn.imp (fun b o hb=>((Below.refl wm.heap.size wm).alloc lrIoRcr (.cells #[.int .i64 sx.k,.int .i64 sx.n,.slice Ax sx.l.length cx] 25)).cell (p:=⟨b,o,none⟩) hb.2) (fun b hb=>hb) HNX.out) (fun b hb=>⟨by have:=hb.2;simp;omega,fun e=>by
                have h1:=HROW.out.row.lt b e;have h2:=hb.1;have h3:=HB2.out.size;omega⟩) hown3 hg3 ho3)
              have HB4:=hid (HBW2.out.grown hg3 (by have:=HBM.out.size;simp;omega) (fun g e=>by have:=hown0 g e;omega));clear hown3 hg3 ho3 hown0;go_wp2_with fail;go_roundw
              case rel=>
                refine⟨i+1,ps++[(sx,Ax,cx)],fun b=>P b∨(wk.heap.size≤b∧b<wm.heap.size),by have:=HNR.out;omega,by go_num,HB4.out,HRow.out, ?_, ?_,recOk_yes HOK.out (fun _=>by rw[HSE.out];exact HS0.out)⟩
                · intro b hb;rcases hb with hb|hb
                  · exact HPP2.out b hb
                  · have:=hb.1;have h3:=HB2.out.size;omega
                · rw[List.map_append,HPL.out,HR1.out];rfl
              case measure=>have:=HNR.out;simp[intOf];omega
    · have HIN:=hid (show i=nr by omega);have hge: ¬ (i:Int)<(nr:Int):=by omega
      have HLL:Hid (ps.length=(recL κ c pars own front c.recs.length).length):=hid (by rw[HNR.out,←HIN.out,←HPL.out,List.length_map]);have hpar:=HROW.out.parent (lo:=0) (Nat.zero_le _) (fun b hb=>Nat.zero_le _) 0 0;rw[HPL.out,HIN.out,←HNR.out]at hpar;have HPAR:=hid hpar;have HOK2:=hid (show recOk κ c pars own front c.recs.length from by rw[HNR.out,←HIN.out];exact HOK.out);clear hpar;go_wp2_with fail;go_ret2;rw[HLL.out];exact⟨.inl ⟨HOK2.out,a1,c1,rfl,HPAR.out⟩,HBB.out⟩
end Go.Proofs.YtchllgkgjompgaaGreatDoor
