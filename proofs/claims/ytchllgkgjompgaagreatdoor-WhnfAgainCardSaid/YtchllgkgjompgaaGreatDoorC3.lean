import Derived.Test.YtchllgkgjompgaaGreatDoorR4
import Derived.Test.YtchllgkgjompgaaGreatDoorM4
import Derived.Test.YtchllgkgjompgaaGreatDoorR1
import Derived.Deep.RegionLaw
import Derived.Test.YtchllgkgjompgaaGreatDoorS7
namespace Go.Proofs.YtchllgkgjompgaaGreatDoor
set_option maxHeartbeats 2000000
set_option maxRecDepth 100000
open Go.RowKit
set_option linter.unusedVariables false
open Lib(hid)
open Go.Proofs.Tryz
def GivesA (u:TM) (w:World) (e:Ending) (w':World):Prop:=∃A cap,e= .returned (termV u A cap)∧IsTerm w' 0 w'.heap.size u A cap∧Below w.heap.size w w'
def GivesP (P:Nat→Prop) (u:TM) (w:World) (e:Ending) (w':World):Prop:=∃A cap,e= .returned (termV u A cap)∧TermIn w' (fun b=>(P b∨w.heap.size≤b)∧b<w'.heap.size) u A cap∧Below w.heap.size w w'
def AppRelP (P:Nat→Prop) (t:TM) (xs:List TM) (w:World) (iv:Value) (wr:World):Prop:=
 ∃(i:Nat) (u:TM) (A:Option Addr) (cap:Nat),i≤xs.length∧iv= .int .i64 i∧Below w.heap.size w wr∧Bk wr w.heap.size 25 #[.int .i64 u.k,.int .i64 u.n,.slice A u.l.length cap]∧
  Bk wr (w.heap.size+1) 25 #[.int .i64 0,.int .i64 0,.slice none 0 0]∧TermIn wr (fun b=>(P b∨w.heap.size≤b)∧b<wr.heap.size∧b≠w.heap.size∧b≠w.heap.size+1) u A cap∧u=applyT t (xs.take i)
theorem tapplyP_any (P:Nat→Prop) (t:TM) (xs:List TM) (A B:Option Addr) (cap cap2:Nat) (w:World) (hP:∀b,P b→b<w.heap.size) (h:TermIn w P t A cap) (h2:TermIn w P (.node 0 0 xs) B cap2):
  Calls prog 86 #[termV t A cap,.slice B xs.length cap2] w (GivesP P (applyT t xs) w):=by
 obtain⟨hl,hm⟩:=h2.bounds;have HT:=hid h;have HN:=hid (fun i hi=>TermIn.at_ h2 i hi);have HP:=hid hP;unfold maxLen at hm;clear h h2 hP;unfold termV;go_enter func86,ntmps86;go_wp2_with fail;go_loopw [9] (AppRelP P t xs w) (fun iv _=>xs.length - (intOf iv).toNat)
 case atStart=>
  exact⟨0,t,A,cap,Nat.zero_le _,rfl,((Below.refl w.heap.size w).alloc (Nat.le_refl _) _).alloc (by simp) _,(Bk.new w 25 _).alloc _,Bk.last _ _ _ (by simp),TermIn.imp (fun b o hb=>((((Below.refl w.heap.size w).alloc (Nat.le_refl _) _).alloc (by simp) _).cell (p:=⟨b,o,none⟩) (HP.out b hb))) (fun b hb=>⟨.inl hb,by have:=HP.out b hb;simp;omega,by have:=HP.out b hb;omega,by have:=HP.out b hb;omega⟩) HT.out,rfl⟩
 case round=>
  obtain⟨i,u,A1,c1,hi1,rfl,hB,b1,b2,hu,hue⟩:=hrel;have hz:=hB.size;have hlt2:=b2.lt;have HB1:=hid b1;have HB2:=hid b2;have HU:=hid hu;have HUE:=hid hue;have HBB:=hid hB;obtain⟨y0,y1,y2,yl⟩:=(TBox.of b1:TBox wr w.heap.size u.k u.n (.slice A1 u.l.length c1));clear b1 b2 hu hue;by_cases hil:i<xs.length
  ·obtain⟨bk,o,F,C,hA,hb1,hx,hnode⟩:=HN.out i hil;have hb2:=HP.out bk hb1;have hx:=hx.kept hB hb2;have hnode:=hnode.imp (fun b o hq=>hB.cell (p:=⟨b,o,none⟩) (HP.out b hq)) (fun b hq=>hq);subst hA;obtain⟨x0',x1',x2'⟩:=hx;have hi1':(i:Int)<(xs.length:Int):=by omega
   have hi0':(0:Int)≤(i:Int):=by omega
   have hbw:bk<wr.heap.size:=by omega
   have hst:=applyT_take t hil;rw[←HUE.out]at hst;obtain⟨v,hv⟩:∃v,xs[i]=v:=⟨_,rfl⟩;rw[hv]at hst hnode x0' x1' x2';have HST:=hid hst;have HNO:=hid hnode;have HFIN:Hid (∀(V w2:World) (g:Nat),Below wr.heap.size wr V→V.heap.size≤g→Bk w2 g 25 #[.int .i64 u.k,.int .i64 u.n,.slice A1 u.l.length c1,.int .i64 v.k,.int .i64 v.n,.slice F v.l.length C]→Below V.heap.size V w2→
     Bk w2 w.heap.size 25 #[.int .i64 u.k,.int .i64 u.n,.slice A1 u.l.length c1]∧Hid (AppRelP P t xs w (.int .i64 ((i+1:Nat):Int)) (((w2.setCell ⟨w.heap.size,0,none⟩ (.int .i64 5)).setCell ⟨w.heap.size,1,none⟩ (.int .i64 0)).setCell ⟨w.heap.size,2,none⟩ (.slice (some ⟨g,0,none⟩) 2 2)))):=hid (by
    intro V w2 g hV hg hb hb2;have hbb:=hV.trans (hb2.mono hV.size);have hgl:=hb.lt;have hVz:=hV.size;have hbz:=hbb.size;have K1:=HB1.out.below hbb (by omega);have K2:=HB2.out.below hbb (by omega);refine⟨K1,⟨i+1,.node 5 0 [u,v],some ⟨g,0,none⟩,2,by omega,rfl, ?_, ?_, ?_, ?_,HST.out.symm⟩⟩
    ·exact(((HBB.out.trans (hbb.mono hz)).setCell (by simp) _).setCell (by simp) _).setCell (by simp) _
    ·exact((K1.at_ 0 (.int .i64 5)).at_ 1 (.int .i64 0)).at_ 2 (.slice (some ⟨g,0,none⟩) 2 2)
    ·exact((K2.far (by simp) _).far (by simp) _).far (by simp) _
    ·have q1:TermIn w2 (fun b=>(P b∨w.heap.size≤b)∧b<w2.heap.size∧b≠w.heap.size∧b≠w.heap.size+1) u A1 c1:=HU.out.imp (fun b o hq=>hbb.cell (p:=⟨b,o,none⟩) hq.2.1) (fun b hq=>⟨hq.1,by have:=hq.2.1;omega,hq.2.2⟩);have q2:TermIn w2 (fun b=>(P b∨w.heap.size≤b)∧b<w2.heap.size∧b≠w.heap.size∧b≠w.heap.size+1) v F C:=TermIn.imp (fun b o hq=>hbb.cell (p:=⟨b,o,none⟩) (by have:=HP.out b hq;show b<_;omega)) (fun b hq=>⟨.inl hq,by have:=HP.out b hq;omega,by have:=HP.out b hq;omega,by have:=HP.out b hq;omega⟩) HNO.out;have q3:=two_in q1 q2 hb (show(P g∨w.heap.size≤g)∧g<w2.heap.size∧g≠w.heap.size∧g≠w.heap.size+1 from⟨.inr (by omega),hgl,by omega,by omega⟩) 5 0;have q4:=q3.three (g:=w.heap.size) (fun b hq=>hq.2.2.1) (.int .i64 5) (.int .i64 0) (.slice (some ⟨g,0,none⟩) 2 2);refine q4.imp (fun _ _ _=>rfl) (fun b hq=>⟨hq.1,by rw[size_three];exact hq.2.1,hq.2.2⟩))
   have HWA:=hid (fun o=>(Below.refl wr.heap.size wr).alloc (Nat.le_refl _) o);clear hst hnode hv;go_wp2_with fail;refine(mk_app _ _ _ _ _ _ _ _ _ _ _).mono ?_;rintro e w2 ⟨g,rfl,hg,hb,hb2'⟩;obtain⟨K1,HR⟩:=HFIN.out _ w2 g (HWA.out _) hg hb hb2';have HK1:=hid K1;have hfz:∀q,w2.frozen? ⟨w.heap.size,q,none⟩=false:=fun q=>K1.cold q;have d0:w2.cell? ⟨w.heap.size,0,none⟩=some (.int .i64 u.k):=K1.cell 0;have d1:w2.cell? ⟨w.heap.size,1,none⟩=some (.int .i64 u.n):=K1.cell 1;have d2:w2.cell? ⟨w.heap.size,2,none⟩=some (.slice A1 u.l.length c1):=K1.cell 2;clear K1 hb hb2' hg y0 y1 y2 yl x0' x1' x2' HWA;go_wp2_with fail;go_roundw
   case rel=>exact HR.out
   case measure=>simp[intOf];omega
  ·obtain rfl:i=xs.length:=by omega
   have hfull:u=applyT t xs:=by rw[HUE.out,List.take_length]
   have hfz:∀q,wr.frozen? ⟨w.heap.size+1,q,none⟩=false:=fun q=>HB2.out.cold q;have d0:wr.cell? ⟨w.heap.size+1,0,none⟩=some (.int .i64 0):=HB2.out.cell 0;have d1:wr.cell? ⟨w.heap.size+1,1,none⟩=some (.int .i64 0):=HB2.out.cell 1;have d2:wr.cell? ⟨w.heap.size+1,2,none⟩=some (.slice none 0 0):=HB2.out.cell 2;have B5:=((HB2.out.at_ 0 (.int .i64 u.k)).at_ 1 (.int .i64 u.n)).at_ 2 (.slice A1 u.l.length c1);have HS0:=hid (B5.cell 0);have HS1:=hid (B5.cell 1);have HS2:=hid (B5.cell 2);have HFU:=hid hfull;clear B5 hfull;go_wp2_with fail;refine bodyPost_ret (v:= .agg #[.int .i64 u.k,.int .i64 u.n,.slice A1 u.l.length c1]) (by simp[results,results86,go_sem,HS0.out,HS1.out,HS2.out]) rfl ?_;rw[←HFU.out];exact⟨A1,c1,rfl,(HU.out.three (g:=w.heap.size+1) (fun b hq=>hq.2.2.2) _ _ _).imp (fun _ _ _=>rfl) (fun b hq=>⟨hq.1,by rw[size_three];exact hq.2.1⟩),((HBB.out.setCell (by simp) _).setCell (by simp) _).setCell (by simp) _⟩
abbrev LL:=List TM×Option Addr×Nat
def valL (p:LL):Value:= .slice p.2.1 p.1.length p.2.2
def flatL (vs:List LL):List TM:=vs.flatMap (·.1)
structure LsAt (w:World) (hi g:Nat) (vs:List LL):Prop where
 gl:g<w.heap.size
 hl:hi≤w.heap.size
 at_:∀i (h:i<vs.length),w.cell? ⟨g,i,none⟩=some (valL vs[i])∧IsTerms w 0 hi vs[i].1 vs[i].2.1 vs[i].2.2
theorem LsAt.of {w:World} {hi g:Nat} {e:TypeId} {vs:List LL} (hb:Bk w g e (vs.map valL).toArray) (hl:hi≤w.heap.size) (h:∀p∈vs,IsTerms w 0 hi p.1 p.2.1 p.2.2):LsAt w hi g vs:=
 ⟨hb.lt,hl,fun i hi'=>⟨by rw[hb.cell];simp[hi'],h _ (List.getElem_mem hi')⟩⟩
theorem flatL_take {vs:List LL} {i:Nat} (h:i<vs.length):flatL (vs.take (i+1))=flatL (vs.take i)++vs[i].1:=by
 unfold flatL;rw[List.take_succ_eq_append_getElem h,List.flatMap_append];simp
theorem applyT_app (t:TM) (a b:List TM):applyT t (a++b)=applyT (applyT t a) b:=by unfold applyT;rw[List.foldl_append]
structure LsLo (w:World) (lo hi g:Nat) (vs:List LL):Prop where
 gl:g<w.heap.size
 hl:hi≤w.heap.size
 at_:∀i (h:i<vs.length),w.cell? ⟨g,i,none⟩=some (valL vs[i])∧IsTerms w lo hi vs[i].1 vs[i].2.1 vs[i].2.2
theorem LsAt.lo {w:World} {hi g:Nat} {vs:List LL} (h:LsAt w hi g vs):LsLo w 0 hi g vs:=⟨h.gl,h.hl,h.at_⟩
def GivesAn (lo:Nat) (u:TM) (w:World) (e:Ending) (w':World):Prop:=∃A cap,e= .returned (termV u A cap)∧IsTerm w' lo w'.heap.size u A cap∧Below w.heap.size w w'
def AppdRel (lo:Nat) (f:TM) (vs:List LL) (w:World) (iv:Value) (wr:World):Prop:=
 ∃(i:Nat) (u:TM) (A:Option Addr) (cap:Nat),i≤vs.length∧iv= .int .i64 i∧Below w.heap.size w wr∧Bk wr w.heap.size 25 #[.int .i64 u.k,.int .i64 u.n,.slice A u.l.length cap]∧
  Bk wr (w.heap.size+1) 25 #[.int .i64 0,.int .i64 0,.slice none 0 0]∧TermIn wr (fun b=>(lo≤b∧b<wr.heap.size)∧b≠w.heap.size∧b≠w.heap.size+1) u A cap∧u=applyT f (flatL (vs.take i))
theorem appdN_any (lo:Nat) (f:TM) (A:Option Addr) (cap:Nat) (vs:List LL) (hi g:Nat) (w:World) (hlo:lo≤w.heap.size) (h:IsTerm w lo w.heap.size f A cap) (h2:LsLo w lo hi g vs) (hlen:vs.length≤100):
  Calls prog 148 #[termV f A cap,.slice (some ⟨g,0,none⟩) vs.length vs.length] w (GivesAn lo (applyT f (flatL vs)) w):=by
 have HT:=hid h;have HV:=hid h2.at_;have hgl:=h2.gl;have HHL:=hid h2.hl;clear h h2;unfold termV;go_enter func148,ntmps148;go_wp2_with fail;go_loopw [9] (AppdRel lo f vs w) (fun iv _=>vs.length - (intOf iv).toNat)
 case atStart=>
  exact⟨0,f,A,cap,Nat.zero_le _,rfl,((Below.refl w.heap.size w).alloc (Nat.le_refl _) _).alloc (by simp) _,(Bk.new w 25 _).alloc _,Bk.last _ _ _ (by simp),TermIn.imp (fun _ _ _=>rfl) (fun b hb=>⟨⟨hb.1,by have:=hb.2;simp;omega⟩,by have:=hb.2;omega,by have:=hb.2;omega⟩) ((HT.out.alloc (Nat.le_refl _) _).alloc (by simp) _),rfl⟩
 case round=>
  obtain⟨i,u,A1,c1,hi1,rfl,hB,b1,b2,hu,hue⟩:=hrel;have hz:=hB.size;have hlt2:=b2.lt;have HB1:=hid b1;have HB2:=hid b2;have HU:=hid hu;have HUE:=hid hue;have HBB:=hid hB;obtain⟨y0,y1,y2,yl⟩:=(TBox.of b1:TBox wr w.heap.size u.k u.n (.slice A1 u.l.length c1));clear b1 b2 hu hue;by_cases hil:i<vs.length
  ·obtain⟨hc,hts⟩:=HV.out i hil;have hst:=applyT_app f (flatL (vs.take i)) vs[i].1;rw[←flatL_take hil,←HUE.out]at hst;obtain⟨p,hp⟩:∃p,vs[i]=p:=⟨_,rfl⟩;rw[hp]at hc hts hst;obtain⟨xs,B,cb⟩:=p;unfold valL at hc;simp only at hc hts hst;have hc':wr.cell? ⟨g,i,none⟩=some (.slice B xs.length cb):=(hB.cell (p:=⟨g,i,none⟩) hgl).trans hc;have hgr:g<wr.heap.size:=by omega
   have hi1':(i:Int)<(vs.length:Int):=by omega
   have hi0':(0:Int)≤(i:Int):=by omega
   have HST:=hid hst;have CA:=hid (tapplyP_any (fun b=>(lo≤b∧b<wr.heap.size)∧b≠w.heap.size∧b≠w.heap.size+1) u xs A1 B c1 cb wr (fun b hb=>hb.1.2) HU.out (TermIn.imp (fun b o hb=>hB.cell (p:=⟨b,o,none⟩) (by have:=hb.2;have:=HHL.out;show b<_;omega)) (fun b hb=>⟨⟨hb.1,by have:=hb.2;have:=HHL.out;omega⟩,by have:=hb.2;have:=HHL.out;omega,by have:=hb.2;have:=HHL.out;omega⟩) hts));unfold GivesP termV at CA;clear hc hst hp hts;go_wp2_with fail;refine CA.out.mono ?_;rintro e w2 ⟨A2,c2,rfl,hn2,hb2⟩;have K1:=HB1.out.below hb2 (by omega);have HK1:=hid K1;have HK2:=hid (HB2.out.below hb2 hlt2);have hfz:∀q,w2.frozen? ⟨w.heap.size,q,none⟩=false:=fun q=>K1.cold q;have d0:w2.cell? ⟨w.heap.size,0,none⟩=some (.int .i64 u.k):=K1.cell 0;have d1:w2.cell? ⟨w.heap.size,1,none⟩=some (.int .i64 u.n):=K1.cell 1;have d2:w2.cell? ⟨w.heap.size,2,none⟩=some (.slice A1 u.l.length c1):=K1.cell 2;have HN2:=hid hn2;have HBN:=hid (HBB.out.trans (hb2.mono hz));have hz2:=hb2.size;clear K1 hb2 hn2 y0 y1 y2 yl hc' CA;go_wp2_with fail;go_roundw
   case rel=>
    refine⟨i+1,applyT u xs,A2,c2,by omega,by go_num, ?_, ?_, ?_, ?_,HST.out.symm⟩
    ·exact((HBN.out.setCell (by simp) _).setCell (by simp) _).setCell (by simp) _
    ·exact((HK1.out.at_ 0 _).at_ 1 _).at_ 2 _
    ·exact((HK2.out.far (by simp) _).far (by simp) _).far (by simp) _
    ·exact(HN2.out.three (g:=w.heap.size) (fun b hq=>by rcases hq.1 with h|h<;>omega) _ _ _).imp (fun _ _ _=>rfl) (fun b hq=>⟨⟨by rcases hq.1 with h|h<;>omega,by rw[size_three];exact hq.2⟩,by rcases hq.1 with h|h<;>omega,by rcases hq.1 with h|h<;>omega⟩)
   case measure=>simp[intOf];omega
  ·obtain rfl:i=vs.length:=by omega
   have hfull:u=applyT f (flatL vs):=by rw[HUE.out,List.take_length]
   have hfz:∀q,wr.frozen? ⟨w.heap.size+1,q,none⟩=false:=fun q=>HB2.out.cold q;have d0:wr.cell? ⟨w.heap.size+1,0,none⟩=some (.int .i64 0):=HB2.out.cell 0;have d1:wr.cell? ⟨w.heap.size+1,1,none⟩=some (.int .i64 0):=HB2.out.cell 1;have d2:wr.cell? ⟨w.heap.size+1,2,none⟩=some (.slice none 0 0):=HB2.out.cell 2;have B5:=((HB2.out.at_ 0 (.int .i64 u.k)).at_ 1 (.int .i64 u.n)).at_ 2 (.slice A1 u.l.length c1);have HS0:=hid (B5.cell 0);have HS1:=hid (B5.cell 1);have HS2:=hid (B5.cell 2);have HFU:=hid hfull;clear B5 hfull;go_wp2_with fail;refine bodyPost_ret (v:= .agg #[.int .i64 u.k,.int .i64 u.n,.slice A1 u.l.length c1]) (by simp[results,results148,go_sem,HS0.out,HS1.out,HS2.out]) rfl ?_;rw[←HFU.out];exact⟨A1,c1,rfl,(HU.out.three (g:=w.heap.size+1) (fun b hq=>hq.2.2) _ _ _).imp (fun _ _ _=>rfl) (fun b hq=>⟨hq.1.1,by rw[size_three];exact hq.1.2⟩),((HBB.out.setCell (by simp) _).setCell (by simp) _).setCell (by simp) _⟩
theorem appd_any (f:TM) (A:Option Addr) (cap:Nat) (vs:List LL) (hi g:Nat) (w:World) (h:IsTerm w 0 w.heap.size f A cap) (h2:LsAt w hi g vs) (hlen:vs.length≤100):
  Calls prog 148 #[termV f A cap,.slice (some ⟨g,0,none⟩) vs.length vs.length] w (GivesA (applyT f (flatL vs)) w):=
 appdN_any 0 f A cap vs hi g w (Nat.zero_le _) h h2.lo hlen
end Go.Proofs.YtchllgkgjompgaaGreatDoor
