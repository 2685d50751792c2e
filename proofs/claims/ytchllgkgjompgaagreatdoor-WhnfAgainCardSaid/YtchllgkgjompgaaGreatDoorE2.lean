import Derived.Test.YtchllgkgjompgaaGreatDoorR4
import Derived.Test.YtchllgkgjompgaaGreatDoorM8
import Derived.Deep.RegionHeld3
import Derived.Test.YtchllgkgjompgaaGreatDoorE1
import Derived.Test.YtchllgkgjompgaaGreatDoorI2
namespace Go.Proofs.YtchllgkgjompgaaGreatDoor
set_option maxHeartbeats 8000000
set_option maxRecDepth 100000
open Go.RowKit
set_option linter.unusedVariables false
open Lib(hid)
open Go.Proofs.Tryz
theorem lrE2{n:Nat}:n≤n:=Nat.le_refl n
theorem trE2{a b c:World}(x:Hid (Below a.heap.size a b))(y:Below b.heap.size b c):Below a.heap.size a c:=x.out.trans (y.mono x.out.size)
def BindRel13 (t:TM) (w:World) (lo hi:Nat) (sv:Value) (wr:World):Prop:=
 ∃(u:TM) (A:Option Addr) (c:Nat) (m:Nat),sv= .int .i64 m∧Below w.heap.size w wr∧Bk wr w.heap.size 25 #[.int .i64 u.k,.int .i64 u.n,.slice A u.l.length c]∧
  IsTerm wr lo hi u A c∧tgoodB u=true∧m+pisN u=pisN t
theorem wbinders_any (t:TM) (lo hi:Nat) (A:Option Addr) (cap:Nat) (w:World) (h:IsTerm w lo hi t A cap) (hhi:hi≤w.heap.size) (hg:tgoodB t=true) (hp:pisN t≤1000):
    Calls prog 140 #[termV t A cap] w fun e w'=>e= .returned (.int .i64 (pisN t:Nat))∧Below w.heap.size w w':=by
  have HT:=hid h;have HG:=hid hg;have HHI:=hid hhi;have HP:=hid hp;clear h hg hhi hp;unfold termV;go_enter func140,ntmps140;go_wp2_with fail;go_loopw [3] (BindRel13 t w lo hi) (fun _ wr=>(@Classical.epsilon TM ⟨.node 0 0 []⟩ (fun u=>∃A c,Bk wr w.heap.size 25 #[.int .i64 u.k,.int .i64 u.n,.slice A u.l.length c]∧IsTerm wr lo hi u A c)).depth)
  case atStart=>
    exact⟨t,A,cap,0,rfl,(Below.refl w.heap.size w).alloc lrE2 _,Bk.new w 25 _,HT.out.alloc HHI.out _,HG.out,Nat.zero_add _⟩
  case round=>
    obtain⟨u,A1,c1,m,rfl,hB,b1,hu,hgu,hhd⟩:=hrel;have hz:=hB.size;have HB1:=hid b1;have HU:=hid hu;have HBB:=hid hB;have HHD:=hid hhd;obtain⟨k,n,l⟩:=u;have hdep:∀(wr':World) (v:TM) (B:Option Addr) (d:Nat),Bk wr' w.heap.size 25 #[.int .i64 v.k,.int .i64 v.n,.slice B v.l.length d]→IsTerm wr' lo hi v B d→
        (@Classical.epsilon TM ⟨.node 0 0 []⟩ (fun u=>∃A c,Bk wr' w.heap.size 25 #[.int .i64 u.k,.int .i64 u.n,.slice A u.l.length c]∧IsTerm wr' lo hi u A c))=v:=fun wr' v B d h1 h2=>by
      obtain⟨A',c',q1,q2⟩:=Classical.epsilon_spec (p:=fun u=>∃A c,Bk wr' w.heap.size 25 #[.int .i64 u.k,.int .i64 u.n,.slice A u.l.length c]∧IsTerm wr' lo hi u A c) ⟨v,B,d,h1,h2⟩;exact box_term h1 h2 q1 q2
    have HDEP:=hid hdep;obtain⟨y0,y1,y2,yl⟩:=(TBox.of b1:TBox wr w.heap.size k n (.slice A1 l.length c1));clear b1 hu hhd hdep;by_cases hk:k=3
    · subst hk;obtain⟨n',a,c,e,ha,hc⟩:=pi_parts hgu rfl;injection e with _ e1 e2;subst e1;subst e2;obtain⟨bk,o,F,C,hA,hb1,hb2,hx,hnode⟩:=HU.out.sub 1 (by simp);subst hA;obtain⟨x0',x1',x2'⟩:=hx;simp only[List.getElem_cons_zero,List.getElem_cons_succ,Nat.one_mul]at x0' x1' x2' hnode;have HNO:=hid hnode;have hbw:bk<wr.heap.size:=by have:=HHI.out;omega
      have hfz:∀q,wr.frozen? ⟨w.heap.size,q,none⟩=false:=fun q=>HB1.out.cold q;have hne:bk≠w.heap.size:=by have:=HHI.out;omega
      have HF:=hid hc;have HH2:=hid (show(m+1)+pisN c=pisN t by have:=HHD.out;rw[pisN_pi]at this;omega);have hm1:(m:Int)+1≤1000:=by have:=HH2.out;have:=HP.out;omega
      have HKB:=hid (show Bk (((wr.setCell ⟨w.heap.size,0,none⟩ (.int .i64 c.k)).setCell ⟨w.heap.size,1,none⟩ (.int .i64 c.n)).setCell ⟨w.heap.size,2,none⟩ (.slice F c.l.length C)) w.heap.size 25 #[.int .i64 c.k,.int .i64 c.n,.slice F c.l.length C]from((HB1.out.at_ 0 (.int .i64 c.k)).at_ 1 (.int .i64 c.n)).at_ 2 (.slice F c.l.length C));have HKT:=hid (show IsTerm (((wr.setCell ⟨w.heap.size,0,none⟩ (.int .i64 c.k)).setCell ⟨w.heap.size,1,none⟩ (.int .i64 c.n)).setCell ⟨w.heap.size,2,none⟩ (.slice F c.l.length C)) lo hi c F C from HNO.out.imp (fun b o h1 h2=>by
          have hne:∀o',(⟨w.heap.size,o',none⟩:Addr)≠⟨b,o,none⟩:=fun o' e=>by
            have h1:=congrArg Addr.block e;have h3:=HHI.out;simp at h1;omega
          rw[World.cell?_setCell_other _ _ _ _ (hne _),World.cell?_setCell_other _ _ _ _ (hne _),World.cell?_setCell_other _ _ _ _ (hne _)]) lrE2 lrE2)
      have HLESS:=hid (show c.depth<(TM.node 3 n [a,c]).depth by rw[tdepth_node,depthM_cons,depthM_cons];omega);have HU0:=hid (HDEP.out wr (.node 3 n [a,c]) _ c1 HB1.out HU.out);have HU1:=hid (HDEP.out (((wr.setCell ⟨w.heap.size,0,none⟩ (.int .i64 c.k)).setCell ⟨w.heap.size,1,none⟩ (.int .i64 c.n)).setCell ⟨w.heap.size,2,none⟩ (.slice F c.l.length C)) c F C HKB.out HKT.out);clear hgu hc ha hnode HHD;simp only[List.length_cons,List.length_nil]at y2;go_wp2_with fail;go_roundw
      case rel=>
        exact⟨c,F,C,m+1,by go_num,((HBB.out.setCell (by simp) _).setCell (by simp) _).setCell (by simp) _,HKB.out,HKT.out,HF.out,HH2.out⟩
      case measure=>
        rw[HU0.out,HU1.out];exact HLESS.out
    · have e1:(k==3)=false:=by simpa using hk
      have HMQ:=hid (show m=pisN t by have:=HHD.out;rw[pisN_not (t:= .node k n l) hk]at this;omega);clear hk hgu;go_wp2_with fail;go_ret;exact⟨by have:=HMQ.out;first|(subst this;rfl)|(rw[this];rfl)|omega|simp[this],HBB.out⟩
def conE (l:List ET) (t:TM):Bool:=decide ((headT t).k=6) && (decide ((entT l (headT t).n).k=2) && decide ((argsT t).length=pisN (entT l (headT t).n).t))
def GivesCon (lo hi:Nat) (l:List ET) (t:TM) (w:World) (e:Ending) (w':World):Prop:=
  ((conE l t=true∧∃B d,e= .returned (.tuple #[.int .i64 (headT t).n,.slice B (argsT t).length d,.bool true])∧TermIn w' (fun b=>((lo≤b∧b<hi)∨B=some ⟨b,0,none⟩)∧b<w'.heap.size) (.node 0 0 (argsT t)) B d∧∀b,B=some ⟨b,0,none⟩→w.heap.size≤b)∨
   (conE l t=false∧e= .returned (.tuple #[.int .i64 0,.slice none 0 0,.bool false])))∧Below w.heap.size w w'
theorem ent_type {l:List ET} (h:formedB l=true) {n:Int} (hk:(entT l n).k=2):tgoodB (entT l n).t=true∧pisN (entT l n).t≤1000:=by
 obtain⟨m,hm,rfl,he⟩:=entT_in (l:=l) (n:=n) (by rw[hk];decide);rw[he];have hs:=shapedB_true.1 (closed_shaped (formed_cl h hm));have:=pisN_depth l[m].t;exact⟨hs.2.2,by omega⟩
theorem mcon_any {l:List ET} {E A B:Option Addr} {hi g ce gr cap bap:Nat} (t:TM) (lo th:Nat) (A0:Option Addr) (cap0:Nat) (w:World) (h:MachAt w hi g l E ce gr A B cap bap) (ht:IsTerm w lo th t A0 cap0) (hth:th≤w.heap.size) (hs:shapedB t=true) (hS:ShapesM w):
  Calls prog 115 #[.pointer (some ⟨g,0,none⟩),termV t A0 cap0] w (GivesCon lo th l t w):=by
 obtain⟨q1,q2,q3⟩:=shapedB_true.1 hs;have CS:=hid (fun V (hV:Below w.heap.size w V)=>spineR_any t lo th A0 cap0 V (ht.kept hV hth) (by have:=hV.size;omega) (hS.kept hV) q3 q1 (by omega));have CE:=hid (fun V (hV:Below w.heap.size w V)=>mentry_any (headT t).n V (h.below hV));have HET:=hid (fun hk=>ent_type (n:=(headT t).n) h.rules.fm hk);have hhi:=h.rules.hl;unfold GivesCon conE;obtain⟨H,hH⟩:∃H,headT t=H:=⟨_,rfl⟩;rw[hH]at CE HET⊢;unfold GivesSpR termV at CS;rw[hH]at CS;obtain⟨ag,hag⟩:∃ag,argsT t=ag:=⟨_,rfl⟩;rw[hag]at CS⊢;obtain⟨na,hna⟩:∃na,ag.length=na:=⟨_,rfl⟩;rw[hna]at CS⊢;obtain⟨x,hx⟩:∃x,entT l H.n=x:=⟨_,rfl⟩;rw[hx]at CE HET⊢;unfold GivesMe at CE;unfold termV;obtain⟨X,hX⟩:∃X,w.alloc (.cells #[.int .i64 t.k,.int .i64 t.n,.slice A0 t.l.length cap0] 25)=X:=⟨_,rfl⟩;have HBX:=hid (show Below w.heap.size w X from by rw[←hX];exact(Below.refl _ _).alloc lrE2 _);have hzX:X.heap.size=w.heap.size+1:=by rw[←hX];simp
 have HZX:=hid hzX;have HKt:=hid (show Bk X w.heap.size 25 #[.int .i64 t.k,.int .i64 t.n,.slice A0 t.l.length cap0]from by rw[←hX];exact Bk.new _ _ _);have x0:X.cell? ⟨w.heap.size,0,none⟩=some (.int .i64 t.k):=HKt.out.cell 0;have x1:X.cell? ⟨w.heap.size,1,none⟩=some (.int .i64 t.n):=HKt.out.cell 1;have x2:X.cell? ⟨w.heap.size,2,none⟩=some (.slice A0 t.l.length cap0):=HKt.out.cell 2;have HHI:=hid hhi;clear h ht hs hS q1 q2 q3 hH hag hna hx hth hzX hhi;go_enter func115,ntmps115;go_wp2_with fail;refine(CS.out _ HBX.out).mono ?_;rintro e w1 ⟨A1,c1,B1,d1,rfl,ht1,ha1,hown,hhd,hb1⟩;have HB1:=hid (trE2 HBX hb1);have HA1:=hid ha1.list;have HOWN:=hid hown;clear ht1 ha1 hb1 hown hhd hX x0 x1 x2;go_wp2_with fail;obtain⟨Y,hY⟩:∃Y,w1.alloc (.cells #[.int .i64 H.k,.int .i64 H.n,.slice A1 H.l.length c1] 25)=Y:=⟨_,rfl⟩;have HBY0:=hid (show Below w1.heap.size w1 Y from by rw[←hY];exact(Below.refl _ _).alloc lrE2 _);have HBY:=hid (trE2 HB1 HBY0.out);have HKY:=hid (show Bk Y w1.heap.size 25 #[.int .i64 H.k,.int .i64 H.n,.slice A1 H.l.length c1]from by rw[←hY];exact Bk.new _ _ _);have y0:Y.cell? ⟨w1.heap.size,0,none⟩=some (.int .i64 H.k):=HKY.out.cell 0;have y1:Y.cell? ⟨w1.heap.size,1,none⟩=some (.int .i64 H.n):=HKY.out.cell 1;rw[hY];refine(CE.out _ HBY.out).mono ?_;rintro e w2 ⟨p,rfl,hent,hb2⟩;have HB2:=hid (trE2 HBY hb2);have HB12:=hid (trE2 HBY0 hb2);have HKH:=hid (HKY.out.below hb2 HKY.out.lt);have HENT:=hid hent;clear hb2 hent hY y0 y1;obtain⟨Z,hZ⟩:∃Z,w2.alloc (.cells (entC x p) 43)=Z:=⟨_,rfl⟩;have HBZ0:=hid (show Below w2.heap.size w2 Z from by rw[←hZ];exact(Below.refl _ _).alloc lrE2 _);have HBZ:=hid (trE2 HB2 HBZ0.out);have HKE:=hid (show Bk Z w2.heap.size 43 (entC x p)from by rw[←hZ];exact Bk.new _ _ _);have HKHZ:=hid (HKH.out.below HBZ0.out HKH.out.lt);have HK:=hid (fun V (hV:Below Z.heap.size Z V)=>(show V.cell? ⟨w1.heap.size,0,none⟩=some (.int .i64 H.k)∧V.cell? ⟨w1.heap.size,1,none⟩=some (.int .i64 H.n)∧V.cell? ⟨w2.heap.size,0,none⟩=some (.int .i64 x.k)∧V.cell? ⟨w2.heap.size,2,none⟩=some (.int .i64 x.t.k)∧V.cell? ⟨w2.heap.size,2+1,none⟩=some (.int .i64 x.t.n)∧V.cell? ⟨w2.heap.size,2+2,none⟩=some (.slice p.T x.t.l.length p.tc)from by
  have k1:=HKHZ.out.below hV HKHZ.out.lt;have k2:=HKE.out.below hV HKE.out.lt;exact⟨k1.cell 0,k1.cell 1,k2.cell 0,k2.cell 2,k2.cell 3,k2.cell 4⟩))
 have HAV:=hid (fun V (hV:Below Z.heap.size Z V)=>(show TermIn V (fun b=>((lo≤b∧b<th)∨B1=some ⟨b,0,none⟩)∧b<V.heap.size) (.node 0 0 ag) B1 d1 from HA1.out.imp (fun b o hb=>((trE2 HB12 HBZ0.out).trans (hV.mono (by have:=HB12.out.size;have:=HBZ0.out.size;omega))).cell (p:=⟨b,o,none⟩) hb.2) (fun b hb=>⟨hb.1,by have h1:=hb.2;have h2:=HB12.out.size;have h3:=HBZ0.out.size;have h4:=hV.size;omega⟩)));have HOW:=hid (fun b (hb:B1=some ⟨b,0,none⟩)=>(show w.heap.size≤b from by have h1:=HOWN.out b hb;have h2:=HZX.out;omega));have CB:=hid (fun V (hV:Below Z.heap.size Z V) (hk:x.k=2)=>(show Calls prog 140 #[.agg #[.int .i64 x.t.k,.int .i64 x.t.n,.slice p.T x.t.l.length p.tc]] V (fun e w'=>e= .returned (.int .i64 (pisN x.t:Nat))∧Below V.heap.size V w')from by
  have h1:=HET.out hk;have h2:=(HENT.out.ht.kept HBZ0.out (by have h3:=HHI.out;have h4:=HB2.out.size;omega)).kept hV (by have h3:=HHI.out;have h4:=HB2.out.size;have h5:=HBZ0.out.size;omega);exact wbinders_any x.t 0 hi p.T p.tc V h2 (by have h3:=HHI.out;have h4:=HB2.out.size;have h5:=HBZ0.out.size;have h6:=hV.size;omega) h1.1 h1.2))
 obtain⟨k0,k1,e0,e2,e3,e4⟩:=HK.out Z (Below.refl _ _);unfold entV;unfold entC at hZ;clear HA1 HOWN HENT HKH HKY HKE HKHZ CE;by_cases h6:H.k=6
 case neg=>
  have t6:(H.k !=6)=true:=by simpa using h6
  have HFF:=hid (show decide (H.k=6)=false from decide_eq_false h6);clear h6;go_wp2_with fail;refine bodyPost_ret (v:= .tuple #[.int .i64 0,.slice none 0 0,.bool false]) (by simp[results,results115,go_sem]) rfl ?_;exact⟨.inr ⟨by rw[HFF.out];rfl,rfl⟩,HBZ.out⟩
 case pos=>
  have t6:(H.k !=6)=false:=by rw[h6];rfl
  have HTT:=hid (show decide (H.k=6)=true from decide_eq_true h6);clear h6;by_cases h2:x.k=2
  case neg=>
   have t2:(x.k !=2)=true:=by simpa using h2
   have HFF:=hid (show decide (x.k=2)=false from decide_eq_false h2);clear h2;go_wp2_with fail;refine bodyPost_ret (v:= .tuple #[.int .i64 0,.slice none 0 0,.bool false]) (by simp[results,results115,go_sem]) rfl ?_;exact⟨.inr ⟨by rw[HTT.out,HFF.out];rfl,rfl⟩,HBZ.out⟩
  case pos=>
   have t2:(x.k !=2)=false:=by rw[h2];rfl
   have HT2:=hid (show decide (x.k=2)=true from decide_eq_true h2);have HX2:=hid h2;clear h2;go_wp2_with fail;clear hZ;refine(CB.out Z (Below.refl _ _) HX2.out).mono ?_;rintro e w3 ⟨rfl,hb3⟩;have HB3:=hid hb3;have HBF:=hid (trE2 HBZ hb3);clear hb3 k0 k1 e0 e2 e3 e4;obtain⟨k0,k1,e0,e2,e3,e4⟩:=HK.out w3 HB3.out;by_cases hn:na=pisN x.t
   case pos=>
    have t7:((na:Int) !=(pisN x.t:Nat))=false:=by rw[hn];simp
    have HNN:=hid (show decide (na=pisN x.t)=true from decide_eq_true hn);clear hn;go_wp2_with fail;refine bodyPost_ret (v:= .tuple #[.int .i64 H.n,.slice B1 na d1,.bool true]) (by simp[results,results115,go_sem]) rfl ?_;exact⟨.inl ⟨by rw[HTT.out,HT2.out,HNN.out];rfl,B1,d1,rfl,HAV.out w3 HB3.out,HOW.out⟩,HBF.out⟩
   case neg=>
    have t7:((na:Int) !=(pisN x.t:Nat))=true:=by simp;omega
    have HNN:=hid (show decide (na=pisN x.t)=false from decide_eq_false hn);clear hn;go_wp2_with fail;refine bodyPost_ret (v:= .tuple #[.int .i64 0,.slice none 0 0,.bool false]) (by simp[results,results115,go_sem]) rfl ?_;exact⟨.inr ⟨by rw[HTT.out,HT2.out,HNN.out];rfl,rfl⟩,HBF.out⟩
theorem mpars_any {l:List ET} {E A B:Option Addr} {hi g ce gr cap bap:Nat} (n:Int) (w:World) (h:MachAt w hi g l E ce gr A B cap bap):Calls prog 117 #[.pointer (some ⟨g,0,none⟩),.int .i64 n] w fun e w'=>e= .returned (.int .i64 (entT l n).a)∧Below w.heap.size w w':=by
 have CE:=hid (mentry_any n w h);obtain⟨x,hx⟩:∃x,entT l n=x:=⟨_,rfl⟩;rw[hx]at CE⊢;unfold GivesMe at CE;clear h hx;go_enter func117,ntmps117;go_wp2_with fail;refine CE.out.mono ?_;rintro e w1 ⟨p,rfl,hent,hb1⟩;have HB1:=hid hb1;clear hb1 hent;unfold entV;go_wp2_with fail;go_ret;exact⟨rfl,HB1.out⟩
theorem mfam_any {l:List ET} {E A B:Option Addr} {hi g ce gr cap bap:Nat} (n:Int) (w:World) (h:MachAt w hi g l E ce gr A B cap bap):Calls prog 116 #[.pointer (some ⟨g,0,none⟩),.int .i64 n] w fun e w'=>e= .returned (.int .i64 (entT l n).f)∧Below w.heap.size w w':=by
 have CE:=hid (mentry_any n w h);obtain⟨x,hx⟩:∃x,entT l n=x:=⟨_,rfl⟩;rw[hx]at CE⊢;unfold GivesMe at CE;clear h hx;go_enter func116,ntmps116;go_wp2_with fail;refine CE.out.mono ?_;rintro e w1 ⟨p,rfl,hent,hb1⟩;have HB1:=hid hb1;clear hb1 hent;unfold entV;go_wp2_with fail;go_ret;exact⟨rfl,HB1.out⟩
theorem RulesAt.wideR {w:World} {hi hi' g:Nat} {l:List ET} {A B:Option Addr} {cap bap:Nat} (h:RulesAt w hi g l A B cap bap) (h1:hi≤hi') (h2:hi'≤w.heap.size):RulesAt w hi' g l A B cap bap:=
 ⟨Nat.lt_of_lt_of_le h.gl h1,h2,h.c0,h.c1,h.ents.wide lrE2 h1,h.cons.wide lrE2 h1,h.fm,h.lc⟩
def GivesMn (l:List ET) (w:World) (e:Ending) (w':World):Prop:=
 if formedB l=true then ∃g E ce gr A B cap,e= .returned (.tuple #[.pointer (some ⟨g,0,none⟩),.int .i64 0])∧MachAt w' w'.heap.size g l E ce gr A B cap l.length∧w.heap.size≤g∧Below w.heap.size w w'
 else e= .returned (.tuple #[.pointer none,.int .i64 5])∧Below w.heap.size w w'
theorem mnew_any (l:List ET) (A:Option Addr) (cap lo hi:Nat) (w:World) (hl:l.length≤600) (hlc:l.length≤cap) (hn:EntsAt w lo hi A l) (hhi:hi≤w.heap.size) (hS:ShapesM w):
  Calls prog 26 #[.slice A l.length cap] w (GivesMn l w):=by
 have CI:=hid (inew_any l A cap lo hi w hl hlc hn hhi hS);have HG:Hid (∀e w',GivesMn l w e w'=if formedB l=true then ∃g E ce gr A B cap,e= .returned (.tuple #[.pointer (some ⟨g,0,none⟩),.int .i64 0])∧MachAt w' w'.heap.size g l E ce gr A B cap l.length∧w.heap.size≤g∧Below w.heap.size w w'
  else e= .returned (.tuple #[.pointer none,.int .i64 5])∧Below w.heap.size w w'):=hid (fun _ _=>rfl)
 obtain⟨f,hf⟩:∃f,formedB l=f:=⟨_,rfl⟩;have HFF:=hid hf;cases f with
 | false=>
  have CI:=hid (CI.out.mono fun _ _ h=>GivesNw.no hf h);clear hf hn hS hhi;go_enter func26,ntmps26;go_wp2_with fail;refine CI.out.mono ?_;rintro e w1 ⟨rfl,hb⟩;have HB:=hid hb;clear hb CI;go_wp2_with fail;go_ret2;rw[HG.out,if_neg (by rw[HFF.out];decide)];exact⟨rfl,HB.out⟩
 | true=>
  have CC:=hid (fun V (hV:Below w.heap.size w V)=>scopyP_any l A cap lo hi V hl (formed_cd hf) (hn.kept hV hhi) (by have:=hV.size;omega) (hS.kept hV));rw[copy_formed hf]at CC;have CI:=hid (CI.out.mono fun _ _ h=>GivesNw.yes hf h);unfold GivesEn at CC;clear hf hl hlc hn hS hhi;go_enter func26,ntmps26;go_wp2_with fail;refine CI.out.mono ?_;rintro e w1 ⟨gr,A1,B1,cap1,rfl,hr,hb⟩;have HB:=hid hb;have HR:=hid hr;clear hb hr CI;go_wp2_with fail;refine(CC.out _ HB.out).mono ?_;rintro e w2 ⟨A2,c2,rfl,he2,hl2,hb2⟩;have HR2:=hid (HR.out.kept hb2);have HB2:=hid (trE2 HB hb2);have HE2:=hid he2;have HZ2:=hid hb2.size;clear he2 hl2 hb2 CC;go_wp2_with fail;go_ret2;rw[HG.out,if_pos HFF.out];have HW:=(Below.refl w2.heap.size w2).alloc lrE2 (.cells #[.slice A2 l.length c2,.pointer (some ⟨gr,0,none⟩)] 95);have hk:=Bk.new w2 95 #[.slice A2 l.length c2,.pointer (some ⟨gr,0,none⟩)];have hz:=HZ2.out;have hlt:=hk.lt;exact⟨w2.heap.size,A2,c2,gr,A1,B1,cap1,rfl,⟨hk.lt,hk.cell 0,hk.cell 1,(HE2.out.kept HW lrE2).wide (Nat.zero_le _) HW.size,(HR2.out.below HW).wideR (by omega) lrE2⟩,HB2.out.size,HB2.out.alloc HB2.out.size _⟩
theorem con_small {l:List ET} (h:formedB l=true) {n:Int} (hk:(entT l n).k=2):0≤(entT l n).a∧(entT l n).a≤(pisN (entT l n).t:Nat)∧(entT l n).a≤24:=by
 obtain⟨m,hm,rfl,he⟩:=entT_in (l:=l) (n:=n) (by rw[hk];decide);rw[he]at hk⊢;obtain⟨d,hd,hc⟩:=con_facts h hm hk;have h1:=hc.a0;have h2:=hc.an;have h3:=hc.ai;have h4:=hc.i0;have h5:=hc.a;exact⟨by omega,h2,by omega⟩
def stuckE (l:List ET) (k n:Int) (t:TM):Prop:=conE l t=false∨(k=6∧(entT l (headT t).n).f≠(entT l n).f)∨(k=7∧(entT l (headT t).n).f≠n)
theorem mreduct_stuck {l:List ET} {E A B:Option Addr} {hi g ce gr cap bap:Nat} (k n:Int) (Ah Bt Rr:Option Addr) (mh ch m ct mr cr q:Nat) (ts:List TM) (P:Nat→Prop) (w:World) (h:MachAt w hi g l E ce gr A B cap bap) (hS:ShapesM w) (hB:TermIn w P (.node 0 0 ts) Bt ct) (hP:∀b,P b→b<w.heap.size) (hm:m=q+1) (hl:m≤ts.length)
    (hk:k=6∨k=7) (hw:waitsE l k n=true) (hs:shapedB (ts[q]'(by omega))=true) (hst:stuckE l k n (ts[q]'(by omega))):
    Calls prog 84 #[.pointer (some ⟨g,0,none⟩),.agg #[.int .i64 k,.int .i64 n,.slice Ah mh ch,.slice Bt m ct,.slice Rr mr cr]] w fun e w'=>e= .returned (.tuple #[.agg #[.int .i64 0,.int .i64 0,.slice none 0 0],.bool false,.int .i64 0])∧Below w.heap.size w w':=by
  have HM:=hid (fun V (hV:Below w.heap.size w V)=>h.below hV);have CE:=hid (fun V (hV:Below w.heap.size w V)=>mentry_any n V (h.below hV));have CT:=hid (fun V (hV:Below w.heap.size w V)=>target_any k n Ah Bt Rr mh ch m ct mr cr q ts P V (hB.imp (fun b o hb=>hV.cell (p:=⟨b,o,none⟩) (hP b hb)) (fun _ h=>h)) (fun b hb=>Nat.lt_of_lt_of_le (hP b hb) hV.size) hm hl);obtain⟨t,ht⟩:∃t,ts[q]'(by omega)=t:=⟨_,rfl⟩;rw[ht]at CT hs hst;have CC:=hid (fun(F:Option Addr) (cF:Nat) (V:World) (hV:Below w.heap.size w V) (hn:IsTerm V 0 w.heap.size t F cF)=>mcon_any t 0 w.heap.size F cF V (h.below hV) hn hV.size hs (hS.kept hV));have hfm:=h.rules.fm;have HSM:=hid (fun hk=>con_small (n:=(headT t).n) hfm hk);unfold waitsE at hw;unfold stuckE at hst;have CF:=hid (fun V (hV:Below w.heap.size w V)=>mfam_any (headT t).n V (h.below hV));have CP:=hid (fun V (hV:Below w.heap.size w V)=>mpars_any (headT t).n V (h.below hV));have HCE:=hid (fun(hc:conE l t=true)=>(show(entT l (headT t).n).k=2∧(argsT t).length=pisN (entT l (headT t).n).t from by
    unfold conE at hc;simp only[Bool.and_eq_true]at hc;exact⟨of_decide_eq_true hc.2.1,of_decide_eq_true hc.2.2⟩))
  obtain⟨x,hx⟩:∃x,entT l n=x:=⟨_,rfl⟩;obtain⟨y,hy⟩:∃y,entT l (headT t).n=y:=⟨_,rfl⟩;rw[hx]at CE hw hst;rw[hy]at HSM CF CP HCE hst;unfold GivesMe at CE;unfold GivesCon at CC;unfold termV at CT CC;obtain⟨H,hH⟩:∃H,(headT t).n=H:=⟨_,rfl⟩;rw[hH]at CC CF CP;obtain⟨na,hna⟩:∃na,(argsT t).length=na:=⟨_,rfl⟩;rw[hna]at CC HCE;have HNA:=hid hna;have h34: ¬ x.k=3:=by
    rw[Bool.and_eq_true]at hw;intro h3;rw[decide_eq_true h3]at hw;cases hw.2
  have t4:(k==4)=false:=by rcases hk with h|h<;>rw[h]<;>rfl
  have t3:(x.k==3)=false:=by simpa using h34
  have HST:=hid hst;have HP:=hid hP;obtain⟨X,hX⟩:∃X,(w.alloc (.cells #[.int .i64 k,.int .i64 n,.slice Ah mh ch,.slice Bt m ct,.slice Rr mr cr] 97)).alloc (.cells #[.int .i64 0,.int .i64 0,.slice none 0 0] 25)=X:=⟨_,rfl⟩;have HBX:=hid (show Below w.heap.size w X from by rw[←hX];exact((Below.refl _ _).alloc lrE2 _).alloc (by simp) _);have HKR:=hid (show Bk X w.heap.size 97 #[.int .i64 k,.int .i64 n,.slice Ah mh ch,.slice Bt m ct,.slice Rr mr cr]from by rw[←hX];exact(Bk.new _ _ _).alloc _);have HKT:=hid (show Bk X (w.heap.size+1) 25 #[.int .i64 0,.int .i64 0,.slice none 0 0]from by rw[←hX];exact Bk.last _ _ _ (by simp));have x1:X.cell? ⟨w.heap.size,1,none⟩=some (.int .i64 n):=HKR.out.cell 1;clear h hS hB hP hm hl hw hs hst ht hx hy hH hna hfm h34;go_enter func84,ntmps84;go_wp2_with fail;refine(CE.out _ HBX.out).mono ?_;rintro e w1 ⟨p,rfl,hent,hb1⟩;have HB1:=hid (trE2 HBX hb1);have HKR1:=hid (HKR.out.below hb1 HKR.out.lt);have HKT1:=hid (HKT.out.below hb1 HKT.out.lt);clear hb1 hent hX x1;obtain⟨Y,hY⟩:∃Y,w1.alloc (.cells (entC x p) 43)=Y:=⟨_,rfl⟩;have HBY0:=hid (show Below w1.heap.size w1 Y from by rw[←hY];exact(Below.refl _ _).alloc lrE2 _);have HBY:=hid (trE2 HB1 HBY0.out);have HKE:=hid (show Bk Y w1.heap.size 43 (entC x p)from by rw[←hY];exact Bk.new _ _ _);have HKRY:=hid (HKR1.out.below HBY0.out HKR1.out.lt);have HKTY:=hid (HKT1.out.below HBY0.out HKT1.out.lt);have HK:=hid (fun V (hV:Below Y.heap.size Y V)=>(show(V.cell? ⟨w.heap.size,0,none⟩=some (.int .i64 k)∧V.cell? ⟨w.heap.size,1,none⟩=some (.int .i64 n)∧V.cell? ⟨w.heap.size,2,none⟩=some (.slice Ah mh ch)∧V.cell? ⟨w.heap.size,3,none⟩=some (.slice Bt m ct)∧V.cell? ⟨w.heap.size,4,none⟩=some (.slice Rr mr cr))∧V.cell? ⟨w1.heap.size,0,none⟩=some (.int .i64 x.k)∧V.cell? ⟨w1.heap.size,8,none⟩=some (.int .i64 x.f)from by
    have k1:=HKRY.out.below hV HKRY.out.lt;have k2:=HKE.out.below hV HKE.out.lt;exact⟨⟨k1.cell 0,k1.cell 1,k1.cell 2,k1.cell 3,k1.cell 4⟩,k2.cell 0,k2.cell 8⟩))
  obtain⟨⟨k0,k1,k2,k3,k4⟩,e0,e8⟩:=HK.out Y (Below.refl _ _);unfold entV;unfold entC at hY;clear HKR HKT HKR1 HKT1 HKE HKRY;go_wp2_with fail;clear hY;refine(CT.out Y HBY.out).mono ?_;rintro e w2 ⟨F,cF,rfl,hn2,hb2⟩;have HB2:=hid hb2;have HBW2:=hid (trE2 HBY hb2);have HN2:=hid (show IsTerm w2 0 w.heap.size t F cF from hn2.imp (fun _ _ _=>rfl) (fun b hb=>⟨Nat.zero_le _,HP.out b hb⟩));clear hb2 hn2 k0 k1 k2 k3 k4 e0 e8;obtain⟨⟨k0,k1,k2,k3,k4⟩,e0,e8⟩:=HK.out w2 HB2.out;go_wp2_with fail;refine(CC.out F cF w2 HBW2.out HN2.out).mono ?_;rintro e w3 ⟨hres,hb3⟩;have HB3:=hid (trE2 HB2 hb3);have HBW3:=hid (trE2 HBW2 hb3);clear hb3 k0 k1 k2 k3 k4 e0 e8;obtain⟨⟨k0,k1,k2,k3,k4⟩,e0,e8⟩:=HK.out w3 HB3.out;have HKT3:=hid (HKTY.out.below HB3.out HKTY.out.lt);have hlt3:=HKT3.out.lt;have hfz:∀p,w3.frozen? ⟨w.heap.size+1,p,none⟩=false:=fun p=>HKT3.out.cold p;have d0:w3.cell? ⟨w.heap.size+1,0,none⟩=some (.int .i64 0):=HKT3.out.cell 0;have d1:w3.cell? ⟨w.heap.size+1,1,none⟩=some (.int .i64 0):=HKT3.out.cell 1;have d2:w3.cell? ⟨w.heap.size+1,2,none⟩=some (.slice none 0 0):=HKT3.out.cell 2;rcases hres with ⟨hc,Bc,dc,rfl,hargs, -⟩|⟨hc,rfl⟩
  case inr=>
    have B3:=((HKT3.out.at_ 0 (.int .i64 0)).at_ 1 (.int .i64 0)).at_ 2 (.slice none 0 0);have HS0:=hid (B3.cell 0);have HS1:=hid (B3.cell 1);have HS2:=hid (B3.cell 2);clear B3;go_wp2_with fail;refine bodyPost_ret (v:= .tuple #[.agg #[.int .i64 0,.int .i64 0,.slice none 0 0],.bool false,.int .i64 0]) (by simp[results,results84,go_sem,HS0.out,HS1.out,HS2.out]) rfl ?_;exact⟨rfl,Below.st (g:=w.heap.size+1) (q:=2) (Below.st (g:=w.heap.size+1) (q:=1) (Below.st (g:=w.heap.size+1) (q:=0) HBW3.out (by omega) _) (by omega) _) (by omega) _⟩
  case inl=>
    obtain⟨hy2,hnp⟩:=HCE.out hc;obtain⟨hs0,hs1,hs2⟩:=HSM.out hy2;obtain⟨a,hae⟩:∃a:Nat,y.a=(a:Int):=⟨y.a.toNat,by omega⟩;have HST2:=hid (show(k=6∧y.f≠x.f)∨(k=7∧y.f≠n)from by
      rcases HST.out with h|h|h
      · rw[hc]at h;cases h
      · exact .inl h
      · exact .inr h)
    rw[hae]at CP;have had:=hargs.bounds.1;have han:(a:Int)≤(na:Int):=by omega
    have hnd:(na:Int)≤(dc:Int):=by have:=HNA.out;omega
    have had2:(a:Int)≤(dc:Int):=by omega
    have HW3:=hid (fun V (hV:Below w3.heap.size w3 V)=>(show Below w.heap.size w V from trE2 HBW3 hV));clear hy2 hnp hs0 hs1 hs2 hae hargs hc had hk HB2 HBW2 HN2 CC CT CE k0 k1 k2 k3 k4 e0 e8 hfz d0 d1 d2;by_cases hcq:dc=a
    · obtain rfl:a=dc:=hcq.symm;go_wp2_with fail;go_upto_region 10 with fail
      go_cut [13,14]from 61 to 69 (fun s13 s14 wx=>s13= .int .i64 y.f∧Below w3.heap.size w3 wx)
      case first=>
        have hbk:=hid (show Below w3.heap.size w3 w3.drew from(Below.refl _ _).drew);go_region_held3 (fun w'=>True)
          (exact trivial)
          (first
          | (go_at_call 116
             refine(CF.out _ (HW3.out _ (by first|exact hbk.out|exact Below.refl _ _))).mono ?_;rintro e w4 ⟨rfl,hb4⟩;have hbk:=hid (by first|exact trE2 hbk hb4|exact(Below.refl w3.heap.size w3).trans hb4);clear hb4)
          | (go_at_call 117
             refine(CP.out _ (HW3.out _ (by first|exact hbk.out|exact Below.refl _ _))).mono ?_;rintro e w4 ⟨rfl,hb4⟩;have hbk:=hid (by first|exact trE2 hbk hb4|exact(Below.refl w3.heap.size w3).trans hb4);clear hb4))
        all_goals
          go_wp2_with fail;go_meet;case rel=>exact⟨rfl,hbk.out⟩
      case rest=>
        obtain⟨V0,hV0⟩:∃V0:World,V0=wc:=⟨_,rfl⟩;subst hV0;obtain⟨rfl,hbV⟩:=hcut;have HBV:=hid hbV;clear hbV;obtain⟨⟨k0,k1,k2,k3,k4⟩,e0,e8⟩:=HK.out V0 (trE2 HB3 HBV.out);have HKT4:=hid (HKT3.out.below HBV.out HKT3.out.lt);have HBW4:=hid (HW3.out V0 HBV.out);have hlt4:=HKT4.out.lt;have hfz:∀p,V0.frozen? ⟨w.heap.size+1,p,none⟩=false:=fun p=>HKT4.out.cold p;have d0:V0.cell? ⟨w.heap.size+1,0,none⟩=some (.int .i64 0):=HKT4.out.cell 0;have d1:V0.cell? ⟨w.heap.size+1,1,none⟩=some (.int .i64 0):=HKT4.out.cell 1;have d2:V0.cell? ⟨w.heap.size+1,2,none⟩=some (.slice none 0 0):=HKT4.out.cell 2;have B3:=((HKT4.out.at_ 0 (.int .i64 0)).at_ 1 (.int .i64 0)).at_ 2 (.slice none 0 0);have HS0:=hid (B3.cell 0);have HS1:=hid (B3.cell 1);have HS2:=hid (B3.cell 2);clear B3;rcases HST2.out with ⟨h6,h7⟩|⟨h6,h7⟩
        all_goals
          first
          | (have t6:(k==6)=true:=by rw[h6];rfl
             have t7:(k==7)=false:=by rw[h6];rfl
             have tf:(y.f==x.f)=false:=by simpa using h7)
          | (have t6:(k==6)=false:=by rw[h6];rfl
             have t7:(k==7)=true:=by rw[h6];rfl
             have tf:(y.f==n)=false:=by simpa using h7)
          clear h6 h7;go_wp2_with fail;refine bodyPost_ret (v:= .tuple #[.agg #[.int .i64 0,.int .i64 0,.slice none 0 0],.bool false,.int .i64 0]) (by simp[results,results84,go_sem,HS0.out,HS1.out,HS2.out]) rfl ?_;exact⟨rfl,Below.st (g:=w.heap.size+1) (q:=2) (Below.st (g:=w.heap.size+1) (q:=1) (Below.st (g:=w.heap.size+1) (q:=0) HBW4.out (by omega) _) (by omega) _) (by omega) _⟩
    · cases Bc with
      | none=>
        go_wp2_with fail;go_upto_region 10 with fail
        go_cut [13,14]from 61 to 69 (fun s13 s14 wx=>s13= .int .i64 y.f∧Below w3.heap.size w3 wx)
        case first=>
          have hbk:=hid (show Below w3.heap.size w3 w3.drew from(Below.refl _ _).drew);go_region_held3 (fun w'=>True)
            (exact trivial)
            (first
            | (go_at_call 116
               refine(CF.out _ (HW3.out _ (by first|exact hbk.out|exact Below.refl _ _))).mono ?_;rintro e w4 ⟨rfl,hb4⟩;have hbk:=hid (by first|exact trE2 hbk hb4|exact(Below.refl w3.heap.size w3).trans hb4);clear hb4)
            | (go_at_call 117
               refine(CP.out _ (HW3.out _ (by first|exact hbk.out|exact Below.refl _ _))).mono ?_;rintro e w4 ⟨rfl,hb4⟩;have hbk:=hid (by first|exact trE2 hbk hb4|exact(Below.refl w3.heap.size w3).trans hb4);clear hb4))
          all_goals
            go_wp2_with fail;go_meet;case rel=>exact⟨rfl,hbk.out⟩
        case rest=>
          obtain⟨V0,hV0⟩:∃V0:World,V0=wc:=⟨_,rfl⟩;subst hV0;obtain⟨rfl,hbV⟩:=hcut;have HBV:=hid hbV;clear hbV;obtain⟨⟨k0,k1,k2,k3,k4⟩,e0,e8⟩:=HK.out V0 (trE2 HB3 HBV.out);have HKT4:=hid (HKT3.out.below HBV.out HKT3.out.lt);have HBW4:=hid (HW3.out V0 HBV.out);have hlt4:=HKT4.out.lt;have hfz:∀p,V0.frozen? ⟨w.heap.size+1,p,none⟩=false:=fun p=>HKT4.out.cold p;have d0:V0.cell? ⟨w.heap.size+1,0,none⟩=some (.int .i64 0):=HKT4.out.cell 0;have d1:V0.cell? ⟨w.heap.size+1,1,none⟩=some (.int .i64 0):=HKT4.out.cell 1;have d2:V0.cell? ⟨w.heap.size+1,2,none⟩=some (.slice none 0 0):=HKT4.out.cell 2;have B3:=((HKT4.out.at_ 0 (.int .i64 0)).at_ 1 (.int .i64 0)).at_ 2 (.slice none 0 0);have HS0:=hid (B3.cell 0);have HS1:=hid (B3.cell 1);have HS2:=hid (B3.cell 2);clear B3;rcases HST2.out with ⟨h6,h7⟩|⟨h6,h7⟩
          all_goals
            first
            | (have t6:(k==6)=true:=by rw[h6];rfl
               have t7:(k==7)=false:=by rw[h6];rfl
               have tf:(y.f==x.f)=false:=by simpa using h7)
            | (have t6:(k==6)=false:=by rw[h6];rfl
               have t7:(k==7)=true:=by rw[h6];rfl
               have tf:(y.f==n)=false:=by simpa using h7)
            clear h6 h7;go_wp2_with fail;refine bodyPost_ret (v:= .tuple #[.agg #[.int .i64 0,.int .i64 0,.slice none 0 0],.bool false,.int .i64 0]) (by simp[results,results84,go_sem,HS0.out,HS1.out,HS2.out]) rfl ?_;exact⟨rfl,Below.st (g:=w.heap.size+1) (q:=2) (Below.st (g:=w.heap.size+1) (q:=1) (Below.st (g:=w.heap.size+1) (q:=0) HBW4.out (by omega) _) (by omega) _) (by omega) _⟩
      | some ad=>
        go_wp2_with fail;go_upto_region 10 with fail
        go_cut [13,14]from 61 to 69 (fun s13 s14 wx=>s13= .int .i64 y.f∧Below w3.heap.size w3 wx)
        case first=>
          have hbk:=hid (show Below w3.heap.size w3 w3.drew from(Below.refl _ _).drew);go_region_held3 (fun w'=>True)
            (exact trivial)
            (first
            | (go_at_call 116
               refine(CF.out _ (HW3.out _ (by first|exact hbk.out|exact Below.refl _ _))).mono ?_;rintro e w4 ⟨rfl,hb4⟩;have hbk:=hid (by first|exact trE2 hbk hb4|exact(Below.refl w3.heap.size w3).trans hb4);clear hb4)
            | (go_at_call 117
               refine(CP.out _ (HW3.out _ (by first|exact hbk.out|exact Below.refl _ _))).mono ?_;rintro e w4 ⟨rfl,hb4⟩;have hbk:=hid (by first|exact trE2 hbk hb4|exact(Below.refl w3.heap.size w3).trans hb4);clear hb4))
          all_goals
            go_wp2_with fail;go_meet;case rel=>exact⟨rfl,hbk.out⟩
        case rest=>
          obtain⟨V0,hV0⟩:∃V0:World,V0=wc:=⟨_,rfl⟩;subst hV0;obtain⟨rfl,hbV⟩:=hcut;have HBV:=hid hbV;clear hbV;obtain⟨⟨k0,k1,k2,k3,k4⟩,e0,e8⟩:=HK.out V0 (trE2 HB3 HBV.out);have HKT4:=hid (HKT3.out.below HBV.out HKT3.out.lt);have HBW4:=hid (HW3.out V0 HBV.out);have hlt4:=HKT4.out.lt;have hfz:∀p,V0.frozen? ⟨w.heap.size+1,p,none⟩=false:=fun p=>HKT4.out.cold p;have d0:V0.cell? ⟨w.heap.size+1,0,none⟩=some (.int .i64 0):=HKT4.out.cell 0;have d1:V0.cell? ⟨w.heap.size+1,1,none⟩=some (.int .i64 0):=HKT4.out.cell 1;have d2:V0.cell? ⟨w.heap.size+1,2,none⟩=some (.slice none 0 0):=HKT4.out.cell 2;have B3:=((HKT4.out.at_ 0 (.int .i64 0)).at_ 1 (.int .i64 0)).at_ 2 (.slice none 0 0);have HS0:=hid (B3.cell 0);have HS1:=hid (B3.cell 1);have HS2:=hid (B3.cell 2);clear B3;rcases HST2.out with ⟨h6,h7⟩|⟨h6,h7⟩
          all_goals
            first
            | (have t6:(k==6)=true:=by rw[h6];rfl
               have t7:(k==7)=false:=by rw[h6];rfl
               have tf:(y.f==x.f)=false:=by simpa using h7)
            | (have t6:(k==6)=false:=by rw[h6];rfl
               have t7:(k==7)=true:=by rw[h6];rfl
               have tf:(y.f==n)=false:=by simpa using h7)
            clear h6 h7;go_wp2_with fail;refine bodyPost_ret (v:= .tuple #[.agg #[.int .i64 0,.int .i64 0,.slice none 0 0],.bool false,.int .i64 0]) (by simp[results,results84,go_sem,HS0.out,HS1.out,HS2.out]) rfl ?_;exact⟨rfl,Below.st (g:=w.heap.size+1) (q:=2) (Below.st (g:=w.heap.size+1) (q:=1) (Below.st (g:=w.heap.size+1) (q:=0) HBW4.out (by omega) _) (by omega) _) (by omega) _⟩
theorem mstep_stuck {l:List ET} {E A B:Option Addr} {hi g ce gr cap bap:Nat} (k n:Int) (Ah Bt Rr:Option Addr) (mh ch m ct mr cr q:Nat) (F:Option Addr) (ts:List TM) (P:Nat→Prop) (w:World) (h:MachAt w hi g l E ce gr A B cap bap) (hS:ShapesM w) (hB:TermIn w P (.node 0 0 ts) Bt ct) (hP:∀b,P b→b<w.heap.size) (hm:m=q+1) (hl:m≤ts.length)
    (hk:k=6∨k=7) (hw:waitsE l k n=true) (hs:shapedB (ts[q]'(by omega))=true) (hst:stuckE l k n (ts[q]'(by omega))):
    Calls prog 59 #[.pointer (some ⟨g,0,none⟩),.agg #[.int .i64 k,.int .i64 n,.slice Ah mh ch,.slice Bt m ct,.slice Rr mr cr],.pointer F] w fun e w'=>e= .returned (.tuple #[.agg #[.int .i64 0,.int .i64 0,.slice none 0 0],.bool false,.int .i64 0])∧Below w.heap.size w w':=by
  have CR:=hid (fun V (hV:Below w.heap.size w V)=>mreduct_stuck k n Ah Bt Rr mh ch m ct mr cr q ts P V (h.below hV) (hS.kept hV) (hB.imp (fun b o hb=>hV.cell (p:=⟨b,o,none⟩) (hP b hb)) (fun _ h=>h)) (fun b hb=>Nat.lt_of_lt_of_le (hP b hb) hV.size) hm hl hk hw hs hst);obtain⟨X,hX⟩:∃X,(w.alloc (.cells #[.int .i64 k,.int .i64 n,.slice Ah mh ch,.slice Bt m ct,.slice Rr mr cr] 97)).alloc (.cells #[.int .i64 0,.int .i64 0,.slice none 0 0] 25)=X:=⟨_,rfl⟩;have HBX:=hid (show Below w.heap.size w X from by rw[←hX];exact((Below.refl _ _).alloc lrE2 _).alloc (by simp) _);have HKR:=hid (show Bk X w.heap.size 97 #[.int .i64 k,.int .i64 n,.slice Ah mh ch,.slice Bt m ct,.slice Rr mr cr]from by rw[←hX];exact(Bk.new _ _ _).alloc _);have HKT:=hid (show Bk X (w.heap.size+1) 25 #[.int .i64 0,.int .i64 0,.slice none 0 0]from by rw[←hX];exact Bk.last _ _ _ (by simp));have x0:X.cell? ⟨w.heap.size,0,none⟩=some (.int .i64 k):=HKR.out.cell 0;have x1:X.cell? ⟨w.heap.size,1,none⟩=some (.int .i64 n):=HKR.out.cell 1;have x2:X.cell? ⟨w.heap.size,2,none⟩=some (.slice Ah mh ch):=HKR.out.cell 2;have x3:X.cell? ⟨w.heap.size,3,none⟩=some (.slice Bt m ct):=HKR.out.cell 3;have x4:X.cell? ⟨w.heap.size,4,none⟩=some (.slice Rr mr cr):=HKR.out.cell 4;clear h hS hB hP hm hl hk hw hs hst;go_enter func59,ntmps59;go_wp2_with fail;refine(CR.out X HBX.out).mono ?_;rintro e w1 ⟨rfl,hb1⟩;have HB1:=hid (trE2 HBX hb1);have HK1:=hid (HKT.out.below hb1 HKT.out.lt);have hlt:=HK1.out.lt;have hfz:∀p,w1.frozen? ⟨w.heap.size+1,p,none⟩=false:=fun p=>HK1.out.cold p;have d0:w1.cell? ⟨w.heap.size+1,0,none⟩=some (.int .i64 0):=HK1.out.cell 0;have d1:w1.cell? ⟨w.heap.size+1,1,none⟩=some (.int .i64 0):=HK1.out.cell 1;have d2:w1.cell? ⟨w.heap.size+1,2,none⟩=some (.slice none 0 0):=HK1.out.cell 2;clear hb1 hX x0 x1 x2 x3 x4;have B4:=(((HK1.out.at_ 0 (.int .i64 0)).at_ 1 (.int .i64 0)).at_ 2 (.slice none 0 0)).al (.cells #[.int .i64 0,.int .i64 0,.slice none 0 0] 25);have HS0:=hid (B4.cell 0);have HS1:=hid (B4.cell 1);have HS2:=hid (B4.cell 2);clear B4;go_wp2_with fail;refine bodyPost_ret (v:= .tuple #[.agg #[.int .i64 0,.int .i64 0,.slice none 0 0],.bool false,.int .i64 0]) (by simp[results,results59,go_sem,HS0.out,HS1.out,HS2.out]) rfl ?_;have B6:=Below.st (g:=w.heap.size+1) (q:=2) (Below.st (g:=w.heap.size+1) (q:=1) (Below.st (g:=w.heap.size+1) (q:=0) HB1.out (by omega) (.int .i64 0)) (by omega) (.int .i64 0)) (by omega) (.slice none 0 0);exact⟨rfl,B6.alloc B6.size _⟩
def Put3 (w:World) (b o:Nat) (t:TM) (F:Option Addr) (C:Nat) (w':World):Prop:=∃X,Below w.heap.size w X∧w'=((X.setCell ⟨b,o,none⟩ (.int .i64 t.k)).setCell ⟨b,o+1,none⟩ (.int .i64 t.n)).setCell ⟨b,o+2,none⟩ (.slice F t.l.length C)
theorem meet_any (k n:Int) (Ah Rr:Option Addr) (b o:Nat) (mh ch m ct mr cr q:Nat) (x t:TM) (Fx F:Option Addr) (Cx C:Nat) (w:World) (hm:m=q+1) (hmm:m≤maxLen) (hb:b<w.heap.size) (hf:∀r,r<3→w.frozen? ⟨b,o+q*3+r,none⟩=false) (hx:Cells3 w b (o+q*3) x Fx Cx):
  Calls prog 58 #[.agg #[.int .i64 k,.int .i64 n,.slice Ah mh ch,.slice (some ⟨b,o,none⟩) m ct,.slice Rr mr cr],termV t F C] w fun e w'=>e= .returned (.tuple #[])∧Put3 w b (o+q*3) t F C w':=by
 obtain⟨l0,l1,l2⟩:=hx;unfold termV;obtain⟨X,hX⟩:∃X,(w.alloc (.cells #[.int .i64 k,.int .i64 n,.slice Ah mh ch,.slice (some ⟨b,o,none⟩) m ct,.slice Rr mr cr] 97)).alloc (.cells #[.int .i64 t.k,.int .i64 t.n,.slice F t.l.length C] 25)=X:=⟨_,rfl⟩;have HBX:=hid (show Below w.heap.size w X from by rw[←hX];exact((Below.refl _ _).alloc lrE2 _).alloc (by simp) _);have HKR:=hid (show Bk X w.heap.size 97 #[.int .i64 k,.int .i64 n,.slice Ah mh ch,.slice (some ⟨b,o,none⟩) m ct,.slice Rr mr cr]from by rw[←hX];exact(Bk.new _ _ _).alloc _);have HKT:=hid (show Bk X (w.heap.size+1) 25 #[.int .i64 t.k,.int .i64 t.n,.slice F t.l.length C]from by rw[←hX];exact Bk.last _ _ _ (by simp));have r0:X.cell? ⟨w.heap.size+1,0,none⟩=some (.int .i64 t.k):=HKT.out.cell 0;have r1:X.cell? ⟨w.heap.size+1,1,none⟩=some (.int .i64 t.n):=HKT.out.cell 1;have r2:X.cell? ⟨w.heap.size+1,2,none⟩=some (.slice F t.l.length C):=HKT.out.cell 2;have y3:X.cell? ⟨w.heap.size,3,none⟩=some (.slice (some ⟨b,o,none⟩) m ct):=HKR.out.cell 3;have x0:X.cell? ⟨b,o+q*3,none⟩=some (.int .i64 x.k):=(HBX.out.cell (p:=⟨b,o+q*3,none⟩) hb).trans l0;have x1:X.cell? ⟨b,o+q*3+1,none⟩=some (.int .i64 x.n):=(HBX.out.cell (p:=⟨b,_,none⟩) hb).trans l1;have x2:X.cell? ⟨b,o+q*3+2,none⟩=some (.slice Fx x.l.length Cx):=(HBX.out.cell (p:=⟨b,_,none⟩) hb).trans l2;have hlb:b<X.heap.size:=by have:=HBX.out.size;omega
 have hfb:∀r,r<3→X.frozen? ⟨b,o+q*3+r,none⟩=false:=fun r hr=>by
  have h1:=hf r hr;unfold World.frozen? at h1⊢;rw[HBX.out.block b hb];exact h1
 have f0:X.frozen? ⟨b,o+q*3,none⟩=false:=hfb 0 (by omega);have f1:X.frozen? ⟨b,o+q*3+1,none⟩=false:=hfb 1 (by omega);have f2:X.frozen? ⟨b,o+q*3+2,none⟩=false:=hfb 2 (by omega);have hw:IntKind.i64.wrap ((m:Int) - 1)=(q:Int):=by rw[IntWalk.i64_in _ (by unfold maxLen at hmm;omega)];omega
 have hqm:(q:Int)<(m:Int):=by omega
 clear l0 l1 l2 hm hmm hf hfb;go_enter func58,ntmps58;go_wp2_with fail;refine bodyPost_end (v:= .tuple #[]) (by simp[results,results58,go_sem]) rfl ?_;exact⟨rfl,X,HBX.out,rfl⟩
theorem three_in {w:World} {b o:Nat} {x t:TM} {Fx F:Option Addr} {Cx C:Nat} (h:Cells3 w b o x Fx Cx):Cells3 (((w.setCell ⟨b,o,none⟩ (.int .i64 t.k)).setCell ⟨b,o+1,none⟩ (.int .i64 t.n)).setCell ⟨b,o+2,none⟩ (.slice F t.l.length C)) b o t F C:=by
 obtain⟨h0,h1,h2⟩:=h;have n01:(⟨b,o,none⟩:Addr)≠⟨b,o+1,none⟩:=fun e=>by injection e with _ e2;omega
 have n02:(⟨b,o,none⟩:Addr)≠⟨b,o+2,none⟩:=fun e=>by injection e with _ e2;omega
 have n12:(⟨b,o+1,none⟩:Addr)≠⟨b,o+2,none⟩:=fun e=>by injection e with _ e2;omega
 refine⟨?_, ?_, ?_⟩
 ·rw[World.cell?_setCell_other _ _ _ _ (Ne.symm n02),World.cell?_setCell_other _ _ _ _ (Ne.symm n01),World.cell?_setCell_same' _ _ _ (by rw[h0];rfl)]
 ·rw[World.cell?_setCell_other _ _ _ _ (Ne.symm n12),World.cell?_setCell_same' _ _ _ (by rw[World.cell?_setCell_other _ _ _ _ n01,h1];rfl)]
 ·rw[World.cell?_setCell_same' _ _ _ (by rw[World.cell?_setCell_other _ _ _ _ n12,World.cell?_setCell_other _ _ _ _ n02,h2];rfl)]
theorem three_out {w:World} {b o b' o':Nat} {t:TM} {F:Option Addr} {C:Nat} (h:b'≠b∨o'<o∨o+2<o'):(((w.setCell ⟨b,o,none⟩ (.int .i64 t.k)).setCell ⟨b,o+1,none⟩ (.int .i64 t.n)).setCell ⟨b,o+2,none⟩ (.slice F t.l.length C)).cell? ⟨b',o',none⟩=w.cell? ⟨b',o',none⟩:=by
 have n0:(⟨b,o,none⟩:Addr)≠⟨b',o',none⟩:=fun e=>by injection e with e1 e2;omega
 have n1:(⟨b,o+1,none⟩:Addr)≠⟨b',o',none⟩:=fun e=>by injection e with e1 e2;omega
 have n2:(⟨b,o+2,none⟩:Addr)≠⟨b',o',none⟩:=fun e=>by injection e with e1 e2;omega
 rw[World.cell?_setCell_other _ _ _ _ n2,World.cell?_setCell_other _ _ _ _ n1,World.cell?_setCell_other _ _ _ _ n0]
theorem RowT.put {w w':World} {P:Nat→Prop} {ts:List TM} {b d q:Nat} {t:TM} {G:Option Addr} {D:Nat} (h:RowT w P ts (some ⟨b,0,none⟩) d) (hq:q<ts.length) (hp:Put3 w b (0+q*3) t G D w') (ht:TermIn w (fun x=>P x∧x<w.heap.size) t G D):RowT w' P (ts.set q t) (some ⟨b,0,none⟩) d:=by
 obtain⟨X,hX,rfl⟩:=hp;have htX:TermIn X (fun x=>P x∧x<X.heap.size) t G D:=ht.imp (fun x o hx=>hX.cell (p:=⟨x,o,none⟩) hx.2) (fun _ hx=>⟨hx.1,Nat.lt_of_lt_of_le hx.2 hX.size⟩);obtain⟨F,C,h1,h2,h3,h4⟩:=h.below hX;obtain⟨b',hA,hb,hnp,hfr,hcc⟩:=h3 (by omega);injection hA with hA;injection hA with hA;subst hA;have hz:(((X.setCell ⟨b,0+q*3,none⟩ (.int .i64 t.k)).setCell ⟨b,0+q*3+1,none⟩ (.int .i64 t.n)).setCell ⟨b,0+q*3+2,none⟩ (.slice G t.l.length D)).heap.size=X.heap.size:=by simp[World.setCell]
 have far:∀{u:TM} {A:Option Addr} {c:Nat},TermIn X (fun x=>P x∧x<X.heap.size) u A c→TermIn (((X.setCell ⟨b,0+q*3,none⟩ (.int .i64 t.k)).setCell ⟨b,0+q*3+1,none⟩ (.int .i64 t.n)).setCell ⟨b,0+q*3+2,none⟩ (.slice G t.l.length D)) (fun x=>P x∧x<(((X.setCell ⟨b,0+q*3,none⟩ (.int .i64 t.k)).setCell ⟨b,0+q*3+1,none⟩ (.int .i64 t.n)).setCell ⟨b,0+q*3+2,none⟩ (.slice G t.l.length D)).heap.size) u A c:=
  fun hu=>hu.imp (fun x o' hx=>three_out (b:=b) (b':=x) (Or.inl (fun e=>hnp (by rw[←e];exact hx.1)))) (fun x hx=>⟨hx.1,by rw[hz];exact hx.2⟩)
 refine⟨fun i=>if i=q then G else F i,fun i=>if i=q then D else C i,by rw[List.length_set];exact h1,h2,fun _=>⟨b,rfl,by rw[hz];exact hb,hnp,fun j hj=> ?_,fun i hi=> ?_⟩,fun i hi=> ?_⟩
 ·rw[List.length_set]at hj;have hf:=hfr j hj;obtain⟨c0,c1,c2⟩:=hcc q hq;rw[World.frozen?_setCell,World.frozen?_setCell,World.frozen?_setCell];exact hf
 ·have hi2:i<ts.length:=by rw[List.length_set]at hi;exact hi
  by_cases hiq:i=q
  ·subst hiq;dsimp only
   rw[if_pos rfl,if_pos rfl,List.getElem_set_self];exact three_in (hcc i hi2)
  ·dsimp only
   rw[if_neg hiq,if_neg hiq,List.getElem_set_ne (fun e=>hiq e.symm)];obtain⟨c0,c1,c2⟩:=hcc i hi2;refine⟨?_, ?_, ?_⟩
   ·rw[three_out (Or.inr (by omega))];exact c0
   ·rw[three_out (Or.inr (by omega))];exact c1
   ·rw[three_out (Or.inr (by omega))];exact c2
 ·have hi2:i<ts.length:=by rw[List.length_set]at hi;exact hi
  by_cases hiq:i=q
  ·subst hiq;dsimp only
   rw[if_pos rfl,if_pos rfl,List.getElem_set_self];exact far htX
  ·dsimp only
   rw[if_neg hiq,if_neg hiq,List.getElem_set_ne (fun e=>hiq e.symm)];exact far (h4 i hi2)
end Go.Proofs.YtchllgkgjompgaaGreatDoor
