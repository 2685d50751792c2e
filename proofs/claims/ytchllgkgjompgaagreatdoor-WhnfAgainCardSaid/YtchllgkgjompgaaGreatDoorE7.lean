import Derived.Test.YtchllgkgjompgaaGreatDoorE0
import Derived.Test.YtchllgkgjompgaaGreatDoorE6
import Derived.Test.YtchllgkgjompgaaGreatDoorM6
import Derived.Test.YtchllgkgjompgaaGreatDoorSgClosed
import Derived.Test.YtchllgkgjompgaaGreatDoorI2
import Derived.Deep.RegionHeld3
import Derived.Test.YtchllgkgjompgaaGreatDoorE4
namespace Go.Proofs.YtchllgkgjompgaaGreatDoor
set_option maxHeartbeats 4000000
set_option maxRecDepth 100000
open Go.RowKit
set_option linter.unusedVariables false
open Lib(hid)
open Go.Proofs.Tryz
theorem lrE7{n:Nat}:n≤n:=Nat.le_refl n
theorem trE7{a b c:World}(x:Hid (Below a.heap.size a b))(y:Below b.heap.size b c):Below a.heap.size a c:=x.out.trans (y.mono x.out.size)
theorem light14_any (l n:Nat) (E A:Option Addr) (ce:Nat) (t:TM) (cap:Nat) (w:World) (hl:l≤9223372036854775807) (ht:IsTerm w 0 w.heap.size t A cap) (f:Int):
  Calls prog 27 #[.slice E l ce,termV t A cap,.int .i64 f] w fun e w'=>∃b,e= .returned (.bool b)∧(b=true→l≤60∧f≤400)∧Below w.heap.size w w':=by
 obtain⟨X,hX⟩:∃X,w.alloc (.cells #[.int .i64 t.k,.int .i64 t.n,.slice A t.l.length cap] 25)=X:=⟨_,rfl⟩;have HBX:=hid (show Below w.heap.size w X from by rw[←hX];exact(Below.refl _ _).alloc lrE7 _);have HKt:=hid (show Bk X w.heap.size 25 #[.int .i64 t.k,.int .i64 t.n,.slice A t.l.length cap]from by rw[←hX];exact Bk.new _ _ _);have CS:=hid (refTSize_any t 0 w.heap.size A cap X (ht.kept HBX.out lrE7) HBX.out.size);have t0:X.cell? ⟨w.heap.size,0,none⟩=some (.int .i64 t.k):=HKt.out.cell 0;have t1:X.cell? ⟨w.heap.size,1,none⟩=some (.int .i64 t.n):=HKt.out.cell 1;have t2:X.cell? ⟨w.heap.size,2,none⟩=some (.slice A t.l.length cap):=HKt.out.cell 2;obtain⟨y,hy⟩:∃y:Int,((topN t.size:Nat):Int)=y:=⟨_,rfl⟩;rw[hy]at CS;unfold termV at CS;unfold termV;clear ht hy;have h0:(l:Int)≤9223372036854775807:=by omega
 by_cases h1:l≤60
 ·have c1:decide ((l:Int)≤60)=true:=decide_eq_true (by omega);by_cases h2:f≤400
  ·have c2:decide (f≤400)=true:=decide_eq_true h2;have H1:=hid h1;have H2:=hid h2;clear h1 h2;go_enter func27,ntmps27;go_wp2_with fail;refine CS.out.mono ?_;rintro e w1 ⟨rfl,hb1⟩;have HB1:=hid (trE7 HBX hb1);clear hb1 t0 t1 t2 hX;go_wp2_with fail;go_ret;exact⟨_,rfl,fun _=>⟨H1.out,H2.out⟩,HB1.out⟩
  ·have c2:decide (f≤400)=false:=decide_eq_false h2;clear h1 h2;go_enter func27,ntmps27;go_wp2_with fail;go_ret;exact⟨_,rfl,fun h=>(by cases h),HBX.out⟩
 ·have c1:decide ((l:Int)≤60)=false:=decide_eq_false (by omega);clear h1;go_enter func27,ntmps27;go_wp2_with fail;go_ret;exact⟨_,rfl,fun h=>(by cases h),HBX.out⟩
def OnOut (t:TM) (gf:Nat) (w:World) (e:Ending) (w':World):Prop:=
 Up gf w w'∧((∃G c,e= .returned (.tuple #[.agg #[.int .i64 t.k,.int .i64 t.n,.slice G t.l.length c],.bool false,.int .i64 0])∧IsTerm w' w.heap.size w'.heap.size t G c)∨
  ∃G c,e= .returned (.tuple #[.agg #[.int .i64 0,.int .i64 0,.slice G 0 c],.bool false,.int .i64 8]))
theorem RowT.impQ {w:World} {P P':Nat→Prop} {ts:List TM} {A:Option Addr} {d:Nat} (h:RowT w P ts A d) (hP:∀b,P b→P' b) (hA:∀b,A=some ⟨b,0,none⟩→ ¬ P' b):RowT w P' ts A d:=by
 obtain⟨F,C,h1,h2,h3,h4⟩:=h;refine⟨F,C,h1,h2,fun h0=> ?_,fun i hi=>(h4 i hi).imp (fun _ _ _=>rfl) (fun b hb=>⟨hP b hb.1,hb.2⟩)⟩;obtain⟨b,e,k1,k2,k3⟩:=h3 h0;exact⟨b,e,k1,hA b e,k3⟩
theorem up_put {gf:Nat} {w U W:World} (h:Up gf w U) {b o:Nat} {t:TM} {F:Option Addr} {C:Nat} (hp:Put3 U b o t F C W) (hb:w.heap.size≤b):Up gf w W:=by
 obtain⟨X,hX,rfl⟩:=hp;have hk:=h.trans (Up.of hX);exact Up.st (q:=o+2) (Up.st (q:=o+1) (Up.st (q:=o) hk hb _) hb _) hb _
theorem mOnce_whnf {l:List ET} {hi g gf a:Nat} {f:Int} (t:TM) (A:Option Addr) (cap:Nat) (w0 w:World) (h:EnvW w0 w l hi g gf f a) (ht:TermIn w (fun b=>b<w.heap.size∧b≠gf) t A cap) (hr:trightB t 1048577 l.length=true) (hw:Whnf l t):
  Calls prog 30 #[.pointer (some ⟨g,0,none⟩),termV t A cap,.pointer (some ⟨gf,0,none⟩)] w (OnOut t gf w):=by
 have hgf:=h.t.lt;have hIT:IsTerm w 0 w.heap.size t A cap:=ht.isT (fun b hb=>hb.1);obtain⟨X,hX⟩:∃X,(w.alloc (.cells #[.int .i64 t.k,.int .i64 t.n,.slice A t.l.length cap] 25)).alloc (.cells #[.int .i64 0,.int .i64 0,.slice none 0 0] 25)=X:=⟨_,rfl⟩;have HBX:=hid (show Below w.heap.size w X from by rw[←hX];exact((Below.refl _ _).alloc lrE7 _).alloc (by simp) _);have HKt:=hid (show Bk X w.heap.size 25 #[.int .i64 t.k,.int .i64 t.n,.slice A t.l.length cap]from by rw[←hX];exact(Bk.new _ _ _).alloc _);have HKr:=hid (show Bk X (w.heap.size+1) 25 #[.int .i64 0,.int .i64 0,.slice none 0 0]from by rw[←hX];exact Bk.last _ _ _ (by simp));have x0:X.cell? ⟨w.heap.size,0,none⟩=some (.int .i64 t.k):=HKt.out.cell 0;have x1:X.cell? ⟨w.heap.size,1,none⟩=some (.int .i64 t.n):=HKt.out.cell 1;have x2:X.cell? ⟨w.heap.size,2,none⟩=some (.slice A t.l.length cap):=HKt.out.cell 2;have hsh:=right_shaped hr;have HFM:=hid h.m.fm;have CM:=hid (mmay_any t A cap X (h.below HBX.out).mach ((hIT.kept HBX.out lrE7).wide lrE7 HBX.out.size) (h.below HBX.out).shp);have HE:=hid (fun V (hV:Below w.heap.size w V)=>h.below hV);have HTV:=hid (fun V (hV:Below w.heap.size w V)=>(show TermIn V (fun b=>b<w.heap.size∧b≠gf) t A cap from TermIn.imp (fun b o hb=>hV.cell (p:=⟨b,o,none⟩) hb.1) (fun b hb=>hb) ht));have HSH:=hid hsh;have CC:=hid (fun(F:Option Addr) (cF:Nat) (V:World) (hV:Below w0.heap.size w0 V) (hu:IsTerm V 0 V.heap.size t F cF)=>copy_to t 0 V.heap.size F cF V hu lrE7 (h.s.kept hV));have HW0:=hid h.b;have HLE:=hid h.le;unfold CopyTo at CC;unfold termV at CC;rw[hr]at CM;have HWH:=hid hw;have HGF:=hid hgf;unfold termV;clear h ht hIT hsh hr hw hgf;go_enter func30,ntmps30;go_wp2_with fail;refine CM.out.mono ?_;rintro e w1 ⟨rfl,hb1⟩;have HB1:=hid (trE7 HBX hb1);have Ht1:=hid (HKt.out.below hb1 HKt.out.lt);have Hr1:=hid (HKr.out.below hb1 HKr.out.lt);have t0:w1.cell? ⟨w.heap.size,0,none⟩=some (.int .i64 t.k):=Ht1.out.cell 0;have t1:w1.cell? ⟨w.heap.size,1,none⟩=some (.int .i64 t.n):=Ht1.out.cell 1;have t2:w1.cell? ⟨w.heap.size,2,none⟩=some (.slice A t.l.length cap):=Ht1.out.cell 2;clear hb1 hX x0 x1 x2;rcases HWH.out with hno|⟨r,hrx,hwt,hrun⟩
 case inl=>
  have CR:=hid (mredexR_no t (fun b=>b<w.heap.size∧b≠gf) A cap w1 (HE.out w1 HB1.out).mach (HTV.out w1 HB1.out) (fun b hb=>Nat.lt_of_lt_of_le hb.1 HB1.out.size) HSH.out (HE.out w1 HB1.out).shp hno);unfold termV NoRedex at CR;clear hno;go_wp2_with fail;refine CR.out.mono ?_;rintro e w2 ⟨rfl,hb2⟩;have HB2:=hid (trE7 HB1 hb2);go_upto_region 4 with fail
  obtain⟨Y,hY⟩:∃Y,w2.alloc (.cells #[.int .i64 0,.int .i64 0,.slice none 0 0,.slice none 0 0,.slice none 0 0] 97)=Y:=⟨_,rfl⟩;rw[hY];have HBY:=hid (show Below w.heap.size w Y from by rw[←hY];exact HB2.out.alloc HB2.out.size _);have HBY1:=hid (show Below w1.heap.size w1 Y from by rw[←hY];exact hb2.alloc hb2.size _);have Ht2:=hid (Ht1.out.below HBY1.out Ht1.out.lt);have Hr2:=hid (Hr1.out.below HBY1.out Hr1.out.lt);have HUY:=hid (Up.of (b:=gf) HBY.out);have CCY:=hid (CC.out A cap Y (trE7 HW0 HBY.out) ((HTV.out Y HBY.out).isT (fun b hb=>Nat.lt_of_lt_of_le hb.1 HBY.out.size)));clear hb2 hY t0 t1 t2;have u0:Y.cell? ⟨w.heap.size,0,none⟩=some (.int .i64 t.k):=Ht2.out.cell 0;have u1:Y.cell? ⟨w.heap.size,1,none⟩=some (.int .i64 t.n):=Ht2.out.cell 1;have u2:Y.cell? ⟨w.heap.size,2,none⟩=some (.slice A t.l.length cap):=Ht2.out.cell 2;go_wp2_with fail;refine CCY.out.mono ?_;rintro e w3 ⟨F3,c3,rfl,hc3,hb3⟩;rw[copyT_shaped HSH.out]at hc3⊢;clear u0 u1 u2;have HC3:=hid hc3;have HP3:=hid (HUY.out.trans (Up.of hb3));have Hr3:=hid (Hr2.out.below hb3 Hr2.out.lt);have HZV:=hid (show w.heap.size+2≤Y.heap.size from by have:=Hr2.out.lt;omega);clear hb3 hc3;have hlr3:=Hr3.out.lt;have hfr:∀q,w3.frozen? ⟨w.heap.size+1,q,none⟩=false:=fun q=>Hr3.out.cold q;have r0:w3.cell? ⟨w.heap.size+1,0,none⟩=some (.int .i64 0):=Hr3.out.cell 0;have r1:w3.cell? ⟨w.heap.size+1,1,none⟩=some (.int .i64 0):=Hr3.out.cell 1;have r2:w3.cell? ⟨w.heap.size+1,2,none⟩=some (.slice none 0 0):=Hr3.out.cell 2;have B5:=((Hr3.out.at_ 0 (.int .i64 t.k)).at_ 1 (.int .i64 t.n)).at_ 2 (.slice F3 t.l.length c3);have HS0:=hid (B5.cell 0);have HS1:=hid (B5.cell 1);have HS2:=hid (B5.cell 2);clear B5;go_wp2_with fail;have hu:=Up.st (q:=2) (Up.st (q:=1) (Up.st (q:=0) HP3.out (g:=w.heap.size+1) (by omega) (.int .i64 t.k)) (g:=w.heap.size+1) (by omega) (.int .i64 t.n)) (g:=w.heap.size+1) (by omega) (.slice F3 t.l.length c3);refine bodyPost_ret (v:= .tuple #[.agg #[.int .i64 t.k,.int .i64 t.n,.slice F3 t.l.length c3],.bool false,.int .i64 0]) (by simp[results,results30,go_sem,HS0.out,HS1.out,HS2.out]) rfl ?_;exact⟨hu,.inl ⟨F3,c3,rfl,(TermIn.three (g:=w.heap.size+1) HC3.out (fun y hy=>by have:=hy.1;have:=HZV.out;omega) _ _ _).imp (fun _ _ _=>rfl) (fun y hy=>⟨by have:=hy.1;have:=HZV.out;omega,by rw[size_three];exact hy.2⟩)⟩⟩
 case inr=>
  have hpos0:=redX_pos HFM.out hrx hwt;have HROK:=hid (redX_ok HFM.out HSH.out hrx);have CR:=hid (mredexR_yes t r (fun b=>b<w.heap.size∧b≠gf) A cap w1 (HE.out w1 HB1.out).mach (HTV.out w1 HB1.out) (fun b hb=>Nat.lt_of_lt_of_le hb.1 HB1.out.size) HSH.out (HE.out w1 HB1.out).shp hrx);have HPOS:=hid hpos0;have HRUN:=hid hrun;have HWT:=hid (show waitsE l r.hd.k r.hd.n=true from hwt);unfold termV at CR;clear hrx hwt hrun hpos0;go_wp2_with fail;refine CR.out.mono ?_;rintro e w2 ⟨A1,c1,B1,d1,RR,rfl,hRR,hh1,hr1,hf1,hd1,hb2⟩;have hne1:0<(r.ts++r.rs).length:=by rw[List.length_append];have:=HPOS.out;omega
  obtain⟨b1,rfl⟩:∃b1,B1=some ⟨b1,0,none⟩:=by
   obtain⟨F9,C9,k1,k2,k3,k4⟩:=hr1;obtain⟨b,e,_⟩:=k3 hne1;exact⟨b,e⟩
  have HBL:=hid (hf1 b1 rfl);have HB2:=hid (trE7 HB1 hb2);have HRRE:=hid hRR;have HD1:=hid hd1;have HB2':=hid hb2;have HR1':=hid hr1;have HH1':=hid hh1;have HNE:=hid hne1;clear hRR hd1 hb2 hr1 hh1 hf1 hne1;go_upto_region 4 with fail
  obtain⟨Y,hY⟩:∃Y,w2.alloc (.cells #[.int .i64 r.hd.k,.int .i64 r.hd.n,.slice A1 r.hd.l.length c1,.slice (some ⟨b1,0,none⟩) r.ts.length d1,.slice RR r.rs.length (d1 - r.ts.length)] 97)=Y:=⟨_,rfl⟩;rw[hY];have hbY:Below w2.heap.size w2 Y:=by rw[←hY];exact(Below.refl _ _).alloc lrE7 _
  have HBY:=hid (trE7 HB2 hbY);have HBY1:=hid (show Below w1.heap.size w1 Y from HB2'.out.trans (hbY.mono HB2'.out.size));have Ht2:=hid (Ht1.out.below HBY1.out Ht1.out.lt);have Hr2:=hid (Hr1.out.below HBY1.out Hr1.out.lt);have HKY:=hid (show Bk Y w2.heap.size 97 #[.int .i64 r.hd.k,.int .i64 r.hd.n,.slice A1 r.hd.l.length c1,.slice (some ⟨b1,0,none⟩) r.ts.length d1,.slice RR r.rs.length (d1 - r.ts.length)]from by rw[←hY];exact Bk.new _ _ _);have HRY:=hid (HR1'.out.below hbY);have HHY:=hid (show TermIn Y (fun b=>b<w.heap.size∧b≠gf) r.hd A1 c1 from TermIn.imp (fun b o hb=>hbY.cell (p:=⟨b,o,none⟩) (Nat.lt_of_lt_of_le hb.1 HB2.out.size)) (fun _ hb=>hb) HH1'.out);have HB1L:=hid (show b1<w2.heap.size from by
   obtain⟨F9,C9,k1,k2,k3,k4⟩:=HR1'.out;obtain⟨b,e,hb,_⟩:=k3 HNE.out;injection e with e;injection e with e;omega)
  have CW:=hid (mwaitsM_any r.hd.k r.hd.n A1 (some ⟨b1,0,none⟩) RR r.hd.l.length c1 r.ts.length d1 r.rs.length (d1 - r.ts.length) Y (HE.out Y HBY.out).mach);rw[HWT.out]at CW;clear hY t0 t1 t2 hbY;have y0:Y.cell? ⟨w2.heap.size,0,none⟩=some (.int .i64 r.hd.k):=HKY.out.cell 0;have y1:Y.cell? ⟨w2.heap.size,1,none⟩=some (.int .i64 r.hd.n):=HKY.out.cell 1;have y2:Y.cell? ⟨w2.heap.size,2,none⟩=some (.slice A1 r.hd.l.length c1):=HKY.out.cell 2;have y3:Y.cell? ⟨w2.heap.size,3,none⟩=some (.slice (some ⟨b1,0,none⟩) r.ts.length d1):=HKY.out.cell 3;have y4:Y.cell? ⟨w2.heap.size,4,none⟩=some (.slice RR r.rs.length (d1 - r.ts.length)):=HKY.out.cell 4;go_wp2_with fail;refine CW.out.mono ?_;rintro e w3 ⟨rfl,hb3⟩;have HB3:=hid (trE7 HBY hb3);have HB13:=hid (trE7 HBY1 hb3);have HK3:=hid (HKY.out.below hb3 HKY.out.lt);have HR3:=hid (HRY.out.below hb3);have HH3:=hid (HHY.out.keptQ hb3 (fun b hb=>Nat.lt_of_lt_of_le hb.1 HBY.out.size));obtain⟨Fx,Cx,hcx,htx,hbx,hfx⟩:=row_tgt HR3.out HPOS.out;have CT:=hid (target_at r.hd.k r.hd.n A1 RR b1 0 r.hd.l.length c1 r.ts.length d1 r.rs.length (d1 - r.ts.length) (r.ts.length - 1) (tgtR r) Fx Cx w3 (by have:=HPOS.out;omega) (by have:=HROK.out.1.ln;unfold maxLen;omega) hbx hcx);have HTX:=hid htx;unfold termV at CT;clear hb3 y0 y1 y2 y3 y4 hcx htx hbx hfx;have y0:w3.cell? ⟨w2.heap.size,0,none⟩=some (.int .i64 r.hd.k):=HK3.out.cell 0;have y1:w3.cell? ⟨w2.heap.size,1,none⟩=some (.int .i64 r.hd.n):=HK3.out.cell 1;have y2:w3.cell? ⟨w2.heap.size,2,none⟩=some (.slice A1 r.hd.l.length c1):=HK3.out.cell 2;have y3:w3.cell? ⟨w2.heap.size,3,none⟩=some (.slice (some ⟨b1,0,none⟩) r.ts.length d1):=HK3.out.cell 3;have y4:w3.cell? ⟨w2.heap.size,4,none⟩=some (.slice RR r.rs.length (d1 - r.ts.length)):=HK3.out.cell 4;go_wp2_with fail;refine CT.out.mono ?_;rintro e w4 ⟨rfl,hb4⟩;have HB4:=hid (trE7 HB3 hb4);have HB14:=hid (trE7 HB13 hb4);have HK4:=hid (HK3.out.below hb4 HK3.out.lt);have HR4:=hid (HR3.out.below hb4);have HH4:=hid (HH3.out.keptQ hb4 (fun b hb=>Nat.lt_of_lt_of_le hb.1 HB3.out.size));have HTG:=hid (tgt_shaped HROK.out.1 HPOS.out);have HIG:=hid (HE.out w (Below.refl _ _)).m.hl;have CB:=hid (brought_any (tgtR r) Fx Cx w0 w4 (HE.out w4 HB4.out) (fun b=>b<w.heap.size∧b≠gf) (fun b hb=>⟨Nat.lt_of_lt_of_le hb.1 HB4.out.size,hb.2⟩) (fun b hb=>by have:=HIG.out;have:=HLE.out;have:=HGF.out;exact⟨by omega,by omega⟩) (HTX.out.keptQ hb4 (fun b hb=>Nat.lt_of_lt_of_le hb.1 HB3.out.size)) HTG.out);unfold termV at CB;clear hb4 y0 y1 y2 y3 y4;go_wp2_with fail;refine CB.out.mono ?_;rintro e w5 ⟨hup,hres⟩;have hgf5:=HGF.out;have hbl:=HBL.out;have hbl1:=HB1L.out;have hz1:=HB1.out.size;have hz4:=HB4.out.size;have hz14:=HB14.out.size;have hk4:=HK4.out.lt;have HUP:=hid hup;have Ht5:=hid (show Bk w5 w.heap.size 25 #[.int .i64 t.k,.int .i64 t.n,.slice A t.l.length cap]from(hup.block _ (by have:=(Ht1.out.below HB14.out Ht1.out.lt).lt;exact this) (fun e=>by injection e with e;omega)).trans (Ht1.out.below HB14.out Ht1.out.lt));have Hr5:=hid (show Bk w5 (w.heap.size+1) 25 #[.int .i64 0,.int .i64 0,.slice none 0 0]from(hup.block _ (by have:=(Hr1.out.below HB14.out Hr1.out.lt).lt;exact this) (fun e=>by injection e with e;omega)).trans (Hr1.out.below HB14.out Hr1.out.lt));have HK5:=hid (show Bk w5 w2.heap.size 97 #[.int .i64 r.hd.k,.int .i64 r.hd.n,.slice A1 r.hd.l.length c1,.slice (some ⟨b1,0,none⟩) r.ts.length d1,.slice RR r.rs.length (d1 - r.ts.length)]from(hup.block _ HK4.out.lt (fun e=>by injection e with e;have:=HB2.out.size;omega)).trans HK4.out);have HU5:=hid ((Up.of HB4.out:Up gf w w4).trans hup);clear hup;rcases hres with ⟨y,c,F5,c5,hrun5,rfl,hys,hy5,hm5,hc5⟩|⟨q,c,hq,hrun5,rfl,hm5,hc5⟩
  case inr=>
   obtain rfl:q=8:=by
    rcases HRUN.out _ _ hrun5 with ⟨c',h⟩|⟨y,c',h,_⟩
    ·injection h
    ·cases h
   clear hrun5 hq hm5 hc5;go_upto_region 8 with fail
   obtain⟨Z,hZ⟩:∃Z,w5.alloc (.cells #[.int .i64 0,.int .i64 0,.slice none 0 0] 25)=Z:=⟨_,rfl⟩;rw[hZ];have hbZ:Below w5.heap.size w5 Z:=by rw[←hZ];exact(Below.refl _ _).alloc lrE7 _
   have HUZ:=hid (HU5.out.trans (Up.of hbZ));have HrZ:=hid (Hr5.out.below hbZ Hr5.out.lt);clear hZ hbZ;have hlr3:=HrZ.out.lt;have hfr:∀q,Z.frozen? ⟨w.heap.size+1,q,none⟩=false:=fun q=>HrZ.out.cold q;have r0:Z.cell? ⟨w.heap.size+1,0,none⟩=some (.int .i64 0):=HrZ.out.cell 0;have r1:Z.cell? ⟨w.heap.size+1,1,none⟩=some (.int .i64 0):=HrZ.out.cell 1;have r2:Z.cell? ⟨w.heap.size+1,2,none⟩=some (.slice none 0 0):=HrZ.out.cell 2;have B5:=((HrZ.out.at_ 0 (.int .i64 0)).at_ 1 (.int .i64 0)).at_ 2 (.slice none 0 0);have HS0:=hid (B5.cell 0);have HS1:=hid (B5.cell 1);have HS2:=hid (B5.cell 2);clear B5;go_wp2_with fail;have hu:=Up.st (q:=2) (Up.st (q:=1) (Up.st (q:=0) HUZ.out (g:=w.heap.size+1) (by omega) (.int .i64 0)) (g:=w.heap.size+1) (by omega) (.int .i64 0)) (g:=w.heap.size+1) (by omega) (.slice none 0 0);refine bodyPost_ret (v:= .tuple #[.agg #[.int .i64 0,.int .i64 0,.slice none 0 0],.bool false,.int .i64 8]) (by simp[results,results30,go_sem,HS0.out,HS1.out,HS2.out]) rfl ?_;exact⟨hu,.inr ⟨none,0,rfl⟩⟩
  case inl=>
   have HNO:=hid (show redR l (meetR r y)=none from by
    rcases HRUN.out _ _ hrun5 with ⟨c',h⟩|⟨y',c',h,h2⟩
    ·cases h
    ·injection h with h _;rw[h];exact h2)
   have HYS:=hid hys;obtain⟨P6,hP6⟩:∃P6:Nat→Prop,(fun z=>((z<w.heap.size∧z≠gf)∨w4.heap.size≤z)∧z≠gf∧z<w5.heap.size)=P6:=⟨_,rfl⟩;have hz5:=HUP.out.size;have HP6:=hid (show ∀z,P6 z→z≠gf∧z<w5.heap.size∧z≠b1 from fun z hz=>by
    rw[←hP6]at hz;exact⟨hz.2.1,hz.2.2,fun e=>by have:=hz.1;omega⟩)
   have HQ6:=hid (show ∀z,(z<w.heap.size∧z≠gf)→P6 z from fun z hz=>by
    rw[←hP6];exact⟨.inl hz,hz.2,by omega⟩)
   have HY5:=hid (show TermIn w5 P6 y F5 c5 from by rw[←hP6];exact hy5);have HR5:=hid (show RowT w5 P6 (r.ts++r.rs) (some ⟨b1,0,none⟩) d1 from RowT.impQ (HR4.out.same hz5 (fun b hb h=>HUP.out.block b h (fun e=>by injection e with e;exact hb.2 e)) (fun b hb h=>HUP.out.block b h (fun e=>by injection hb with hb;injection hb with hb;injection e with e;omega))) HQ6.out (fun b hb h=>by injection hb with hb;injection hb with hb;exact(HP6.out b h).2.2 hb.symm));have HH5:=hid (show TermIn w5 P6 r.hd A1 c1 from(HH4.out.same (fun b hb=>HUP.out.block b (Nat.lt_of_lt_of_le hb.1 hz4) (fun e=>by injection e with e;exact hb.2 e))).imp (fun _ _ _=>rfl) HQ6.out);have HE5:=hid ((HE.out w4 HB4.out).up HUP.out hm5 (by have:=(HE.out w4 HB4.out).n;omega));clear hrun5 hys hy5 hm5 hc5 hP6;go_upto_region 8 with fail
   obtain⟨Z,hZ⟩:∃Z,w5.alloc (.cells #[.int .i64 y.k,.int .i64 y.n,.slice F5 y.l.length c5] 25)=Z:=⟨_,rfl⟩;rw[hZ];have hbZ:Below w5.heap.size w5 Z:=by rw[←hZ];exact(Below.refl _ _).alloc lrE7 _
   have HZ5:=hid hbZ.size;have HUZ:=hid (HU5.out.trans (Up.of hbZ));have HtZ:=hid (Ht5.out.below hbZ Ht5.out.lt);have HrZ:=hid (Hr5.out.below hbZ Hr5.out.lt);have HKZ:=hid (HK5.out.below hbZ HK5.out.lt);have HNZ:=hid (show Bk Z w5.heap.size 25 #[.int .i64 y.k,.int .i64 y.n,.slice F5 y.l.length c5]from by rw[←hZ];exact Bk.new _ _ _);have HYZ:=hid (HY5.out.keptQ hbZ (fun b hb=>(HP6.out b hb).2.1));have HHZ:=hid (HH5.out.keptQ hbZ (fun b hb=>(HP6.out b hb).2.1));have HRZ:=hid (HR5.out.below hbZ);have HEZ:=hid (HE5.out.below hbZ);obtain⟨Fx',Cx',hcx,htx,hbx,hfx⟩:=row_tgt HRZ.out HPOS.out;have CM:=hid (meet_any r.hd.k r.hd.n A1 RR b1 0 r.hd.l.length c1 r.ts.length d1 r.rs.length (d1 - r.ts.length) (r.ts.length - 1) (tgtR r) y Fx' F5 Cx' c5 Z (by have:=HPOS.out;omega) (by have:=HROK.out.1.ln;unfold maxLen;omega) hbx hfx hcx);unfold termV at CM;clear hZ hbZ hcx htx hbx hfx hz5;have y0:Z.cell? ⟨w2.heap.size,0,none⟩=some (.int .i64 r.hd.k):=HKZ.out.cell 0;have y1:Z.cell? ⟨w2.heap.size,1,none⟩=some (.int .i64 r.hd.n):=HKZ.out.cell 1;have y2:Z.cell? ⟨w2.heap.size,2,none⟩=some (.slice A1 r.hd.l.length c1):=HKZ.out.cell 2;have y3:Z.cell? ⟨w2.heap.size,3,none⟩=some (.slice (some ⟨b1,0,none⟩) r.ts.length d1):=HKZ.out.cell 3;have y4:Z.cell? ⟨w2.heap.size,4,none⟩=some (.slice RR r.rs.length (d1 - r.ts.length)):=HKZ.out.cell 4;have n0:Z.cell? ⟨w5.heap.size,0,none⟩=some (.int .i64 y.k):=HNZ.out.cell 0;have n1:Z.cell? ⟨w5.heap.size,1,none⟩=some (.int .i64 y.n):=HNZ.out.cell 1;have n2:Z.cell? ⟨w5.heap.size,2,none⟩=some (.slice F5 y.l.length c5):=HNZ.out.cell 2;go_wp2_with fail;refine CM.out.mono ?_;rintro e w6 ⟨rfl,hp6⟩;have hlZ:=HKZ.out.lt;have htZ:=HtZ.out.lt;have hrZ:=HrZ.out.lt;have hKZ2:=HK4.out.lt;have HP:=hid hp6;have HK6:=hid (show Bk w6 w2.heap.size 97 #[.int .i64 r.hd.k,.int .i64 r.hd.n,.slice A1 r.hd.l.length c1,.slice (some ⟨b1,0,none⟩) r.ts.length d1,.slice RR r.rs.length (d1 - r.ts.length)]from(put_block hp6 hlZ (by omega)).trans HKZ.out);have Ht6:=hid (show Bk w6 w.heap.size 25 #[.int .i64 t.k,.int .i64 t.n,.slice A t.l.length cap]from(put_block hp6 htZ (by have:=Ht1.out.lt;omega)).trans HtZ.out);have Hr6:=hid (show Bk w6 (w.heap.size+1) 25 #[.int .i64 0,.int .i64 0,.slice none 0 0]from(put_block hp6 hrZ (by have:=Hr1.out.lt;omega)).trans HrZ.out);have HE6:=hid (env_put HEZ.out hp6 (by omega));have HR6:=hid (put_row HRZ.out HPOS.out (fun x hx=>Nat.lt_of_lt_of_le (HP6.out x hx).2.1 HZ5.out) HYZ.out hp6);have HH6:=hid (HHZ.out.same (fun b hb=>put_block hp6 (Nat.lt_of_lt_of_le (HP6.out b hb).2.1 HZ5.out) (HP6.out b hb).2.2));have HU6:=hid (up_put HUZ.out hp6 (by omega));have hparts:=HR6.out.parts;have hml:(meetR r y).ts.length=r.ts.length:=by unfold meetR;exact List.length_set
   have hrp:(if d1=(meetR r y).ts.length then(some (⟨b1,0,none⟩:Addr))else(some (⟨b1,0,none⟩:Addr)).map (fun x=>x.add ((meetR r y).ts.length*3)))=RR:=by rw[hml];exact HRRE.out.symm
   rw[hrp,hml]at hparts;have CS:=hid (mstepM_all w0 (meetR r y) (HROK.out.1.meet HYS.out) r.hd.k r.hd.n r.hd.l.length r.ts.length r.rs.length rfl rfl rfl hml rfl A1 (some ⟨b1,0,none⟩) RR c1 d1 (d1 - r.ts.length) (fun b=>(P6 b∨(some (⟨b1,0,none⟩:Addr))=some ⟨b,0,none⟩)∧b<w6.heap.size) w6 HE6.out (HH6.out.imp (fun _ _ _=>rfl) (fun b hb=>⟨.inl hb,Nat.lt_of_lt_of_le (HP6.out b hb).2.1 (Nat.le_trans HZ5.out (put_size hp6))⟩)) hparts.1 hparts.2 (fun b hb=>⟨hb.2,by
    rcases hb.1 with h|h
    ·exact(HP6.out b h).1
    ·injection h with h;injection h with h;omega⟩))
   clear hp6 hparts hml hrp y0 y1 y2 y3 y4 n0 n1 n2;have y0:w6.cell? ⟨w2.heap.size,0,none⟩=some (.int .i64 r.hd.k):=HK6.out.cell 0;have y1:w6.cell? ⟨w2.heap.size,1,none⟩=some (.int .i64 r.hd.n):=HK6.out.cell 1;have y2:w6.cell? ⟨w2.heap.size,2,none⟩=some (.slice A1 r.hd.l.length c1):=HK6.out.cell 2;have y3:w6.cell? ⟨w2.heap.size,3,none⟩=some (.slice (some ⟨b1,0,none⟩) r.ts.length d1):=HK6.out.cell 3;have y4:w6.cell? ⟨w2.heap.size,4,none⟩=some (.slice RR r.rs.length (d1 - r.ts.length)):=HK6.out.cell 4;go_wp2_with fail;refine CS.out.mono ?_;rintro e w7 ⟨hu7,h7⟩;obtain rfl:e= .returned (.tuple #[zTV,.bool false,.int .i64 0]):=by
    rcases h7 with ⟨_,h,_⟩|⟨u,q,h,_⟩|⟨u,h,_⟩|⟨u,b,h,_⟩|⟨u,b,F,cF,h,_⟩
    ·exact h
    all_goals exact absurd (HNO.out.symm.trans h) (by simp)
   have ht6:=Ht6.out.lt;have hr6:=Hr6.out.lt;have Ht7:=hid (show Bk w7 w.heap.size 25 #[.int .i64 t.k,.int .i64 t.n,.slice A t.l.length cap]from(hu7.block _ ht6 (fun e=>by injection e with e;omega)).trans Ht6.out);have Hr7:=hid (show Bk w7 (w.heap.size+1) 25 #[.int .i64 0,.int .i64 0,.slice none 0 0]from(hu7.block _ hr6 (fun e=>by injection e with e;omega)).trans Hr6.out);have HU7:=hid (HU6.out.trans hu7);clear h7 hu7 y0 y1 y2 y3 y4 CS;unfold zTV;go_upto_region 12 with fail
   obtain⟨N,hN⟩:∃N,w7.alloc (.cells #[.int .i64 0,.int .i64 0,.slice none 0 0] 25)=N:=⟨_,rfl⟩;rw[hN];have hbN:Below w7.heap.size w7 N:=by rw[←hN];exact(Below.refl _ _).alloc lrE7 _
   have HNN:=hid (show Bk N w7.heap.size 25 #[.int .i64 0,.int .i64 0,.slice none 0 0]from by rw[←hN];exact Bk.new _ _ _);have HUN:=hid (HU7.out.trans (Up.of hbN));have HtN:=hid (Ht7.out.below hbN Ht7.out.lt);have HrN:=hid (Hr7.out.below hbN Hr7.out.lt);have hr7:=Hr7.out.lt;have hlN:=HNN.out.lt;have hfn:∀q,N.frozen? ⟨w7.heap.size,q,none⟩=false:=fun q=>HNN.out.cold q;clear hN hbN;have z0:N.cell? ⟨w7.heap.size,0,none⟩=some (.int .i64 0):=HNN.out.cell 0;have z1:N.cell? ⟨w7.heap.size,1,none⟩=some (.int .i64 0):=HNN.out.cell 1;have z2:N.cell? ⟨w7.heap.size,2,none⟩=some (.slice none 0 0):=HNN.out.cell 2;have t0:N.cell? ⟨w.heap.size,0,none⟩=some (.int .i64 t.k):=HtN.out.cell 0;have t1:N.cell? ⟨w.heap.size,1,none⟩=some (.int .i64 t.n):=HtN.out.cell 1;have t2:N.cell? ⟨w.heap.size,2,none⟩=some (.slice A t.l.length cap):=HtN.out.cell 2;have hst:=st1_three N w7.heap.size (.int .i64 t.k) (.int .i64 t.n) (.slice A t.l.length cap);have HST:=hid hst;have HrV:=hid (((HrN.out.far (a:=⟨w7.heap.size,0,none⟩) (by show w.heap.size+1≠w7.heap.size;omega) (.int .i64 t.k)).far (a:=⟨w7.heap.size,1,none⟩) (by show w.heap.size+1≠w7.heap.size;omega) (.int .i64 t.n)).far (a:=⟨w7.heap.size,2,none⟩) (by show w.heap.size+1≠w7.heap.size;omega) (.slice A t.l.length cap));have HUV:=hid (Up.st (g:=w7.heap.size) (q:=2) (Up.st (g:=w7.heap.size) (q:=1) (Up.st (g:=w7.heap.size) (q:=0) HUN.out (by omega) (.int .i64 t.k)) (by omega) (.int .i64 t.n)) (by omega) (.slice A t.l.length cap));clear hst;go_wp2_with fail;obtain⟨V,hV⟩:∃V,((N.setCell ⟨w7.heap.size,0,none⟩ (.int .i64 t.k)).setCell ⟨w7.heap.size,1,none⟩ (.int .i64 t.n)).setCell ⟨w7.heap.size,2,none⟩ (.slice A t.l.length cap)=V:=⟨_,rfl⟩;rw[hV]at HST HrV HUV⊢;have HtV:=hid (show IsTerm V 0 V.heap.size t A cap from((HTV.out w (Below.refl _ _)).same (fun b hb=>HUV.out.block b hb.1 (fun e=>by injection e with e;exact hb.2 e))).isT (fun b hb=>Nat.lt_of_lt_of_le hb.1 HUV.out.size));have CCV:=hid (CC.out A cap V (HW0.out.trans (HUV.out.below HLE.out HW0.out.size)) HtV.out);clear hV z0 z1 z2 t0 t1 t2 hfn hlN;refine CCV.out.mono ?_;rintro e w3 ⟨F3,c3,rfl,hc3,hb3⟩;rw[copyT_shaped HSH.out]at hc3⊢;have HC3:=hid hc3;have HP3:=hid (HUV.out.trans (Up.of hb3));have Hr3:=hid (HrV.out.below hb3 HrV.out.lt);have HZV:=hid (show w.heap.size+2≤V.heap.size from by have:=HrV.out.lt;omega);clear hb3 hc3;have hlr3:=Hr3.out.lt;have hfr:∀q,w3.frozen? ⟨w.heap.size+1,q,none⟩=false:=fun q=>Hr3.out.cold q;have r0:w3.cell? ⟨w.heap.size+1,0,none⟩=some (.int .i64 0):=Hr3.out.cell 0;have r1:w3.cell? ⟨w.heap.size+1,1,none⟩=some (.int .i64 0):=Hr3.out.cell 1;have r2:w3.cell? ⟨w.heap.size+1,2,none⟩=some (.slice none 0 0):=Hr3.out.cell 2;have B5:=((Hr3.out.at_ 0 (.int .i64 t.k)).at_ 1 (.int .i64 t.n)).at_ 2 (.slice F3 t.l.length c3);have HS0:=hid (B5.cell 0);have HS1:=hid (B5.cell 1);have HS2:=hid (B5.cell 2);clear B5;go_wp2_with fail;have hu:=Up.st (q:=2) (Up.st (q:=1) (Up.st (q:=0) HP3.out (g:=w.heap.size+1) (by omega) (.int .i64 t.k)) (g:=w.heap.size+1) (by omega) (.int .i64 t.n)) (g:=w.heap.size+1) (by omega) (.slice F3 t.l.length c3);refine bodyPost_ret (v:= .tuple #[.agg #[.int .i64 t.k,.int .i64 t.n,.slice F3 t.l.length c3],.bool false,.int .i64 0]) (by simp[results,results30,go_sem,HS0.out,HS1.out,HS2.out]) rfl ?_;exact⟨hu,.inl ⟨F3,c3,rfl,(TermIn.three (g:=w.heap.size+1) HC3.out (fun y hy=>by have:=hy.1;have:=HZV.out;omega) _ _ _).imp (fun _ _ _=>rfl) (fun y hy=>⟨by have:=hy.1;have:=HZV.out;omega,by rw[size_three];exact hy.2⟩)⟩⟩
mutual
def avT (p:Int→Int→Int→Prop):TM→Int→Prop
 | .node k n l,b=>p k n b∧l.length=manyM k∧avL p k 0 l b
def avL (p:Int→Int→Int→Prop) (k:Int) (i:Nat):List TM→Int→Prop
 | [],_=>True
 | t::r,b=>avT p t (b+bnd k i)∧avL p k (i+1) r b
end
theorem avL_iff {p:Int→Int→Int→Prop} {k b:Int}:∀(l:List TM) (i:Nat),avL p k i l b↔∀j,∀h:j<l.length,avT p l[j] (b+bnd k (i+j))
 | [],i=>by rw[avL];exact⟨fun _ j h=>absurd h (Nat.not_lt_zero j),fun _=>trivial⟩
 | t::r,i=>by
  rw[avL,avL_iff r (i+1)];constructor
  ·rintro⟨h1,h2⟩ j h;cases j with
   | zero=>exact h1
   | succ j=>rw[show i+(j+1)=i+1+j by omega];exact h2 j (by simpa using h)
  ·intro h;refine⟨h 0 (by simp),fun j hj=> ?_⟩;have:=h (j+1) (by simpa using hj);rw[show i+(j+1)=i+1+j by omega]at this;exact this
theorem avT_iff {p:Int→Int→Int→Prop} {k n b:Int} {l:List TM}:avT p (.node k n l) b↔p k n b∧l.length=manyM k∧∀j,∀h:j<l.length,avT p l[j] (b+bnd k j):=by
 rw[avT,avL_iff];simp only[Nat.zero_add]
def pV (m:Int) (F G:Int→Prop):Int→Int→Int→Prop:=fun k n b=>(k=1→n<b∨G (n - b))∧((k=6∨k=7)→n<m)∧(k=8→F n)
theorem pV_other {m k n b:Int} {F G:Int→Prop} (h1:k≠1) (h6:k≠6) (h7:k≠7) (h8:k≠8):pV m F G k n b:=⟨fun h=>absurd h h1,fun h=>by rcases h with h|h;exact absurd h h6;exact absurd h h7,fun h=>absurd h h8⟩
theorem many1:manyM 1=0:=by decide
theorem many8:manyM 8=0:=by decide
theorem av_leaf {p:Int→Int→Int→Prop} {k n b:Int} (h:p k n b) (hk:manyM k=0):avT p (.node k n []) b:=avT_iff.2 ⟨h,hk.symm,fun j h=>absurd h (Nat.not_lt_zero j)⟩
theorem av_zero {m b:Int} {F G:Int→Prop}:avT (pV m F G) (.node 0 0 []) b:=av_leaf (pV_other (by decide) (by decide) (by decide) (by decide)) (by decide)
theorem av_move {m:Int} {F G:Int→Prop} {y:Int} (hy:0≤y):∀(t:TM) (x:Int),avT (pV m F G) t x→avT (pV m F G) (moveT y t x) (x+y):=by
 intro t;induction t using TM.ind with
 | h k n l ih=>
  intro x h;obtain⟨h1,h2,h3⟩:=avT_iff.1 h;rw[moveT_node];by_cases hk:k=1
  ·subst hk;have hl:l=[]:=List.eq_nil_of_length_eq_zero (by rw[h2];rfl);subst hl;rw[if_pos rfl];by_cases hn:n<x
   ·rw[if_pos hn];exact av_leaf ⟨fun _=> .inl (by omega),h1.2.1,h1.2.2⟩ many1
   ·rw[if_neg hn];refine av_leaf ⟨fun _=> ?_,fun h=>by omega,fun h=>by omega⟩ many1;rcases h1.1 rfl with h|h
    ·omega
    ·right;rw[show n+y - (x+y)=n - x by omega];exact h
  ·rw[if_neg hk];refine avT_iff.2 ⟨⟨fun h=>absurd h hk,h1.2.1,h1.2.2⟩,by rw[moveM_len];exact h2,fun j hj=> ?_⟩;have hj':j<l.length:=by rw[moveM_len]at hj;exact hj
   have e:(moveM y k 0 l x)[j]=moveT y l[j] (x+bnd k j):=by
    simp only[moveM_zip];rw[List.getElem_map,List.getElem_zipIdx,bnd_eq h2 (by simpa using hj'),Nat.zero_add]
   rw[e,show x+y+bnd k j=x+bnd k j+y by omega];exact ih _ (List.getElem_mem hj') _ (h3 j hj')
theorem av_put {m:Int} {F G:Int→Prop} {ls:List TM} (hls:∀a∈ls,avT (pV m F G) a 0):∀(u:TM) (b:Int),0≤b→avT (pV m F G) u (b+(ls.length:Int))→avT (pV m F G) (putT (firstP ls) u b) b:=by
 intro u;induction u using TM.ind with
 | h k n l ih=>
  intro b hb h;obtain⟨h1,h2,h3⟩:=avT_iff.1 h;rw[putT_node];by_cases hv:isV k n b
  ·rw[if_pos hv];unfold firstP;by_cases h8:k=8
   ·rw[if_pos h8];subst h8;exact av_leaf ⟨fun h=>by omega,fun h=>by omega,h1.2.2⟩ many8
   ·rw[if_neg h8];have hk:k=1∧b≤n:=hv.resolve_left h8;by_cases hn:n - b<(ls.length:Int)
    ·rw[if_pos hn];have hq:(n - b).toNat<ls.length:=by omega
     have hm:ls.getD (n - b).toNat (.node 0 0 [])∈ls:=by
      rw[List.getD_eq_getElem?_getD,List.getElem?_eq_getElem hq];exact List.getElem_mem hq
     have:=av_move hb _ 0 (hls _ hm);rw[Int.zero_add]at this;exact this
    ·rw[if_neg hn];refine av_leaf ⟨fun _=> ?_,fun h=>by omega,fun h=>by omega⟩ many1;rcases h1.1 hk.1 with h|h
     ·omega
     ·right;rw[show n - (ls.length:Int) - b=n - (b+(ls.length:Int))by omega];exact h
  ·rw[if_neg hv];refine avT_iff.2 ⟨⟨fun hk=> .inl ?_,h1.2.1,h1.2.2⟩,by rw[putM_len];exact h2,fun j hj=> ?_⟩
   ·have: ¬ b≤n:=fun h=>hv (.inr ⟨hk,h⟩);omega
   ·have hj':j<l.length:=by rw[putM_len]at hj;exact hj
    rw[putM_at (firstP ls) k b l 0 j hj hj',Nat.zero_add];refine ih _ (List.getElem_mem hj') _ (by have:=bnd_01 k j;omega) ?_;rw[show b+bnd k j+(ls.length:Int)=b+(ls.length:Int)+bnd k j by omega];exact h3 j hj'
theorem av_imp {p p':Int→Int→Int→Prop} {x:Int}:∀(t:TM) (b:Int),(∀k n b,p k n b→p' k n (b+x))→avT p t b→avT p' t (b+x):=by
 intro t;induction t using TM.ind with
 | h k n l ih=>
  intro b hp h;obtain⟨h1,h2,h3⟩:=avT_iff.1 h;refine avT_iff.2 ⟨hp _ _ _ h1,h2,fun j hj=> ?_⟩;rw[show b+x+bnd k j=b+bnd k j+x by omega];exact ih _ (List.getElem_mem hj) _ hp (h3 j hj)
theorem av_apply {m b:Int} {F G:Int→Prop}:∀(xs:List TM) (t:TM),avT (pV m F G) t b→(∀a∈xs,avT (pV m F G) a b)→avT (pV m F G) (applyT t xs) b
 | [],t,h,_=>h
 | a::xs,t,h,hx=>by
  show avT (pV m F G) (applyT (.node 5 0 [t,a]) xs) b
  refine av_apply xs _ (avT_iff.2 ⟨pV_other (by decide) (by decide) (by decide) (by decide),rfl,fun j hj=> ?_⟩) (fun a ha=>hx a (List.mem_cons_of_mem _ ha));have hb0:∀j,bnd 5 j=0:=fun j=>by unfold bnd;rw[if_neg (by omega)]
  rw[hb0,Int.add_zero]
  match j,hj with
  | 0,_=>exact h
  | 1,_=>exact hx a List.mem_cons_self
theorem av_spine {m b:Int} {F G:Int→Prop}:∀(t:TM),avT (pV m F G) t b→avT (pV m F G) (headT t) b∧∀a∈argsT t,avT (pV m F G) a b:=by
 intro t;induction t using TM.ind with
 | h k n l ih=>
  intro h;by_cases hk:k=5
  ·subst hk;obtain⟨h1,h2,h3⟩:=avT_iff.1 h;have hb0:∀j,bnd 5 j=0:=fun j=>by unfold bnd;rw[if_neg (by omega)]
   obtain⟨f,a,rfl⟩:∃f a,l=[f,a]:=by
    match l,h2 with
    | [f,a],_=>exact⟨f,a,rfl⟩
   have hf:=h3 0 (by simp);have ha:=h3 1 (by simp);rw[hb0,Int.add_zero]at hf ha;obtain⟨i1,i2⟩:=ih f List.mem_cons_self hf;rw[headT_app,argsT_app];refine⟨i1,fun x hx=> ?_⟩;rcases List.mem_append.1 hx with hx|hx
   ·exact i2 x hx
   ·rw[List.mem_singleton.1 hx];exact ha
  ·rw[headT_not n l hk,argsT_not n l hk];exact⟨h,fun a ha=>by cases ha⟩
theorem av_many {m:Int} {F G:Int→Prop} {u:TM} {ls:List TM} (hu:avT (pV m F G) u (ls.length:Int)) (hls:∀a∈ls,avT (pV m F G) a 0):avT (pV m F G) (manyX u ls).1 0:=by
 unfold manyX;split
 ·unfold gotX;split
  ·exact av_put hls u 0 (Int.le_refl 0) (by rw[Int.zero_add];exact hu)
  ·exact av_zero
 ·exact av_zero
theorem av_good {m:Int} {F G:Int→Prop}:∀(t:TM) (x:Int),tgoodB t=true→(∀z∈colT entK t,z<m)→(∀z∈colT (fun k=>decide (k=8)) t,F z)→(∀z,hasT t (x+z)=true→0≤z→G z)→avT (pV m F G) t x:=by
 intro t;induction t using TM.ind with
 | h k n l ih=>
  intro x hg he h8 hG;rw[tgoodB_node,Bool.and_eq_true]at hg;obtain⟨_,_,hlen,_,_,_⟩:=ttop_facts hg.1;have hgl:∀u∈l,tgoodB u=true:=by
   have:=hg.2;rw[tgoodL_all,List.all_eq_true]at this;exact this
  have hcol:∀(f:Int→Bool) (l:List TM) (u:TM),u∈l→∀z∈colT f u,z∈colL f l:=fun f l=>by
   induction l with
   | nil=>intro u hu;cases hu
   | cons a r ihr=>
    intro u hu z hz;rw[colL_cons];rcases List.mem_cons.1 hu with rfl|hu
    ·exact List.mem_append_left _ hz
    ·exact List.mem_append_right _ (ihr u hu z hz)
  refine avT_iff.2 ⟨⟨fun hk=> ?_,fun hk=>he n ?_,fun hk=>h8 n ?_⟩,hlen,fun j hj=>ih _ (List.getElem_mem hj) _ (hgl _ (List.getElem_mem hj)) (fun z hz=>he z ?_) (fun z hz=>h8 z ?_) (fun z hz h0=>hG z ?_ h0)⟩
  ·by_cases hn:n<x
   ·exact .inl hn
   ·refine .inr (hG _ ?_ (by omega));rw[hasT_node,if_pos hk];exact decide_eq_true (by omega)
  ·rw[colT_node,if_pos (by unfold entK;rcases hk with rfl|rfl<;>rfl)];exact List.mem_append_left _ List.mem_cons_self
  ·rw[colT_node,if_pos (decide_eq_true hk)];exact List.mem_append_left _ List.mem_cons_self
  ·rw[colT_node];exact List.mem_append_right _ (hcol entK l _ (List.getElem_mem hj) z hz)
  ·rw[colT_node];exact List.mem_append_right _ (hcol _ l _ (List.getElem_mem hj) z hz)
  ·have hk1:k≠1:=fun hk=>by
    rw[hk]at hlen;have:l.length=0:=by rw[hlen];rfl
    omega
   rw[hasT_node,if_neg hk1];refine hasL_yes k (x+z) hj ?_;rw[bnd_eq hlen hj,show x+z+bnd k j=x+bnd k j+z by omega];exact hz
theorem col_sub (f:Int→Bool):∀(l:List TM) (z:Int),z∈colL f l↔∃u∈l,z∈colT f u
 | [],z=>by rw[colL_nil];simp
 | t::r,z=>by
  rw[colL_cons,List.mem_append,col_sub f r z];simp
theorem av_cols {m:Int} {F G:Int→Prop}:∀(t:TM) (x:Int),avT (pV m F G) t x→(∀z∈colT entK t,z<m)∧∀z∈colT (fun k=>decide (k=8)) t,F z:=by
 intro t;induction t using TM.ind with
 | h k n l ih=>
  intro x h;obtain⟨h1,h2,h3⟩:=avT_iff.1 h;have hsub:∀u∈l,(∀z∈colT entK u,z<m)∧∀z∈colT (fun k=>decide (k=8)) u,F z:=fun u hu=>by
   obtain⟨j,hj,rfl⟩:=List.getElem_of_mem hu;exact ih _ hu _ (h3 j hj)
  constructor
  ·intro z hz;rw[colT_node,List.mem_append]at hz;rcases hz with hz|hz
   ·split at hz
    case isTrue hk=>
     rw[List.mem_singleton.1 hz];unfold entK at hk;simp only[Bool.or_eq_true,decide_eq_true_eq]at hk;exact h1.2.1 hk
    case isFalse=>cases hz
   ·obtain⟨u,hu,hz⟩:=(col_sub _ _ _).1 hz;exact(hsub u hu).1 z hz
  ·intro z hz;rw[colT_node,List.mem_append]at hz;rcases hz with hz|hz
   ·split at hz
    case isTrue hk=>
     rw[List.mem_singleton.1 hz];exact h1.2.2 (of_decide_eq_true hk)
    case isFalse=>cases hz
   ·obtain⟨u,hu,hz⟩:=(col_sub _ _ _).1 hz;exact(hsub u hu).2 z hz
theorem loose_most:∀(t:TM) (x:Int),tgoodB t=true→0≤x→looseT t x≤1048577:=by
 intro t;induction t using TM.ind with
 | h k n l ih=>
  intro x hg hx;have hn:=good_num hg;rw[tgoodB_node,Bool.and_eq_true]at hg;have hgl:=hg.2;rw[tgoodL_all,List.all_eq_true]at hgl;rw[looseT_node];split
  ·have:n≤1048576:=hn.2;omega
  ·have key:∀(r:List TM) (i:Nat),(∀u∈r,u∈l)→looseL k i r x≤1048577:=by
    intro r;induction r with
    | nil=>intro i _;rw[looseL_nil];omega
    | cons a r ihr=>
     intro i h;rw[looseL_cons];have h1:=ih a (h a List.mem_cons_self) (x+bndR k i) (hgl a (h a List.mem_cons_self)) (by have:=bndR_01 k i;omega);have h2:=ihr (i+1) (fun u hu=>h u (List.mem_cons_of_mem _ hu));omega
   exact key l 0 (fun _ h=>h)
theorem loose_has:∀(t:TM) (x z:Int),tgoodB t=true→looseT t x≤0→0≤z→hasT t (x+z)=false:=by
 intro t;induction t using TM.ind with
 | h k n l ih=>
  intro x z hg hx hz;rw[tgoodB_node,Bool.and_eq_true]at hg;have hgl:=hg.2;rw[tgoodL_all,List.all_eq_true]at hgl;rw[looseT_node]at hx;rw[hasT_node];by_cases hk:k=1
  ·rw[if_pos hk];by_cases hn:x≤n
   ·rw[if_pos ⟨hk,hn⟩]at hx;omega
   ·exact decide_eq_false (by omega)
  ·rw[if_neg hk];rw[if_neg (fun h=>hk h.1)]at hx;have key:∀(r:List TM) (i:Nat),(∀u∈r,u∈l)→looseL k i r x≤0→hasL k i r (x+z)=false:=by
    intro r;induction r with
    | nil=>intro i _ _;rw[hasL_nil]
    | cons a r ihr=>
     intro i h hl;rw[looseL_cons]at hl;rw[hasL_cons,show x+z+bndR k i=x+bndR k i+z by omega,ih a (h a List.mem_cons_self) (x+bndR k i) z (hgl a (h a List.mem_cons_self)) (by omega) hz,ihr (i+1) (fun u hu=>h u (List.mem_cons_of_mem _ hu)) (by omega)];rfl
   exact key l 0 (fun _ h=>h) hx
theorem av_of_right {t:TM} {n m:Int} (h:trightB t n m=true):avT (pV m (fun _=>True) (fun _=>True)) t 0:=by
 unfold trightB at h;simp only[Bool.and_eq_true,List.all_eq_true,decide_eq_true_eq]at h;exact av_good t 0 (shapedB_true.1 h.2.1).2.2 (fun z hz=>by simpa using h.2.2.2 z hz) (fun _ _=>trivial) (fun _ _ _=>trivial)
theorem right_of_av {t:TM} {m:Int} {F G:Int→Prop} (hs:shapedB t=true) (h:avT (pV m F G) t 0):trightB t 1048577 m=true:=by
 unfold trightB;simp only[Bool.and_eq_true,List.all_eq_true,decide_eq_true_eq];exact⟨by decide,hs,loose_most t 0 (shapedB_true.1 hs).2.2 (Int.le_refl 0),fun z hz=>(av_cols t 0 h).1 z hz⟩
theorem av_closed {t:TM} {i m b:Int} {F G:Int→Prop} (h:closedE t i=true) (hi:i≤m) (hb:0≤b):avT (pV m F G) t b:=by
 have hs:=closed_shaped h;unfold closedE at h;rw[Bool.and_eq_true]at h;obtain⟨h1,h2⟩:=h;unfold trightB at h1;simp only[Bool.and_eq_true,List.all_eq_true,decide_eq_true_eq]at h1;have hg:=(shapedB_true.1 hs).2.2;have h8:∀z∈colT (fun k=>decide (k=8)) t,False:=fun z hz=>by
  have h2:(numsL [8] t).length=0:=of_decide_eq_true h2;unfold numsL at h2;rw[if_pos hs]at h2;have e:(fun k:Int=>([8]:List Int).contains k)=fun k=>decide (k=8):=by
   funext k
   simp
  rw[e]at h2;have h3:=List.eq_nil_of_length_eq_zero h2;have h4:=(setL_mem (l:=colT (fun k=>decide (k=8)) t) (x:=z)).2 hz;rw[h3]at h4;cases h4
 have hz:avT (pV i (fun _=>False) (fun _=>False)) t 0:=av_good t 0 hg (fun z hz=>by simpa using h1.2.2.2 z hz) h8 (fun z hz h0=>by rw[loose_has t 0 z hg h1.2.2.1 h0]at hz;cases hz);have:=av_imp (p':=pV m F G) (x:=b) t 0 (fun k n c hp=>⟨fun hk=>(hp.1 hk).elim (fun h=> .inl (by omega)) (fun h=>h.elim),fun hk=>by have:=hp.2.1 hk;omega,fun hk=>(hp.2.2 hk).elim⟩) hz;rw[Int.zero_add]at this;exact this
theorem av_ent {l:List ET} (hf:formedB l=true) {i:Nat} (hi:i<l.length) {F G:Int→Prop} {b:Int} (hb:0≤b):avT (pV l.length F G) l[i].t b∧(l[i].k=3→avT (pV l.length F G) l[i].b b):=by
 have h:=formed_ent hf hi;unfold entP at h;simp only[Bool.and_eq_true]at h;refine⟨av_closed h.2.1 (by omega) hb,fun hk=> ?_⟩;have h3:=h.2.2.2;rw[if_neg (by omega),if_neg (by omega),if_neg (by omega),if_pos hk]at h3;exact av_closed h3 (by omega) hb
def avS (p:Int→Int→Int→Prop) (L:List TM) (b:Int):Prop:=∀j,∀h:j<L.length,avT p L[j] (b+(j:Int))
theorem avS_nil {p:Int→Int→Int→Prop} {b:Int}:avS p [] b:=fun j h=>absurd h (Nat.not_lt_zero j)
theorem avS_cons {p:Int→Int→Int→Prop} {b:Int} {a:TM} {L:List TM} (h:avT p a b) (hL:avS p L (b+1)):avS p (a::L) b:=fun j hj=>by
 cases j with
 | zero=>rw[show b+((0:Nat):Int)=b by omega];exact h
 | succ j=>
  rw[show b+((j+1:Nat):Int)=b+1+(j:Int)by omega];exact hL j (by simpa using hj)
theorem avS_tail {p:Int→Int→Int→Prop} {b:Int} {a:TM} {L:List TM} (h:avS p (a::L) b):avT p a b∧avS p L (b+1):=by
 refine⟨?_,fun j hj=> ?_⟩
 ·have:=h 0 (by simp);rw[show b+((0:Nat):Int)=b by omega]at this;exact this
 ·have:=h (j+1) (by simpa using hj);rw[show b+((j+1:Nat):Int)=b+1+(j:Int)by omega]at this;exact this
theorem bnd30:bnd 3 0=0:=by decide
theorem bnd31:bnd 3 1=1:=by decide
theorem bnd41:bnd 4 1=1:=by decide
theorem av_take {m:Int} {F G:Int→Prop}:∀(n:Nat) (t:TM) (b:Int) (L:List TM) (u:TM),avT (pV m F G) t b→takeT n t=some (L,u)→avS (pV m F G) L b∧avT (pV m F G) u (b+(L.length:Int))∧L.length=n
 | 0,t,b,L,u,h,ht=>by
  rw[takeT]at ht;cases ht
  exact⟨avS_nil,by rw[show b+(([]:List TM).length:Int)=b by simp];exact h,rfl⟩
 | n+1,.node k v l,b,L,u,h,ht=>by
  rw[takeT]at ht;by_cases hk:k=3
  ·subst hk;rw[if_pos (show(TM.node 3 v l).k=3 from rfl)]at ht;obtain⟨h1,h2,h3⟩:=avT_iff.1 h;obtain⟨x,y,rfl⟩:∃x y,l=[x,y]:=by
    match l,h2 with
    | [x,y],_=>exact⟨x,y,rfl⟩
   have hx:=h3 0 (by simp);have hy:=h3 1 (by simp);have hx:avT (pV m F G) x (b+bnd 3 0):=hx;have hy:avT (pV m F G) y (b+bnd 3 1):=hy;rw[bnd30,Int.add_zero]at hx;rw[bnd31]at hy;cases hq:takeT n y with
   | none=>simp[TM.l,hq]at ht
   | some p=>
    obtain⟨L',u'⟩:=p;simp[TM.l,hq]at ht;obtain⟨rfl,rfl⟩:=ht;obtain⟨i1,i2,i3⟩:=av_take n y (b+1) L' u' hy hq;exact⟨avS_cons hx i1,by rw[show b+((x::L').length:Int)=b+1+(L'.length:Int)by simp only[List.length_cons];omega];exact i2,by rw[List.length_cons,i3]⟩
  ·rw[if_neg (show ¬ (TM.node k v l).k=3 from hk)]at ht;cases ht
theorem av_split {m b:Int} {F G:Int→Prop} {t:TM} {n:Int} (h:avT (pV m F G) t b) (h0:(splitX t n).2.2=0):avS (pV m F G) (splitX t n).1 b∧avT (pV m F G) (splitX t n).2.1 (b+((splitX t n).1.length:Int)):=by
 unfold splitX at h0⊢;split
 case isFalse hc=>rw[if_neg hc]at h0;cases h0
 case isTrue hc=>
  rw[if_pos hc]at h0;split
  case isTrue hd=>rw[if_pos hd]at h0;cases h0
  case isFalse hd=>
   rw[if_neg hd]at h0;split
   case h_1 p hp=>
    obtain⟨L,u⟩:=p;obtain⟨h1,h2,_⟩:=av_take _ _ b L u h hp;exact⟨h1,h2⟩
   case h_2 hp=>rw[hp]at h0;cases h0
theorem av_arT {m:Int} {F G:Int→Prop} {κ:Int} (hκ:κ=3∨κ=4):∀(L:List TM) (t:TM) (b:Int),avS (pV m F G) L b→avT (pV m F G) t (b+(L.length:Int))→avT (pV m F G) (aroundT κ L t) b
 | [],t,b,_,h=>by
  rw[show b+(([]:List TM).length:Int)=b by simp]at h;exact h
 | a::L,t,b,hL,h=>by
  obtain⟨h1,h2⟩:=avS_tail hL;have i:=av_arT hκ L t (b+1) h2 (by rw[show b+1+(L.length:Int)=b+((a::L).length:Int)by simp only[List.length_cons];omega];exact h);show avT (pV m F G) (.node κ 0 [a,aroundT κ L t]) b
  refine avT_iff.2 ⟨by rcases hκ with rfl|rfl<;>exact pV_other (by decide) (by decide) (by decide) (by decide),by rcases hκ with rfl|rfl<;>rfl,fun j hj=> ?_⟩
  match j,hj with
  | 0,_=>
   rw[show bnd κ 0=0 by rcases hκ with rfl|rfl<;>decide,Int.add_zero];exact h1
  | 1,_=>
   rw[show bnd κ 1=1 by rcases hκ with rfl|rfl<;>decide];exact i
theorem av_got {m b:Int} {F G:Int→Prop} {t:TM} (h:avT (pV m F G) t b):avT (pV m F G) (gotX t).1 b:=by
 unfold gotX;split
 ·exact h
 ·exact av_zero
theorem av_laid {m b:Int} {F G:Int→Prop} {κ:Int} (hκ:κ=3∨κ=4) {L:List TM} {t:TM} (hL:avS (pV m F G) L b) (h:avT (pV m F G) t (b+(L.length:Int))):avT (pV m F G) (laidX κ L t).1 b:=by
 unfold laidX;split
 ·unfold aroundX;split
  ·exact av_zero
  ·split
   ·exact av_got (av_arT hκ L t b hL h)
   ·exact av_zero
 ·exact av_zero
theorem av_lift {m:Int} {F G:Int→Prop} {t:TM} {k:Nat} (h:avT (pV m F G) t 0):avT (pV m F G) (liftX t k 0).1 k:=by
 rw[liftX_eq];split
 ·split
  ·have:=av_move (y:=(k:Int)) (by omega) t 0 h;rw[Int.zero_add]at this;exact this
  ·exact av_zero
 ·exact av_zero
theorem av_vars {m:Int} {F G:Int→Prop} {n:Nat}:∀a∈varsT n,avT (pV m F G) a (n:Int):=fun a ha=>by
 unfold varsT at ha;obtain⟨i,hi,rfl⟩:=List.mem_map.1 ha;have:=List.mem_range.1 hi;exact av_leaf ⟨fun _=> .inl (by omega),fun h=>by omega,fun h=>by omega⟩ many1
theorem av_getD {m b:Int} {F G:Int→Prop} {l:List TM} (h:∀a∈l,avT (pV m F G) a b) (i:Nat):avT (pV m F G) (l.getD i (.node 0 0 [])) b:=by
 rw[List.getD_eq_getElem?_getD];by_cases hi:i<l.length
 ·rw[List.getElem?_eq_getElem hi];exact h _ (List.getElem_mem hi)
 ·rw[List.getElem?_eq_none (by omega)];exact av_zero
theorem av_thr {m:Int} {F G:Int→Prop} {t:TM} {n:Nat} {pars ahead:List TM} (ht:avT (pV m F G) t ((pars++ahead).length:Int)) (hp:∀a∈pars,avT (pV m F G) a 0) (ha:∀a∈ahead,avT (pV m F G) a 0) (h0:(thrX t n pars ahead).2.2=0) (hs:(manyX t (pars++ahead).reverse).2=0→(splitX (manyX t (pars++ahead).reverse).1 n).2.2=0):
  avS (pV m F G) (thrX t n pars ahead).1 0∧∀a∈(thrX t n pars ahead).2.1,avT (pV m F G) a ((thrX t n pars ahead).1.length:Int):=by
 have hm:avT (pV m F G) (manyX t (pars++ahead).reverse).1 0:=av_many (by rw[List.length_reverse];exact ht) (fun a hx=>by
  rw[List.mem_reverse,List.mem_append]at hx;exact hx.elim (hp a) (ha a))
 unfold thrX at h0⊢;split
 case isTrue hc=>
  obtain⟨i1,i2⟩:=av_split (n:=(n:Int)) hm (hs hc);rw[Int.zero_add]at i2;exact⟨i1,fun a hx=>(av_spine _ i2).2 a (List.mem_of_mem_drop hx)⟩
 case isFalse hc=>rw[if_neg hc]at h0;exact absurd h0 hc
theorem av_stepR {m:Int} {F G:Int→Prop} {c:CoT} {pars own front:List TM} {i:Nat} (hp:∀a∈pars,avT (pV m F G) a 0) (ho:∀a∈own,avT (pV m F G) a 0) (hf:∀a∈front,avT (pV m F G) a 0)
    (hc:∀j,∀h:j<c.args.length,avT (pV m F G) c.args[j] ((pars.length:Int)+(j:Int))) (hi:i<c.args.length) (hio:i≤own.length) (hth:ThrOk (c.args.getD i (.node 0 0 [])) (c.recs.getD i zeroRc).ar.length pars (own.take i)):
    avT (pV m F G) (stepR 4 c pars own front i).1 0:=by
  have hown:∀a∈own.take i,avT (pV m F G) a 0:=fun a ha=>ho a (List.mem_of_mem_take ha);have hci:avT (pV m F G) (c.args.getD i (.node 0 0 [])) ((pars++own.take i).length:Int):=by
    rw[List.getD_eq_getElem?_getD,List.getElem?_eq_getElem hi,List.length_append,List.length_take,Nat.min_eq_left hio];show avT _ c.args[i] _
    rw[show((pars.length+i:Nat):Int)=(pars.length:Int)+(i:Int)by omega];exact hc i hi
  unfold stepR;obtain⟨T,hT⟩:∃T,thrX (c.args.getD i (.node 0 0 [])) (c.recs.getD i zeroRc).ar.length pars (own.take i)=T:=⟨_,rfl⟩;have key:T.2.2=0→avS (pV m F G) T.1 0∧∀a∈T.2.1,avT (pV m F G) a (T.1.length:Int):=fun h0=>by
    rw[←hT]at h0⊢;exact av_thr hci hp hown h0 (fun hm=>by
      obtain⟨L,u,e,_⟩:=hth hm;rw[e])
  rw[hT];split
  case isTrue h0=>
    obtain⟨k1,k2⟩:=key h0;split
    · refine av_laid (.inr rfl) k1 ?_;rw[Int.zero_add];have hfr:∀a∈mapL T.1.length 0 front,avT (pV m F G) a (T.1.length:Int):=fun a ha=>by
        unfold mapL at ha;obtain⟨y,hy,rfl⟩:=List.mem_map.1 ha;exact av_lift (hf y hy)
      refine av_apply _ _ (av_getD hfr 0) fun a ha=> ?_;rcases List.mem_append.1 ha with ha|ha
      · exact hfr a (List.mem_of_mem_drop ha)
      · rcases List.mem_append.1 ha with ha|ha
        · exact k2 a ha
        · rw[List.mem_singleton.1 ha];exact av_apply _ _ (av_lift (av_getD ho i)) av_vars
    · exact av_zero
  case isFalse=>exact av_zero
theorem av_recL {m:Int} {F G:Int→Prop} {c:CoT} {pars own front:List TM} (hp:∀a∈pars,avT (pV m F G) a 0) (ho:∀a∈own,avT (pV m F G) a 0) (hf:∀a∈front,avT (pV m F G) a 0)
    (hc:∀j,∀h:j<c.args.length,avT (pV m F G) c.args[j] ((pars.length:Int)+(j:Int))) (hlo:own.length=c.args.length) (hth:∀i,i<c.args.length→isR c i=true→ThrOk (c.args.getD i (.node 0 0 [])) (c.recs.getD i zeroRc).ar.length pars (own.take i)):
    ∀n,n≤c.args.length→∀a∈recL 4 c pars own front n,avT (pV m F G) a 0
  | 0,_=>fun a ha=>by rw[recL]at ha;cases ha
  | n+1,hn=>fun a ha=>by
    rw[recL]at ha;have ih:=av_recL hp ho hf hc hlo hth n (by omega);split at ha
    case isTrue hr=>
      rcases List.mem_append.1 ha with ha|ha
      · exact ih a ha
      · rw[List.mem_singleton.1 ha];exact av_stepR hp ho hf hc (by omega) (by omega) (hth n (by omega) hr)
    case isFalse=>exact ih a ha
theorem av_tel {m:Int} {F G:Int→Prop} {t:TM} (hg:tgoodB t=true) {b:Int} (h:avT (pV m F G) t b):avS (pV m F G) (telT t) b:=(av_take _ t b _ _ h (take_pis hg)).1
theorem av_red {l:List ET} (hfm:formedB l=true) {F G:Int→Prop} {r:Rx} (hok:RxOk l r) (hh:avT (pV l.length F G) r.hd 0) (hts:∀a∈r.ts,avT (pV l.length F G) a 0) {u:TM} {q:Int} (h:redR l r=some (u,q)):avT (pV l.length F G) u 0:=by
 have hg:tgoodB (.node r.hd.k r.hd.n r.hd.l)=true:=by rw[←r.hd.eta];exact(shapedB_true.1 hok.hs).2.2
 obtain⟨-, -,g3, -, -,g6,g7⟩:=good_parts hg;have hh':avT (pV l.length F G) (.node r.hd.k r.hd.n r.hd.l) 0:=by rw[←r.hd.eta];exact hh
 obtain⟨v1,v2,v3⟩:=avT_iff.1 hh';unfold redR at h;split at h
 case isTrue k4=>
  injection h with h;rw[k4]at g3;have h1:1<r.hd.l.length:=by rw[g3];decide
  have hb:=v3 1 h1;rw[k4,bnd41]at hb;have:(manyX (r.hd.l.getD 1 zT) [r.ts.getD 0 zT]).1=u:=by rw[h]
  rw[←this];refine av_many ?_ (fun a ha=> ?_)
  ·rw[List.getD_eq_getElem?_getD,List.getElem?_eq_getElem h1];exact hb
  ·rw[List.mem_singleton.1 ha];exact av_getD hts 0
 case isFalse k4=>
 split at h
 case isTrue e3=>
  injection h with h;injection h with h _;obtain⟨i,hi,hn,he⟩:=entT_in (l:=l) (n:=r.hd.n) (by rw[e3];decide);rw[←h,he];rw[he]at e3;exact(av_ent hfm hi (Int.le_refl 0)).2 e3
 case isFalse e3=>
 split at h
 case isTrue=>cases h
 case isFalse hcon=>
 have hcon:conE l (tgtR r)=true:=by simpa using hcon
 have htg:avT (pV l.length F G) (tgtR r) 0:=av_getD hts _;have hown:∀a∈ownArg l (tgtR r),avT (pV l.length F G) a 0:=fun a ha=>(av_spine _ htg).2 a (List.mem_of_mem_drop ha);split at h
 case isTrue hq=>
  injection h with h;have:(fldX l r.hd.n (ownArg l (tgtR r))).1=u:=by rw[h]
  rw[←this];unfold fldX;split
  ·split
   ·split
    ·split
     ·exact av_getD hown _
     ·exact av_zero
    ·exact av_zero
   ·exact av_zero
  ·exact av_zero
 case isFalse hq=>
 split at h
 case isFalse=>cases h
 case isTrue hst=>
  injection h with h;obtain⟨k7,hst⟩:=hst;have e1:(entT l r.hd.n).k=1:=by
   rcases hok.kd with ⟨k,_⟩|⟨k,_⟩|⟨k,_⟩|⟨_,e,_⟩
   ·omega
   ·omega
   ·omega
   ·exact e
  have lg:(r.ts.length:Int)=(entT l r.hd.n).a+1+(entT l r.hd.n).c.length+(entT l r.hd.n).i+1:=by
   rcases hok.kd with ⟨k,_⟩|⟨k,_⟩|⟨k,_⟩|⟨_,_,e⟩
   ·omega
   ·omega
   ·omega
   ·exact e
  have hes:=ent_small hfm (.inl e1);obtain⟨he1,he2,he3⟩:=hes.2.2 e1;have he0:=hes.1;have hpos:0<r.ts.length:=by omega
  have hsT:=tgt_shaped hok hpos;have h0:0<r.hd.l.length:=by rw[g3,k7];decide
  obtain⟨a0,ha0⟩:∃a0:Nat,(entT l r.hd.n).a=(a0:Int):=⟨(entT l r.hd.n).a.toNat,by omega⟩;obtain⟨m,hm,hnm,hem⟩:=entT_in (l:=l) (n:=(headT (tgtR r)).n) (by
   have h1:=hcon;unfold conE at h1;simp only[Bool.and_eq_true,decide_eq_true_eq]at h1;rw[h1.2.1];decide)
  have hcc:=hcon;unfold conE at hcc;simp only[Bool.and_eq_true,decide_eq_true_eq]at hcc;obtain⟨-,c2,c3⟩:=hcc;rw[hem]at c2 c3;obtain⟨d,hd,hc⟩:=con_facts hfm hm c2;have hdn:r.hd.n=(d:Int):=by
   have:=hst;unfold famOf9 at this;rw[hem]at this;rw[←this];exact hc.f
  have hed:entT l r.hd.n=l[d]:=by rw[hdn];exact entT_at hd
  obtain⟨q',hq0,hq'⟩:=con_place hfm c2 hc;have hgd:r.hd.l.getD 0 zT=r.hd.l[0]'h0:=by rw[List.getD_eq_getElem?_getD,List.getElem?_eq_getElem h0];rfl
  have hp0:partsAt l m=partsT l[m] (moOf l l[m]):=by unfold partsAt;rw[List.getElem?_eq_getElem hm]
  have hargsE:(partsAt l m).args=(telT l[m].t).drop l[m].a.toNat:=by rw[hp0];rfl
  have hlen:(ownArg l (tgtR r)).length=(partsAt l m).args.length:=by
   rw[hargsE];unfold ownArg;rw[List.length_drop,List.length_drop,(tel_facts hc.sh).1,hem,c3]
  have hma:l[m].a=(a0:Int):=by rw[hc.a,←hed];exact ha0
  have hrl:ruleR l r (tgtR r)=stpX (partsAt l m) a0 q' r.hd.n (r.hd.l[0]'h0).n (r.ts.take (a0+1+(entT l r.hd.n).c.length)) (ownArg l (tgtR r)):=by
   unfold ruleR;rw[hnm,hgd,entT_at hm,hq0,ha0];simp only[Int.toNat_natCast]
  obtain⟨args,hargs⟩:∃args,r.ts.take (a0+1+(entT l r.hd.n).c.length)=args:=⟨_,rfl⟩;have hal:a0≤args.length:=by rw[←hargs,List.length_take];omega
  have hav:∀a∈args,avT (pV l.length F G) a 0:=fun a ha=>hts a (List.mem_of_mem_take (by rw[hargs];exact ha));have hfront:∀a∈elimT r.hd.n (r.hd.l[0]'h0).n::args,avT (pV l.length F G) a 0:=fun a ha=>by
   rcases List.mem_cons.1 ha with rfl|ha
   ·refine avT_iff.2 ⟨⟨fun h=>by omega,fun _=>by omega,fun h=>by omega⟩,rfl,fun j hj=> ?_⟩
    match j,hj with
    | 0,_=>exact av_leaf (pV_other (by decide) (by decide) (by decide) (by decide)) (by decide)
   ·exact hav a ha
  have hpl:(args.take a0).length=a0:=by rw[List.length_take];omega
  have hrec:∀a∈recL 4 (partsAt l m) (args.take a0) (ownArg l (tgtR r)) (elimT r.hd.n (r.hd.l[0]'h0).n::args) (partsAt l m).recs.length,avT (pV l.length F G) a 0:=by
   have hrl2:(partsAt l m).recs.length=(partsAt l m).args.length:=by rw[hp0];exact recsT_len _ _ _ _ _
   refine av_recL (fun a ha=>hav a (List.mem_of_mem_take ha)) hown hfront (fun j hj=> ?_) hlen (fun i hi hr=> ?_) _ (by omega)
   ·have hT:=av_tel (shapedB_true.1 hc.sh).2.2 (av_ent (F:=F) (G:=G) hfm hm (Int.le_refl 0)).1;have hj2:a0+j<(telT l[m].t).length:=by
     rw[hargsE,List.length_drop,hma]at hj;omega
    have e:(partsAt l m).args[j]=(telT l[m].t)[a0+j]:=by
     simp only[hargsE,List.getElem_drop,hma,Int.toNat_natCast]
    rw[e,hpl];have:=hT (a0+j) hj2;rw[Int.zero_add,show((a0+j:Nat):Int)=(a0:Int)+(j:Int)by omega]at this;exact this
   ·have hi2:i<(partsAt l m).recs.length:=by omega
    have e1:(partsAt l m).args.getD i (.node 0 0 [])=(partsAt l m).args[i]:=by rw[List.getD_eq_getElem?_getD,List.getElem?_eq_getElem hi];rfl
    have e2:(partsAt l m).recs.getD i zeroRc=(partsAt l m).recs[i]:=by rw[List.getD_eq_getElem?_getD,List.getElem?_eq_getElem hi2];rfl
    rw[e1,e2];refine thr_ok hm hi2 hi ?_ _ _ (by rw[hpl,hma];omega);unfold isR at hr;rw[e2]at hr;exact hr
  have:(stpX (partsAt l m) a0 q' r.hd.n (r.hd.l[0]'h0).n args (ownArg l (tgtR r))).1=u:=by rw[←hargs,←hrl,h]
  rw[←this];unfold stpX;split
  ·split
   ·unfold stpT;refine av_apply _ _ (av_getD hav _) fun a ha=> ?_;rcases List.mem_append.1 ha with ha|ha
    ·exact hown a ha
    ·exact hrec a ha
   ·exact av_zero
  ·exact av_zero
def avR (l:List ET) (F G:Int→Prop) (r:Rx):Prop:=RxOk l r∧avT (pV l.length F G) r.hd 0∧(∀a∈r.ts,avT (pV l.length F G) a 0)∧∀a∈r.rs,avT (pV l.length F G) a 0
theorem avR_of {l:List ET} (hf:formedB l=true) {F G:Int→Prop} {t:TM} (hs:shapedB t=true) (ht:avT (pV l.length F G) t 0) {r:Rx} (h:redX l t=some r):avR l F G r:=by
 obtain⟨h1,h2,h3,h4,h5⟩:=redX_ok hf hs h;obtain⟨s1,s2⟩:=av_spine t ht;refine⟨h1,by rw[h3];exact s1,fun a ha=>s2 a (by rw[←h4];exact List.mem_append_left _ ha),fun a ha=>s2 a (by rw[←h4];exact List.mem_append_right _ ha)⟩
theorem avR_meet {l:List ET} {F G:Int→Prop} {r:Rx} (h:avR l F G r) {t:TM} (hs:shapedB t=true) (ht:avT (pV l.length F G) t 0):avR l F G (meetR r t):=
 ⟨h.1.meet hs,h.2.1,fun a ha=>by
  rcases List.mem_or_eq_of_mem_set ha with h1|h1
  ·exact h.2.2.1 a h1
  ·rw[h1];exact ht,h.2.2.2⟩
def avSta (l:List ET) (F G:Int→Prop) (s:Sta):Prop:=(s.ws≠[]→avT (pV l.length F G) s.wh 0)∧(∀r∈s.ws,avR l F G r∧0<r.ts.length)∧shapedB s.t=true∧avT (pV l.length F G) s.t 0
theorem avSta_wh {l:List ET} {F G:Int→Prop} {s:Sta} (h:avSta l F G s):avT (pV l.length F G) (whR s) 0:=by
 unfold whR;split
 ·exact h.2.2.2
 case isFalse hn=>exact h.1 hn
theorem av_mstp {l:List ET} (hf:formedB l=true) {F G:Int→Prop} {r:Rx} (hr:avR l F G r) {wh:TM} {ws:List Rx} {s:Sta} (h:mstpR l r wh ws= .step (some s)):s.wh=wh∧s.ws=ws∧shapedB s.t=true∧avT (pV l.length F G) s.t 0:=by
 unfold mstpR at h;split at h
 case h_1=>cases h
 case h_2 u q hq=>
  split at h
  case isTrue h0=>
   split at h
   case isTrue h1=>
    cases h
    exact⟨rfl,rfl,h1,av_apply _ _ (av_red hf hr.1 hr.2.1 hr.2.2.1 hq) hr.2.2.2⟩
   case isFalse=>cases h
  case isFalse=>cases h
theorem av_run {l:List ET} (hf:formedB l=true) {F G:Int→Prop} {s:Sta} {a:Nat} {o:Outc} (h:Run l s a o):∀{x:TM} {b:Nat},o= .ok x b→avSta l F G s→avT (pV l.length F G) x 0:=by
 induction h with
 | @push s s' a o h1 hr ih=>
  intro x b he hs;unfold nxtR at h1;split at h1
  case h_1 r0 hq=>
   split at h1
   case isFalse=>exact absurd h1 (by unfold mstpR;split<;>first|(intro h;cases h)|(split<;>first|(split<;>(intro h;cases h))|(intro h;cases h)))
   case isTrue hw=>
    cases h1
    have hr0:=avR_of hf hs.2.2.1 hs.2.2.2 hq;have hp:=redX_pos hf hq hw;refine ih he ⟨fun _=>avSta_wh hs,fun r hr=> ?_,tgt_shaped hr0.1 hp,av_getD hr0.2.2.1 _⟩;rcases List.mem_cons.1 hr with rfl|hr
    ·exact⟨hr0,hp⟩
    ·exact hs.2.1 r hr
  case h_2 hq=>
   split at h1
   case h_1=>cases h1
   case h_2=>exact absurd h1 (by unfold mstpR;split<;>first|(intro h;cases h)|(split<;>first|(split<;>(intro h;cases h))|(intro h;cases h)))
 | @fin s a w h1=>
  intro x b he hs;cases he
  have hwh:=avSta_wh hs;unfold nxtR at h1;split at h1
  case h_1 r0 hq=>
   split at h1
   case isTrue=>cases h1
   case isFalse hw=>rw[(mstpR_fin h1).2];exact hwh
  case h_2 hq=>
   split at h1
   case h_1 h0=>cases h1;exact hwh
   case h_2 r1 ws h0=>rw[(mstpR_fin h1).2];exact hwh
 | err=>intro x b he;cases he
 | dry=>intro x b he;cases he
 | long=>intro x b he;cases he
 | @step s s' a o h1 hr ih=>
  intro x b he hs;have hwh:=avSta_wh hs;unfold nxtR at h1;split at h1
  case h_1 r0 hq=>
   split at h1
   case isTrue=>cases h1
   case isFalse hw=>
    obtain⟨e1,e2,e3,e4⟩:=av_mstp hf (avR_of hf hs.2.2.1 hs.2.2.2 hq) h1;exact ih he ⟨fun _=>by rw[e1];exact hwh,by rw[e2];exact hs.2.1,e3,e4⟩
  case h_2 hq=>
   split at h1
   case h_1=>cases h1
   case h_2 r1 ws h0=>
    have hr1:=(hs.2.1 r1 (by rw[h0];exact List.mem_cons_self)).1;obtain⟨e1,e2,e3,e4⟩:=av_mstp hf (avR_meet hr1 hs.2.2.1 hs.2.2.2) h1;exact ih he ⟨fun _=>by rw[e1];exact hwh,by rw[e2];exact fun r hr=>hs.2.1 r (by rw[h0];exact List.mem_cons_of_mem _ hr),e3,e4⟩
theorem run_right {l:List ET} (hf:formedB l=true) {t x:TM} {a b:Nat} (ht:trightB t 1048577 l.length=true) (h:Run l ⟨t,[],t⟩ a (.ok x b)) (hs:shapedB x=true):trightB x 1048577 l.length=true:=
 right_of_av hs (av_run hf h rfl ⟨fun h=>absurd rfl h,fun r hr=>(by cases hr),right_shaped ht,av_of_right ht⟩)
theorem wBring_neg (l:List ET) (E:Option Addr) (ce lo hi:Nat) (t:TM) (A:Option Addr) (cap:Nat) (n:Int) (w:World) (hl:l.length≤600) (hlc:l.length≤ce) (hn:EntsAt w lo hi E l) (hhi:hi≤w.heap.size) (hneg:n<0) (hS:ShapesM w):
  Calls prog 12 #[.slice E l.length ce,termV t A cap,.int .i64 n] w fun e w'=>e= .returned (.tuple #[.agg #[.int .i64 0,.int .i64 0,.slice none 0 0],.int .i64 0,.int .i64 5])∧Below w.heap.size w w':=by
 obtain⟨X,hX⟩:∃X,(w.alloc (.cells #[.int .i64 t.k,.int .i64 t.n,.slice A t.l.length cap] 25)).alloc (.cells #[.int .i64 0,.int .i64 0,.slice none 0 0] 25)=X:=⟨_,rfl⟩;have HBX:=hid (show Below w.heap.size w X from by rw[←hX];exact((Below.refl _ _).alloc lrE7 _).alloc (by simp) _);have HKr:=hid (show Bk X (w.heap.size+1) 25 #[.int .i64 0,.int .i64 0,.slice none 0 0]from by rw[←hX];exact Bk.last _ _ _ (by simp));have CN:=hid (mnew_any l E ce lo hi X hl hlc (hn.kept HBX.out hhi) (Nat.le_trans hhi HBX.out.size) (hS.kept HBX.out));have CM:=hid (fun(V:World)=>new_no n (.inl hneg) V);have HG:Hid (∀e w',GivesMn l X e w'=if formedB l=true then ∃g E ce gr A B cap,e= .returned (.tuple #[.pointer (some ⟨g,0,none⟩),.int .i64 0])∧MachAt w' w'.heap.size g l E ce gr A B cap l.length∧X.heap.size≤g∧Below X.heap.size X w'
  else e= .returned (.tuple #[.pointer none,.int .i64 5])∧Below X.heap.size X w'):=hid (fun _ _=>rfl)
 obtain⟨z,hz⟩:∃z,formedB l=z:=⟨_,rfl⟩;have HZ:=hid hz;unfold termV;clear hn hhi hl hlc hS hz hneg;go_enter func12,ntmps12;go_wp2_with fail;refine CN.out.mono ?_;rintro e w1 hgm;rw[HG.out,HZ.out]at hgm;cases z with
 | false=>
  rw[if_neg (by decide)]at hgm;obtain⟨rfl,hb1⟩:=hgm;have HB1:=hid (trE7 HBX hb1);have Hr1:=hid (HKr.out.below hb1 HKr.out.lt);clear hb1 hX CN;have hlr:=Hr1.out.lt;have hzB:=HB1.out.size;have hfr:∀q,w1.frozen? ⟨w.heap.size+1,q,none⟩=false:=fun q=>Hr1.out.cold q;have r0:w1.cell? ⟨w.heap.size+1,0,none⟩=some (.int .i64 0):=Hr1.out.cell 0;have r1:w1.cell? ⟨w.heap.size+1,1,none⟩=some (.int .i64 0):=Hr1.out.cell 1;have r2:w1.cell? ⟨w.heap.size+1,2,none⟩=some (.slice none 0 0):=Hr1.out.cell 2;have B5:=((Hr1.out.at_ 0 (.int .i64 0)).at_ 1 (.int .i64 0)).at_ 2 (.slice none 0 0);have HS0:=hid (B5.cell 0);have HS1:=hid (B5.cell 1);have HS2:=hid (B5.cell 2);clear B5;go_wp2_with fail;refine bodyPost_ret (v:= .tuple #[.agg #[.int .i64 0,.int .i64 0,.slice none 0 0],.int .i64 0,.int .i64 5]) (by simp[results,results12,go_sem,HS0.out,HS1.out,HS2.out]) rfl ?_;exact⟨rfl,Below.st (g:=w.heap.size+1) (q:=2) (Below.st (g:=w.heap.size+1) (q:=1) (Below.st (g:=w.heap.size+1) (q:=0) HB1.out (by omega) (.int .i64 0)) (by omega) (.int .i64 0)) (by omega) (.slice none 0 0)⟩
 | true=>
  rw[if_pos rfl]at hgm;obtain⟨g,E1,ce1,gr,A1,B1,cap1,rfl,hma,hg,hb1⟩:=hgm;have HB1:=hid (trE7 HBX hb1);have Hr1:=hid (HKr.out.below hb1 HKr.out.lt);clear hb1 hX CN hg hma;go_wp2_with fail;refine(CM.out w1).mono ?_;rintro e w2 ⟨rfl,rfl⟩;have hlr:=Hr1.out.lt;have hzB:=HB1.out.size;have hfr:∀q,w2.frozen? ⟨w.heap.size+1,q,none⟩=false:=fun q=>Hr1.out.cold q;have r0:w2.cell? ⟨w.heap.size+1,0,none⟩=some (.int .i64 0):=Hr1.out.cell 0;have r1:w2.cell? ⟨w.heap.size+1,1,none⟩=some (.int .i64 0):=Hr1.out.cell 1;have r2:w2.cell? ⟨w.heap.size+1,2,none⟩=some (.slice none 0 0):=Hr1.out.cell 2;have B5:=((Hr1.out.at_ 0 (.int .i64 0)).at_ 1 (.int .i64 0)).at_ 2 (.slice none 0 0);have HS0:=hid (B5.cell 0);have HS1:=hid (B5.cell 1);have HS2:=hid (B5.cell 2);clear B5;go_wp2_with fail;refine bodyPost_ret (v:= .tuple #[.agg #[.int .i64 0,.int .i64 0,.slice none 0 0],.int .i64 0,.int .i64 5]) (by simp[results,results12,go_sem,HS0.out,HS1.out,HS2.out]) rfl ?_;exact⟨rfl,Below.st (g:=w.heap.size+1) (q:=2) (Below.st (g:=w.heap.size+1) (q:=1) (Below.st (g:=w.heap.size+1) (q:=0) HB1.out (by omega) (.int .i64 0)) (by omega) (.int .i64 0)) (by omega) (.slice none 0 0)⟩
theorem machine14_any (l:List ET) (E:Option Addr) (ce lo hi:Nat) (w:World) (hl:l.length≤600) (hlc:l.length≤ce) (hn:EntsAt w lo hi E l) (hhi:hi≤w.heap.size) (hS:ShapesM w) (hf:formedB l=true):
  Calls prog 29 #[.slice E l.length ce,.int .i64 400] w fun e w'=>∃g gf w1,e= .returned (.tuple #[.pointer (some ⟨g,0,none⟩),.pointer (some ⟨gf,0,none⟩),.bool true])∧EnvW w1 w' l w1.heap.size g gf ((400:Nat):Int) 400∧w.heap.size≤gf∧Below w.heap.size w w1∧Below w.heap.size w w':=by
 have CN:=hid (mnew_any l E ce lo hi w hl hlc hn hhi hS);have CM:=hid (fun(V:World)=>new_ok 400 (by omega) (by omega) V);have HSS:=hid (fun V (hV:Below w.heap.size w V)=>hS.kept hV);have HF:=hid hf;have HG:Hid (∀e w',GivesMn l w e w'=if formedB l=true then ∃g E ce gr A B cap,e= .returned (.tuple #[.pointer (some ⟨g,0,none⟩),.int .i64 0])∧MachAt w' w'.heap.size g l E ce gr A B cap l.length∧w.heap.size≤g∧Below w.heap.size w w'
  else e= .returned (.tuple #[.pointer none,.int .i64 5])∧Below w.heap.size w w'):=hid (fun _ _=>rfl)
 clear hn hhi hl hlc hS hf;go_enter func29,ntmps29;go_wp2_with fail;refine CN.out.mono ?_;rintro e w1 hgm;rw[HG.out,HF.out,if_pos rfl]at hgm;obtain⟨g,E1,ce1,gr,A1,B1,cap1,rfl,hma,hg,hb1⟩:=hgm;have HMA:=hid (show MachM w1 w1.heap.size g l from⟨_,_,_,_,_,_,_,hma⟩);have HB1:=hid hb1;clear hb1 hg hma CN;go_wp2_with fail;refine(CM.out w1).mono ?_;rintro e w2 ⟨rfl,hm2,hb2⟩;have HEN:=hid (show EnvW w1 w2 l w1.heap.size g w1.heap.size ((400:Nat):Int) 400 from⟨hb2,Nat.le_refl _,HSS.out w1 HB1.out,HMA.out,hm2,by decide⟩);have HB2:=hid (trE7 HB1 hb2);clear hm2 hb2;go_wp2_with fail;refine bodyPost_ret (v:= .tuple #[.pointer (some ⟨g,0,none⟩),.pointer (some ⟨w1.heap.size,0,none⟩),.bool true]) (by simp[results,results29,go_sem]) rfl ?_;exact⟨g,_,w1,rfl,HEN.out,HB1.out.size,HB1.out,HB2.out⟩
def AgOut (l:List ET) (w:World) (e:Ending) (w':World):Prop:=
 Below w.heap.size w w'∧((∃q G c,q≠0∧e= .returned (.tuple #[.agg #[.int .i64 0,.int .i64 0,.slice G 0 c],.int .i64 0,.int .i64 q]))∨
  ∃x k G c,e= .returned (.tuple #[.agg #[.int .i64 x.k,.int .i64 x.n,.slice G x.l.length c],.int .i64 k,.int .i64 0])∧IsTerm w' w.heap.size w'.heap.size x G c∧formedB l=true∧trightB x 1048577 l.length=true∧Whnf l x)
theorem bf_ag {l:List ET} {t:TM} {a:Nat} {w w':World} {e:Ending} (h:BfOut l t a w e w'):AgOut l w e w':=by
 obtain⟨hb,⟨q,G,c,hq,_,he⟩|⟨hf,hr,x,b,G,c,hrun,he,hs,hx,_⟩⟩:=h
 ·exact⟨hb,.inl ⟨q,G,c,hq,he⟩⟩
 ·exact⟨hb,.inr ⟨x,_,G,c,he,hx,hf,run_right hf hr hrun hs,run_again hf hrun⟩⟩
theorem again_walk (l:List ET) (E:Option Addr) (ce:Nat) (t:TM) (A:Option Addr) (cap:Nat) (n:Int) (w:World) (hlc:l.length≤ce) (hce:ce≤maxLen) (hn:EntsAt w 0 w.heap.size E l) (ht:IsTerm w 0 w.heap.size t A cap) (hS:ShapesM w):Calls prog 7 #[.slice E l.length ce,termV t A cap,.int .i64 n] w fun e w'=>e= .returned (.bool true)∧Below w.heap.size w w':=by
 have HSS:=hid (fun V (hV:Below w.heap.size w V)=>hS.kept hV);have CA:=hid (fun V (hV:Below w.heap.size w V)=>awake14_all V (HSS.out V hV));have CL:=hid (fun V (hV:Below w.heap.size w V)=>light14_any l.length 0 E A ce t cap V (by unfold maxLen at hce;omega) ((ht.kept hV lrE7).wide lrE7 hV.size) n);have CB:=hid (fun(hl:l.length≤60) (hn4:n≤400) (V:World) (hV:Below w.heap.size w V)=>(show Calls prog 12 #[.slice E l.length ce,termV t A cap,.int .i64 n] V (AgOut l V)from by
  by_cases h0:n<0
  ·refine(wBring_neg l E ce 0 w.heap.size t A cap n V (by omega) hlc (hn.kept hV lrE7) hV.size h0 (HSS.out V hV)).mono ?_;rintro e w' ⟨he,hb⟩;exact⟨hb,.inl ⟨5,none,0,by decide,he⟩⟩
  ·obtain⟨a,rfl⟩:∃a:Nat,n=(a:Int):=⟨n.toNat,by omega⟩;exact(wBring_any l E ce 0 w.heap.size t A cap a V (by omega) hlc (hn.kept hV lrE7) hV.size ((ht.kept hV lrE7).wide lrE7 hV.size) (by omega) (HSS.out V hV)).mono fun e w' h=>bf_ag h))
 have CMa:=hid (fun(hl:l.length≤60) (hf:formedB l=true) (V:World) (hV:Below w.heap.size w V)=>machine14_any l E ce 0 w.heap.size V (by omega) hlc (hn.kept hV lrE7) hV.size (HSS.out V hV) hf);unfold termV at CL CB;unfold termV;obtain⟨X,hX⟩:∃X,w.alloc (.cells #[.int .i64 t.k,.int .i64 t.n,.slice A t.l.length cap] 25)=X:=⟨_,rfl⟩;have HBX:=hid (show Below w.heap.size w X from by rw[←hX];exact(Below.refl _ _).alloc lrE7 _);have HKt:=hid (show Bk X w.heap.size 25 #[.int .i64 t.k,.int .i64 t.n,.slice A t.l.length cap]from by rw[←hX];exact Bk.new _ _ _);have HKX:=hid (fun V (hV:Below X.heap.size X V)=>(show V.cell? ⟨w.heap.size,0,none⟩=some (.int .i64 t.k)∧V.cell? ⟨w.heap.size,1,none⟩=some (.int .i64 t.n)∧V.cell? ⟨w.heap.size,2,none⟩=some (.slice A t.l.length cap)from by
  have k:=HKt.out.below hV HKt.out.lt;exact⟨k.cell 0,k.cell 1,k.cell 2⟩))
 have HW:=hid (fun V (hV:Below X.heap.size X V)=>(show Below w.heap.size w V from trE7 HBX hV));have HB0':=hid (Below.refl X.heap.size X);obtain⟨x0,x1,x2⟩:=HKX.out _ HB0'.out;clear ht hn hS hlc hce;go_enter func7,ntmps7;go_wp2_with fail;refine(CL.out X HBX.out).mono ?_;rintro e w1 ⟨b1,rfl,hlight,hb1⟩;have HL:=hid hlight;have HB1:=hid hb1;clear hb1 hX x0 x1 x2 hlight;obtain⟨x0,x1,x2⟩:=HKX.out _ HB1.out;cases b1 with
 | false=>
  go_wp2_with fail;refine(CA.out w1 (HW.out _ HB1.out)).mono ?_;rintro e w2 ⟨rfl,hb2⟩;have HB2:=hid ((HW.out _ HB1.out).trans (hb2.mono (HW.out _ HB1.out).size));clear hb2 x0 x1 x2;go_wp2_with fail;go_ret;exact⟨rfl,HB2.out⟩
 | true=>
  have HLL:=hid (HL.out rfl);clear HL;have CB1:=hid (CB.out HLL.out.1 HLL.out.2 w1 (HW.out _ HB1.out));go_wp2_with fail;refine CB1.out.mono ?_;rintro e w2 ⟨hb2,hres⟩;have HB2:=hid (trE7 HB1 hb2);clear hb2 x0 x1 x2 CB1;rcases hres with ⟨q,G,c,hq,rfl⟩|⟨x,k,G,c,rfl,hx,hf,hr,hwh⟩
  case inl=>
   have q1:(q==0)=false:=by simpa using hq
   have q2:(q !=0)=true:=by simpa using hq
   clear hq;go_wp2_with fail;have HB3:=hid (HB2.out.alloc HB2.out.size (.cells #[.int .i64 0,.int .i64 0,.slice G 0 c] 25));refine(CA.out _ (HW.out _ HB3.out)).mono ?_;rintro e w3 ⟨rfl,hb3⟩;have HB4:=hid ((HW.out _ HB3.out).trans (hb3.mono (HW.out _ HB3.out).size));clear hb3;go_wp2_with fail;go_ret;exact⟨rfl,HB4.out⟩
  case inr=>
   have HR:=hid hr;have HWH:=hid hwh;obtain⟨Y,hY⟩:∃Y,w2.alloc (.cells #[.int .i64 x.k,.int .i64 x.n,.slice G x.l.length c] 25)=Y:=⟨_,rfl⟩;have HBY:=hid (show Below X.heap.size X Y from by rw[←hY];exact HB2.out.alloc HB2.out.size _);have HKx:=hid (show Bk Y w2.heap.size 25 #[.int .i64 x.k,.int .i64 x.n,.slice G x.l.length c]from by rw[←hY];exact Bk.new _ _ _);have HXX:=hid (show IsTerm Y 0 Y.heap.size x G c from by
    have h:=(Below.refl w2.heap.size w2).alloc lrE7 (.cells #[.int .i64 x.k,.int .i64 x.n,.slice G x.l.length c] 25);rw[hY]at h;exact(hx.kept h lrE7).wide (Nat.zero_le _) h.size)
   have CMA:=hid (CMa.out HLL.out.1 hf Y (HW.out _ HBY.out));have HYE:=hid hY;clear hr hwh hx hf;go_wp2_with fail;refine CMA.out.mono ?_;rintro e w3 ⟨g,gf,wm,rfl,hen,hgf,hbm,hb3⟩;have HEN:=hid hen;have HB3:=hid hb3;have HGF:=hid hgf;have HK3:=hid (HKx.out.below hb3 HKx.out.lt);have HX3:=hid (show TermIn w3 (fun b=>b<w3.heap.size∧b≠gf) x G c from TermIn.imp (fun b o hb=>hb3.cell (p:=⟨b,o,none⟩) hb.2) (fun b hb=>⟨Nat.lt_of_lt_of_le hb.2 hb3.size,fun e=>by have:=hb.2;omega⟩) HXX.out);have CO:=hid (mOnce_whnf x G c wm w3 hen HX3.out HR.out HWH.out);unfold termV at CO;have y0:w3.cell? ⟨w2.heap.size,0,none⟩=some (.int .i64 x.k):=HK3.out.cell 0;have y1:w3.cell? ⟨w2.heap.size,1,none⟩=some (.int .i64 x.n):=HK3.out.cell 1;have y2:w3.cell? ⟨w2.heap.size,2,none⟩=some (.slice G x.l.length c):=HK3.out.cell 2;clear hen hgf hbm hb3 hY CMA;go_wp2_with fail;refine CO.out.mono ?_;rintro e w4 ⟨hup,hres⟩;have hk3:=HK3.out.lt;have hkx:=HKx.out.lt;have hg3:=HGF.out;have HU:=hid hup;have HK4:=hid (show Bk w4 w2.heap.size 25 #[.int .i64 x.k,.int .i64 x.n,.slice G x.l.length c]from(hup.block _ hk3 (fun e=>by injection e with e;omega)).trans HK3.out);have HB4:=hid (show Below X.heap.size X w4 from HBY.out.trans ((HB3.out.trans (hup.below HGF.out HB3.out.size)).mono HBY.out.size));have HX4:=hid (show IsTerm w4 0 w4.heap.size x G c from(HX3.out.same (fun b hb=>hup.block b hb.1 (fun e=>by injection e with e;exact hb.2 e))).isT (fun b hb=>Nat.lt_of_lt_of_le hb.1 hup.size));clear hup y0 y1 y2 CO;rcases hres with ⟨G4,c4,rfl,hy⟩|⟨G4,c4,rfl⟩
   case inr=>
    go_wp2_with fail;have HB5:=hid (HB4.out.alloc HB4.out.size (.cells #[.int .i64 0,.int .i64 0,.slice G4 0 c4] 25));refine(CA.out _ (HW.out _ HB5.out)).mono ?_;rintro e w5 ⟨rfl,hb5⟩;have HB6:=hid ((HW.out _ HB5.out).trans (hb5.mono (HW.out _ HB5.out).size));clear hb5;go_wp2_with fail;go_ret;exact⟨rfl,HB6.out⟩
   case inl=>
    obtain⟨Z,hZ⟩:∃Z,w4.alloc (.cells #[.int .i64 x.k,.int .i64 x.n,.slice G4 x.l.length c4] 25)=Z:=⟨_,rfl⟩;have hbZ:Below w4.heap.size w4 Z:=by rw[←hZ];exact(Below.refl _ _).alloc lrE7 _
    have HBZ:=hid (trE7 HB4 hbZ);have HKy:=hid (show Bk Z w4.heap.size 25 #[.int .i64 x.k,.int .i64 x.n,.slice G4 x.l.length c4]from by rw[←hZ];exact Bk.new _ _ _);have HKx5:=hid (HK4.out.below hbZ HK4.out.lt);have CE:=hid (show Calls prog 31 #[.agg #[.int .i64 x.k,.int .i64 x.n,.slice G x.l.length c],.agg #[.int .i64 x.k,.int .i64 x.n,.slice G4 x.l.length c4]] Z (fun e w'=>e= .returned (.bool true)∧Below Z.heap.size Z w')from by
     have:=refEqual_any x x 0 Z.heap.size 0 Z.heap.size G G4 c c4 Z ((HX4.out.kept hbZ lrE7).wide lrE7 hbZ.size) ((hy.kept hbZ lrE7).wide (Nat.zero_le _) hbZ.size) lrE7 lrE7;rw[alikeT_refl]at this;exact this)
    have y0:Z.cell? ⟨w2.heap.size,0,none⟩=some (.int .i64 x.k):=HKx5.out.cell 0;have y1:Z.cell? ⟨w2.heap.size,1,none⟩=some (.int .i64 x.n):=HKx5.out.cell 1;have y2:Z.cell? ⟨w2.heap.size,2,none⟩=some (.slice G x.l.length c):=HKx5.out.cell 2;have v0:Z.cell? ⟨w4.heap.size,0,none⟩=some (.int .i64 x.k):=HKy.out.cell 0;have v1:Z.cell? ⟨w4.heap.size,1,none⟩=some (.int .i64 x.n):=HKy.out.cell 1;have v2:Z.cell? ⟨w4.heap.size,2,none⟩=some (.slice G4 x.l.length c4):=HKy.out.cell 2;clear hy hbZ hk3 hkx hg3;go_wp2_with fail;refine CE.out.mono ?_;rintro e w5 ⟨rfl,hb5⟩;have HB5:=hid (trE7 HBZ hb5);clear hb5 y0 y1 y2 v0 v1 v2 hZ;go_wp2_with fail;refine(CA.out w5 (HW.out _ HB5.out)).mono ?_;rintro e w6 ⟨rfl,hb6⟩;have HB6:=hid ((HW.out _ HB5.out).trans (hb6.mono (HW.out _ HB5.out).size));clear hb6;go_wp2_with fail;go_ret;exact⟨rfl,HB6.out⟩
end Go.Proofs.YtchllgkgjompgaaGreatDoor
