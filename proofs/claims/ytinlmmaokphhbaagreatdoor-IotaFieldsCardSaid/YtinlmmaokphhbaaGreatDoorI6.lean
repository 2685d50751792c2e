import Derived.Test.YtinlmmaokphhbaaGreatDoorI2
import Derived.Test.YtinlmmaokphhbaaGreatDoorI3
import Derived.Deep.RegionHeld3
import Derived.Test.YtinlmmaokphhbaaGreatDoorSgRFormed
import Derived.Test.YtinlmmaokphhbaaGreatDoorTRGood
import Derived.Test.YtinlmmaokphhbaaGreatDoorR3
namespace Go.Proofs.YtinlmmaokphhbaaGreatDoor
set_option maxHeartbeats 2000000
set_option maxRecDepth 100000
open Go.RowKit
set_option linter.unusedVariables false
open Lib(hid)
open Go.Proofs.Tryz
open Go renaming bodyPost_ret→Qa,results→Qb
open Go.RowKit.Below renaming refl→Qc
open _root_.List renaming getElem?_eq_getElem→Qd,getElem_mem→Qe
open Go.IntWalk renaming i64_in→Qf
open _root_.Int renaming toNat_natCast→Qg
theorem Zjs{p:Prop}[Decidable p](h:¬p):decide p=false:=decide_eq_false h
theorem Zhl{p:Prop}[Decidable p](h:p):decide p=true:=decide_eq_true h
theorem Zhd{n:Nat}:n≤n:=Nat.le_refl n
theorem Zmc{a b c:World}(x:Hid (Below a.heap.size a b))(y:Below b.heap.size b c):Below a.heap.size a c:=x.out.trans (y.mono x.out.size)
def Zgn (l:List ET)(p:Int)(own:List TM):TM×Int:=
 if isB l p 4 then(match l[p.toNat]? with
  | some x=>(match Zkb l x with
   | some y=>if shN own y.d.length then(own.getD x.p.toNat (.node 0 0 []),0)else(.node 0 0 [],5)
   | none=>(.node 0 0 [],5))
  | none=>(.node 0 0 [],5))else(.node 0 0 [],16)
theorem Znz {l:List ET}{m d q:Nat}{own:List TM}(hm:m<l.length)(hd:d<l.length)(hk:l[m].k=4)(hf:l[m].f=(d:Int))(hp:l[m].p=(q:Int)):
  Zgn l m own=if shN own l[d].d.length then(own.getD q (.node 0 0 []),0)else(.node 0 0 [],5):=by
 unfold Zgn;rw[Zdg hm,Zhl hk,if_pos rfl,Qg,Qd hm];simp only;rw[Zak hf hd];simp only;rw[hp,Qg]
theorem Zwy (p:Int)(own:List TM)(O:Option Addr)(oc:Nat)(w:World):
  Calls prog 13 #[.pointer none,.int .i64 p,.slice O own.length oc] w (Zn (.node 0 0 [],5) w):=by
 obtain⟨X,hX⟩:∃X,w.alloc (.cells #[.int .i64 0,.int .i64 0,.slice none 0 0] 27)=X:=⟨_,rfl⟩;have HBX:=hid (show Below w.heap.size w X from by rw[←hX];exact(Qc _ _).alloc Zhd _);have HK2:=hid (show Bk X w.heap.size 27 #[.int .i64 0,.int .i64 0,.slice none 0 0]from by rw[←hX];exact Bk.new _ _ _);have B3:=((HK2.out.at_ 0 (.int .i64 0)).at_ 1 (.int .i64 0)).at_ 2 (.slice none 0 0);have HS0:=hid (B3.cell 0);have HS1:=hid (B3.cell 1);have HS2:=hid (B3.cell 2);have hfz:∀q,X.frozen? ⟨w.heap.size,q,none⟩=false:=fun q=>HK2.out.cold q;have z0:X.cell? ⟨w.heap.size,0,none⟩=some (.int .i64 0):=HK2.out.cell 0;have z1:X.cell? ⟨w.heap.size,1,none⟩=some (.int .i64 0):=HK2.out.cell 1;have z2:X.cell? ⟨w.heap.size,2,none⟩=some (.slice none 0 0):=HK2.out.cell 2;clear B3;go_enter func13,ntmps13;go_wp2_with fail;refine Qa (v:= .tuple #[.agg #[.int .i64 0,.int .i64 0,.slice none 0 0],.int .i64 5]) (by simp[Qb,results13,go_sem,HS0.out,HS1.out,HS2.out]) rfl ?_;exact Zbp HBX.out Zhd
theorem Zp2 (l:List ET)(A B:Option Addr)(cap bap hi g:Nat)(p:Int)(own:List TM)(O:Option Addr)(oc:Nat)(w:World)(hr:J8 w hi g l A B cap bap)(ho:Ze w 0 w.heap.size own O oc)(hS:Zi w):
    Calls prog 13 #[.pointer (some ⟨g,0,none⟩),.int .i64 p,.slice O own.length oc] w (Zn (Zgn l p own) w):=by
  obtain⟨X,hX⟩:∃X,w.alloc (.cells #[.int .i64 0,.int .i64 0,.slice none 0 0] 27)=X:=⟨_,rfl⟩;have HBX:=hid (show Below w.heap.size w X from by rw[←hX];exact(Qc _ _).alloc Zhd _);have HK2:=hid (show Bk X w.heap.size 27 #[.int .i64 0,.int .i64 0,.slice none 0 0]from by rw[←hX];exact Bk.new _ _ _);have HRX:=hr.below HBX.out;have CI:=hid (Zqs l A B cap bap hi g p 4 X HRX);have hlen:=Zc7 hr.fm;by_cases hB:isB l p 4=true
  · obtain⟨m,rfl,hm,hk⟩:=Zat hB;rw[hB]at CI;obtain⟨d,hd,hf,hkd,q,hq,hqd⟩:=Zik hr.fm hm hk;have hfx:=Znz (own:=own) hm hd hk hf hq;obtain⟨b,o,pp,hA, -,hb2,hx, -⟩:=hr.ents m hm;obtain⟨b',o',pd,hA', -, -,hxd,hed⟩:=hr.ents d hd;subst hA;obtain⟨rfl,rfl⟩:b=b'∧o=o':=by
      injection hA' with e;injection e with e1 e2;exact⟨e1,e2⟩
    have hhl:=hr.hl;have hbX:b<X.heap.size:=by have:=HBX.out.size;omega
    have hb0:b<w.heap.size:=by omega
    have HXX:=hx.kept (HBX.out.mono hhl) hb2;have HXD:=hxd.kept (HBX.out.mono hhl) hb2;obtain⟨x0,x1,x2,x3,x4,x5,x6,x7,x8,x9,x10,x11,x12,x13,x14⟩:=HXX;obtain⟨y,hy⟩:∃y,l[m]=y:=⟨_,rfl⟩;rw[hy]at x0 x1 x2 x3 x4 x5 x6 x7 x8 x9 x10 x11 x12 x13 x14 hf hq hk;rw[hf]at x8;rw[hq]at x9;have d14:=HXD.c14;obtain⟨nd,hnd⟩:∃nd,l[d].d.length=nd:=⟨_,rfl⟩;rw[hnd]at d14 hfx hqd;have r0:=HRX.c0;have hd0:(d:Int)<(l.length:Int):=by omega
    have hm0:(m:Int)<(l.length:Int):=by omega
    have hm9:(m:Int)≤600:=by omega
    have hd9:(d:Int)≤600:=by omega
    obtain⟨Y,hY⟩:∃Y,X.alloc (.cells (Z1 {y with f:=(d:Int),p:=(q:Int)} pp) 36)=Y:=⟨_,rfl⟩;have HBY:=hid (show Below w.heap.size w Y from by rw[←hY];exact HBX.out.alloc HBX.out.size _);have HKY:=hid (show Bk Y X.heap.size 36 (Z1 {y with f:=(d:Int),p:=(q:Int)} pp)from by rw[←hY];exact Bk.new _ _ _);have HK2Y:=hid (show Bk Y w.heap.size 27 #[.int .i64 0,.int .i64 0,.slice none 0 0]from by rw[←hY];exact HK2.out.alloc _);have CSH:=hid (fun V (hV:Below w.heap.size w V)=>Zuj own nd 0 w.heap.size O oc V (ho.kept hV Zhd) hV.size (hS.kept hV));have HO:=hid ho;have HLG:=hid (show g<w.heap.size from by have:=hr.gl;omega);have HSS:=hid hS;have HRY:=hr.below HBY.out;have s0:Y.cell? ⟨g,0,none⟩=some (.slice (some ⟨b,o,none⟩) l.length cap):=HRY.c0;have s14:Y.cell? ⟨b,o+d*15+14,none⟩=some (.slice pd.D nd pd.dc):=by
      have:=(hxd.kept (HBY.out.mono hhl) hb2).c14;rw[hnd]at this;exact this
    have t8:Y.cell? ⟨X.heap.size,8,none⟩=some (.int .i64 (d:Int)):=HKY.out.cell 8;have t9:Y.cell? ⟨X.heap.size,9,none⟩=some (.int .i64 (q:Int)):=HKY.out.cell 9;have HNL:=hid (show shN own nd=true→q<own.length∧own.all Zb=true from fun h=>by
      unfold shN at h;rw[Bool.and_eq_true]at h;have:=of_decide_eq_true h.1;exact⟨by omega,h.2⟩)
    obtain⟨z,hz⟩:∃z,shN own nd=z:=⟨_,rfl⟩;rw[hz]at CSH hfx HNL;have HFX:=hid hfx;obtain⟨R,hR⟩:∃R,Zgn l (m:Int) own=R:=⟨_,rfl⟩;rw[hR]at HFX⊢;unfold Z1 at hY;clear hr ho hS HRX HXD hx hxd hed hy hnd hk hf hq hkd hB hfx hz hR HRY hm hd;go_enter func13,ntmps13;go_wp2_with fail;refine CI.out.mono ?_;rintro e w1 ⟨rfl,rfl⟩;go_wp2_with fail;have HKK:=hid (fun V (hV:Below Y.heap.size Y V)=>(show V.cell? ⟨g,0,none⟩=some (.slice (some ⟨b,o,none⟩) l.length cap)∧V.cell? ⟨X.heap.size,8,none⟩=some (.int .i64 (d:Int))∧V.cell? ⟨b,o+d*15+14,none⟩=some (.slice pd.D nd pd.dc)from
      ⟨(hV.cell (p:=⟨g,0,none⟩) (by show g<Y.heap.size;have:=HLG.out;have:=HBY.out.size;omega)).trans s0,(hV.cell (p:=⟨X.heap.size,8,none⟩) HKY.out.lt).trans t8,(hV.cell (p:=⟨b,_,none⟩) (by show b<Y.heap.size;have:=HBY.out.size;omega)).trans s14⟩))
    have hbk0:=hid (show Below Y.heap.size Y Y.drew from(Qc _ _).drew);have HQD:=hid hqd;clear hqd;go_cut [36]from 24 to 35 (fun s36 wx=>s36= .bool (!z)∧Below Y.heap.size Y wx)
    case first=>
      go_region_held3 (fun w'=>w'.cell? ⟨g,0,none⟩=some (.slice (some ⟨b,o,none⟩) l.length cap)∧w'.cell? ⟨X.heap.size,8,none⟩=some (.int .i64 (d:Int))∧w'.cell? ⟨b,o+d*15+14,none⟩=some (.slice pd.D nd pd.dc))
        ((refine(HKK.out _ ?_);repeat (first|with_reducible exact hbk0.out|with_reducible exact hbC.out|with_reducible exact Qc _ _|with_reducible refine Below.al ?_ _|with_reducible refine Below.dr ?_|with_reducible refine Below.st ?_ (by first|omega|(simp<;>omega)) _)))
        (first
        | (go_at_call 24
           refine(CSH.out _ (HBY.out.trans (Below.mono (by repeat (first|with_reducible exact hbk0.out|with_reducible exact Qc _ _|with_reducible refine Below.al ?_ _|with_reducible refine Below.dr ?_|with_reducible refine Below.st ?_ (by first|omega|(simp<;>omega)) _)) HBY.out.size))).mono ?_;rintro e w3 ⟨rfl,hb3⟩;have hbC:=hid (by first|exact Zmc hbk0 hb3);clear hb3))
      all_goals
        go_wp2_with fail;go_meet;case rel=>exact⟨rfl,(by repeat (first|with_reducible exact hbC.out|with_reducible exact Qc _ _|with_reducible refine Below.al ?_ _|with_reducible refine Below.dr ?_|with_reducible refine Below.st ?_ (by first|omega|(simp<;>omega)) _))⟩
    case rest=>
      obtain⟨wg,rfl⟩:∃wg:World,wg=wc:=⟨_,rfl⟩;obtain⟨rfl,hbg⟩:=hcut;have HBG0:=hid hbg;have HBG:=hid (Zmc HBY hbg);have HKG:=hid (HKY.out.below hbg HKY.out.lt);have HTG:=hid (HK2Y.out.below hbg HK2Y.out.lt);have hlt1:=HTG.out.lt;have hlt2:=HKG.out.lt;have hfz:∀q,wg.frozen? ⟨w.heap.size,q,none⟩=false:=fun q=>HTG.out.cold q;have d0:wg.cell? ⟨w.heap.size,0,none⟩=some (.int .i64 0):=HTG.out.cell 0;have d1:wg.cell? ⟨w.heap.size,1,none⟩=some (.int .i64 0):=HTG.out.cell 1;have d2:wg.cell? ⟨w.heap.size,2,none⟩=some (.slice none 0 0):=HTG.out.cell 2;clear s0 s14 t8 t9 hbg;cases z with
      | false=>
        have HR:=hid (show R=(.node 0 0 [],5)from HFX.out.trans (if_neg (by decide)));have B3:=((HTG.out.at_ 0 (.int .i64 0)).at_ 1 (.int .i64 0)).at_ 2 (.slice none 0 0);have HS0:=hid (B3.cell 0);have HS1:=hid (B3.cell 1);have HS2:=hid (B3.cell 2);clear B3;go_wp2_with fail;refine Qa (v:= .tuple #[.agg #[.int .i64 0,.int .i64 0,.slice none 0 0],.int .i64 5]) (by simp[Qb,results13,go_sem,HS0.out,HS1.out,HS2.out]) rfl ?_;rw[HR.out];exact Zbp HBG.out Zhd
      | true=>
        obtain⟨hql,hall⟩:=HNL.out rfl;obtain⟨u,hu⟩:∃u,own[q]'hql=u:=⟨_,rfl⟩;have hus:Zb u=true:=by
          rw[←hu];exact List.all_eq_true.1 hall _ (Qe _)
        have HR:=hid (show R=(u,0)from by
          rw[HFX.out,if_pos rfl,List.getD_eq_getElem?_getD,Qd hql,Option.getD_some,hu])
        obtain⟨b3,o3,F3,C3,hA3, -,hb3,hx3,hn3⟩:=HO.out.sub q hql;rw[hu]at hx3 hn3;subst hA3;have CT:=hid (fun V (hV:Below w.heap.size w V)=>Zqq u 0 w.heap.size F3 C3 V (hn3.kept hV Zhd) hV.size (HSS.out.kept hV));unfold Zmk at CT;rw[show Ji u=u from Zjq hus]at CT;unfold Zc at CT;obtain⟨x0',x1',x2'⟩:=hx3;have HX3:=hid (fun V (hV:Below w.heap.size w V)=>(show V.cell? ⟨b3,o3+q*3,none⟩=some (.int .i64 u.k)∧V.cell? ⟨b3,o3+q*3+1,none⟩=some (.int .i64 u.n)∧V.cell? ⟨b3,o3+q*3+2,none⟩=some (.slice F3 u.l.length C3)from
          ⟨(hV.cell (p:=⟨b3,_,none⟩) hb3).trans x0',(hV.cell (p:=⟨b3,_,none⟩) hb3).trans x1',(hV.cell (p:=⟨b3,_,none⟩) hb3).trans x2'⟩))
        have hbg3:b3<wg.heap.size:=by have h1:b3<w.heap.size:=hb3;have:=HBG.out.size;omega
        have hq0:(q:Int)<(own.length:Int):=by omega
        have hqo:=HO.out.bounds;have hq9:(q:Int)≤9223372036854775807:=by have h1:=hqo.1;have h2:=hqo.2;unfold maxLen at h2;omega
        have t9:wg.cell? ⟨X.heap.size,9,none⟩=some (.int .i64 (q:Int)):=HKG.out.cell 9;obtain⟨e0,e1,e2⟩:=HX3.out wg HBG.out;clear hall hn3 x0' x1' x2' hqo hu hus;go_wp2_with fail;refine(CT.out _ HBG.out).mono ?_;rintro e w5 ⟨F5,C5,rfl,hu5,hb5⟩;have HB5:=hid (Zmc HBG hb5);have HT5:=hid (HTG.out.below hb5 HTG.out.lt);have HU5:=hid (show Za w5 wg.heap.size w5.heap.size u F5 C5 from hu5);have hlt5:=HT5.out.lt;have hfz5:∀q,w5.frozen? ⟨w.heap.size,q,none⟩=false:=fun q=>HT5.out.cold q;have f0:w5.cell? ⟨w.heap.size,0,none⟩=some (.int .i64 0):=HT5.out.cell 0;have f1:w5.cell? ⟨w.heap.size,1,none⟩=some (.int .i64 0):=HT5.out.cell 1;have f2:w5.cell? ⟨w.heap.size,2,none⟩=some (.slice none 0 0):=HT5.out.cell 2;have B3:=((HT5.out.at_ 0 (.int .i64 u.k)).at_ 1 (.int .i64 u.n)).at_ 2 (.slice F5 u.l.length C5);have HS0:=hid (B3.cell 0);have HS1:=hid (B3.cell 1);have HS2:=hid (B3.cell 2);have HLTG:=hid hlt1;clear B3 hu5 hb5 d0 d1 d2 hfz e0 e1 e2 t9;go_wp2_with fail;refine Qa (v:= .tuple #[.agg #[.int .i64 u.k,.int .i64 u.n,.slice F5 u.l.length C5],.int .i64 0]) (by simp[Qb,results13,go_sem,HS0.out,HS1.out,HS2.out]) rfl ?_;rw[HR.out];exact Zbh HB5.out Zhd HU5.out HLTG.out
  · have hb0:isB l p 4=false:=by simpa using hB
    have HR:=hid (show Zgn l p own=(.node 0 0 [],16)from by unfold Zgn;rw[hb0];rfl);rw[hb0]at CI;rw[HR.out];have B3:=((HK2.out.at_ 0 (.int .i64 0)).at_ 1 (.int .i64 0)).at_ 2 (.slice none 0 0);have HS0:=hid (B3.cell 0);have HS1:=hid (B3.cell 1);have HS2:=hid (B3.cell 2);have hfz:∀q,X.frozen? ⟨w.heap.size,q,none⟩=false:=fun q=>HK2.out.cold q;have z0:X.cell? ⟨w.heap.size,0,none⟩=some (.int .i64 0):=HK2.out.cell 0;have z1:X.cell? ⟨w.heap.size,1,none⟩=some (.int .i64 0):=HK2.out.cell 1;have z2:X.cell? ⟨w.heap.size,2,none⟩=some (.slice none 0 0):=HK2.out.cell 2;clear B3 hr ho hS HRX hB hb0;go_enter func13,ntmps13;go_wp2_with fail;refine CI.out.mono ?_;rintro e w1 ⟨rfl,rfl⟩;go_wp2_with fail;refine Qa (v:= .tuple #[.agg #[.int .i64 0,.int .i64 0,.slice none 0 0],.int .i64 16]) (by simp[Qb,results13,go_sem,HS0.out,HS1.out,HS2.out]) rfl ?_;exact Zbp HBX.out Zhd
theorem Zd8 (A B C:Option Addr)(n m k a b c:Nat)(w:World)(hn:n≤9223372036854775807)(hm:m≤9223372036854775807)(hk:k≤9223372036854775807):Calls prog 4 #[.slice A n a,.slice B m b,.slice C k c] w fun e w'=>e= .returned (.bool (decide (n≤300) && (decide (m≤40) && decide (k≤40))))∧w=w':=by
 have h0:(n:Int)≤9223372036854775807:=by omega
 by_cases h1:n≤300
 ·have t1:decide ((n:Int)≤300)=true:=Zhl (by omega);rw[Zhl h1];by_cases h2:m≤40
  ·have t2:decide ((m:Int)≤40)=true:=Zhl (by omega);rw[Zhl h2];by_cases h3:k≤40
   ·have t3:decide ((k:Int)≤40)=true:=Zhl (by omega);rw[Zhl h3];go_enter func4,ntmps4;go_wp2_with fail;go_ret;exact⟨rfl,rfl⟩
   ·have t3:decide ((k:Int)≤40)=false:=Zjs (by omega);rw[Zjs h3];go_enter func4,ntmps4;go_wp2_with fail;go_ret;exact⟨rfl,rfl⟩
  ·have t2:decide ((m:Int)≤40)=false:=Zjs (by omega);rw[Zjs h2];go_enter func4,ntmps4;go_wp2_with fail;go_ret;exact⟨rfl,rfl⟩
 ·have t1:decide ((n:Int)≤300)=false:=Zjs (by omega);rw[Zjs h1];go_enter func4,ntmps4;go_wp2_with fail;go_ret;exact⟨rfl,rfl⟩
noncomputable def Zhp (l:List ET) (d v:Int):Int:=if Zs l=true then(if isB l d 1 && (decide (0≤v) && decide (v≤7))then 0 else 16)else 5
theorem Zeh (l:List ET)(A:Option Addr)(cap lo hi:Nat)(d v:Int)(w:World)(hl:l.length≤600)(hlc:l.length≤cap)(hn:Zr w lo hi A l)(hhi:hi≤w.heap.size)(hS:Zi w):
  Calls prog 8 #[.slice A l.length cap,.int .i64 d,.int .i64 v] w fun e w'=>e= .returned (.int .i64 (Zhp l d v))∧Below w.heap.size w w':=by
 have CF:=hid (Zd4 l A cap lo hi w hl hlc hn hhi hS);have CI:=hid (fun V (hV:Below w.heap.size w V)=>Zf5 l A cap lo hi d 1 V (by unfold maxLen;omega) (hn.kept hV hhi));rw[←Zd7]at CF;have HC:=hid (show Zhp l d v=if Zs l=true then(if isB l d 1 && (decide (0≤v) && decide (v≤7))then 0 else 16)else 5 from rfl);obtain⟨f,hf⟩:∃f,Zs l=f:=⟨_,rfl⟩;obtain⟨q,hq⟩:∃q,isB l d 1=q:=⟨_,rfl⟩;obtain⟨z,hz⟩:∃z,Zhp l d v=z:=⟨_,rfl⟩;rw[hf]at CF HC;rw[hq]at CI HC;rw[hz]at HC⊢;clear hn hS hhi hf hq hz;cases f with
 | false=>
  have HZ:=hid (show z=5 from by rw[HC.out];rfl);clear HC;go_enter func8,ntmps8;go_wp2_with fail;refine CF.out.mono ?_;rintro e w1 ⟨rfl,hb⟩;have HB:=hid hb;clear hb;go_wp2_with fail;go_ret;exact⟨by rw[HZ.out];rfl,HB.out⟩
 | true=>
  cases q with
  | false=>
   have HZ:=hid (show z=16 from by rw[HC.out];rfl);clear HC;go_enter func8,ntmps8;go_wp2_with fail;refine CF.out.mono ?_;rintro e w1 ⟨rfl,hb⟩;have HB:=hid hb;clear hb;go_wp2_with fail;refine(CI.out _ HB.out).mono ?_;rintro e w2 ⟨rfl,rfl⟩;go_wp2_with fail;go_ret;exact⟨by rw[HZ.out];rfl,HB.out⟩
  | true=>
   by_cases h0:v<0
   ·have t0:decide (v<0)=true:=Zhl h0;have HZ:=hid (show z=16 from by rw[HC.out,Zjs (show ¬ 0≤v by omega)];rfl);clear HC h0;go_enter func8,ntmps8;go_wp2_with fail;refine CF.out.mono ?_;rintro e w1 ⟨rfl,hb⟩;have HB:=hid hb;clear hb;go_wp2_with fail;refine(CI.out _ HB.out).mono ?_;rintro e w2 ⟨rfl,rfl⟩;go_wp2_with fail;go_ret;exact⟨by rw[HZ.out];rfl,HB.out⟩
   have t0:decide (v<0)=false:=Zjs h0;by_cases h7:v≤7
   ·have t1:decide (7<v)=false:=Zjs (by omega);have t1':decide (v>7)=false:=Zjs (by omega);have HZ:=hid (show z=0 from by rw[HC.out,Zhl (show 0≤v by omega),Zhl h7];rfl);clear HC h0 h7;go_enter func8,ntmps8;go_wp2_with fail;refine CF.out.mono ?_;rintro e w1 ⟨rfl,hb⟩;have HB:=hid hb;clear hb;go_wp2_with fail;refine(CI.out _ HB.out).mono ?_;rintro e w2 ⟨rfl,rfl⟩;go_wp2_with fail;go_ret;exact⟨by rw[HZ.out];rfl,HB.out⟩
   ·have t1:decide (7<v)=true:=Zhl (by omega);have t1':decide (v>7)=true:=Zhl (by omega);have HZ:=hid (show z=16 from by rw[HC.out,Zhl (show 0≤v by omega),Zjs h7];rfl);clear HC h0 h7;go_enter func8,ntmps8;go_wp2_with fail;refine CF.out.mono ?_;rintro e w1 ⟨rfl,hb⟩;have HB:=hid hb;clear hb;go_wp2_with fail;refine(CI.out _ HB.out).mono ?_;rintro e w2 ⟨rfl,rfl⟩;go_wp2_with fail;go_ret;exact⟨by rw[HZ.out];rfl,HB.out⟩
theorem Znl (l:List TM)(A:Option Addr)(cap:Nat)(w:World)(h:Ze w 0 w.heap.size l A cap):
  Calls prog 11 #[.slice A l.length cap] w fun e w'=>e= .returned (.bool (l.all Zb))∧Below w.heap.size w w':=by
 obtain⟨hlc,hcm⟩:=h.bounds;unfold maxLen at hcm;have HT:=hid (fun(i:Nat)(hi:i<l.length)=>h.sub i hi);have CS:=hid (fun(t:TM)(lo hi:Nat)(F:Option Addr)(C:Nat)(V:World)(ht:Za V lo hi t F C)(hh:hi≤V.heap.size)=>Zgk t lo hi F C V ht hh);obtain⟨z,hz⟩:∃z,l.all Zb=z:=⟨_,rfl⟩;have HZ:=hid hz;rw[hz];have hll:(l.length:Int)≤9223372036854775807:=by omega
 clear h hz hlc hcm;go_enter func11,ntmps11;go_wp2_with fail;go_loopw [3] (fun iv wr=>∃i:Nat,i≤l.length∧iv= .int .i64 i∧Below w.heap.size w wr∧Hid (∀j (h:j<l.length),j<i→Zb l[j]=true)) (fun iv _=>l.length - (intOf iv).toNat)
 case atStart=>exact⟨0,Nat.zero_le _,rfl,Qc _ _,hid (fun j _ hj=>by omega)⟩
 case round=>
  obtain⟨i,hi1,rfl,hB,HQ⟩:=hrel;have hz:=hB.size;by_cases hil:i<l.length
  ·obtain⟨b,o,F,C,hA,hb1,hb2,hx,hnode⟩:=HT.out i hil;subst hA;obtain⟨x0,x1,x2⟩:=hx;have hb3:b<w.heap.size:=hb2;have y0:=(hB.cell (p:=⟨b,o+i*3,none⟩) hb3).trans x0;have y1:=(hB.cell (p:=⟨b,o+i*3+1,none⟩) hb3).trans x1;have y2:=(hB.cell (p:=⟨b,o+i*3+2,none⟩) hb3).trans x2;have hi1':(i:Int)<(l.length:Int):=by omega
   have hi0':(0:Int)≤(i:Int):=by omega
   obtain⟨u,hu⟩:∃u:TM,l[i]'hil=u:=⟨_,rfl⟩;have HU:=hid (show ∃h:i<l.length,l[i]=u from⟨hil,hu⟩);rw[hu]at y0 y1 y2 hnode;have CF:=hid (CS.out u 0 w.heap.size F C wr (hnode.kept hB Zhd) hz);have HB:=hid hB;have HIL:=hid hil;unfold Zc at CF;obtain⟨s,hs⟩:∃s,Zb u=s:=⟨_,rfl⟩;have HSU:=hid hs;rw[hs]at CF;clear x0 x1 x2 hu hnode hs hB hil;cases s with
   | true=>
    go_wp2_with fail;refine CF.out.mono ?_;rintro e w1 ⟨rfl,hb1⟩;have HB1:=hid (HB.out.trans (hb1.mono hz));clear hb1 y0 y1 y2;go_wp2_with fail;go_roundw
    case rel=>
     refine⟨i+1,by have:=HIL.out;omega,by go_num,HB1.out,hid (fun j hj hji=> ?_)⟩;by_cases e:j<i
     ·exact HQ.out j hj e
     ·obtain rfl:j=i:=by omega
      obtain⟨h0,h1⟩:=HU.out;rw[h1];exact HSU.out
    case measure=>have:=HIL.out;simp[intOf];omega
   | false=>
    have HF:=hid (show z=false from by
     rw[←HZ.out,List.all_eq_false];obtain⟨h0,h1⟩:=HU.out;exact⟨l[i]'h0,Qe _,by rw[h1,HSU.out];decide⟩)
    go_wp2_with fail;refine CF.out.mono ?_;rintro e w1 ⟨rfl,hb1⟩;have HB1:=hid (HB.out.trans (hb1.mono hz));clear hb1 y0 y1 y2;go_wp2_with fail;go_ret;exact⟨by rw[HF.out];rfl,HB1.out⟩
  ·have hge: ¬ (i:Int)<(l.length:Int):=by omega
   have HT2:=hid (show z=true from by
    rw[←HZ.out,List.all_eq_true];intro x hx;obtain⟨j,hj,rfl⟩:=List.getElem_of_mem hx;exact HQ.out j hj (by omega))
   go_wp2_with fail;go_ret;exact⟨by rw[HT2.out];rfl,hB⟩
def Zsj (l:List ET)(d:Int):Int:=match l[d.toNat]? with|some x=>x.a+1+(x.c.length:Int)+x.i+1|none=>0
theorem Zlp {l:List ET}{d v:Int}(h:Zs l=false):Zhp l d v=5:=by unfold Zhp;rw[if_neg (by rw[h];decide)]
theorem Zbo {l:List ET}{d v:Int}(h:Zs l=true)(h2:isB l d 1=false):Zhp l d v=16:=by unfold Zhp;rw[if_pos h,h2];rfl
theorem Zjh {l:List ET}{d:Int}(h:Zs l=true)(h2:isB l d 1=true):Zhp l d 0=0:=by unfold Zhp;rw[if_pos h,h2];rfl
def Zgc (n c:Int)(w:World)(e:Ending)(w':World):Prop:=e= .returned (.tuple #[.int .i64 n,.int .i64 c])∧Below w.heap.size w w'
noncomputable def Zc6 (l:List ET) (d:Int):Int:=if Zhp l d 0=0 then Zsj l d else 0
theorem Zfn (l:List ET)(A:Option Addr)(cap lo hi:Nat)(d:Int)(w:World)(hl:l.length≤600)(hlc:l.length≤cap)(hn:Zr w lo hi A l)(hhi:hi≤w.heap.size)(hS:Zi w):
  Calls prog 7 #[.slice A l.length cap,.int .i64 d] w (Zgc (Zc6 l d) (Zhp l d 0) w):=by
 have CO:=hid (Zl6 l A cap lo hi w hl hlc hn hhi hS);have HX:=hid (show Zc6 l d=if Zhp l d 0=0 then Zsj l d else 0 from rfl);unfold Zgc;cases hf:Zs l with
 | false=>
  have CO:=hid (CO.out.mono fun _ _ h=>Zcj.no hf h);have HC:=hid (Zlp (d:=d) (v:=0) hf);have HA:=hid (show Zc6 l d=0 from by rw[HX.out,HC.out];rfl);rw[HC.out,HA.out];clear hn hS hhi hf HX;go_enter func7,ntmps7;go_wp2_with fail;refine CO.out.mono ?_;rintro e w1 ⟨rfl,hb⟩;have HB:=hid hb;clear hb;go_wp2_with fail;go_ret2;exact⟨rfl,HB.out⟩
 | true=>
  have CO:=hid (CO.out.mono fun _ _ h=>Zcj.yes hf h);have HN:=hid (fun V (hV:Below w.heap.size w V)=>hn.kept hV hhi);have CI:=hid (fun(g:Nat)(B:Option Addr)(V:World)(hr:J8 V V.heap.size g l A B cap l.length)=>Zqs l A B cap l.length V.heap.size g d 1 V hr);have HR:=hid (fun(g:Nat)(B:Option Addr)(V:World)(hg:w.heap.size≤g)(hk:Bk V g 57 #[.slice A l.length cap,.slice B l.length l.length])(hc:Zbi V 0 g B (Zct l)) (hb:Below w.heap.size w V)=>Zo7 hlc hn hhi hf hg hk hc hb);cases hB:isB l d 1 with
  | false=>
   rw[hB]at CI;have HC:=hid (Zbo (v:=0) hf hB);have HA:=hid (show Zc6 l d=0 from by rw[HX.out,HC.out];rfl);rw[HC.out,HA.out];clear hn hS hhi hf HX hB;go_enter func7,ntmps7;go_wp2_with fail;refine CO.out.mono ?_;rintro e w1 ⟨g,B,rfl,hg,hk,hc,hb⟩;have HB:=hid hb;have HRR:=hid (HR.out g B w1 hg hk hc hb);clear hb hg hk hc;go_wp2_with fail;refine(CI.out _ _ _ HRR.out).mono ?_;rintro e w2 ⟨rfl,rfl⟩;go_wp2_with fail;go_ret2;exact⟨rfl,HB.out⟩
  | true=>
   rw[hB]at CI;have HC:=hid (Zjh hf hB);obtain⟨m,rfl,hm,hk⟩:=Zat hB;have hfm:=Zgw hf hm hk;have ha0:=hfm.a0;have hi0:=hfm.i0;have hai:=hfm.ai;have hc16:=hfm.c16;have HA:=hid (show Zc6 l (m:Int)=l[m].a+1+(l[m].c.length:Int)+l[m].i+1 from by
    rw[HX.out,HC.out,if_pos rfl];unfold Zsj;rw[Qg,Qd hm])
   rw[HC.out,HA.out];obtain⟨x,hx⟩:∃x,l[m]=x:=⟨_,rfl⟩;rw[hx]at ha0 hi0 hai hc16⊢;have hm0:(m:Int)<(l.length:Int):=by omega
   have hm9:(m:Int)≤600:=by omega
   obtain⟨a,hae⟩:∃a,x.a=a:=⟨_,rfl⟩;obtain⟨i,hie⟩:∃i,x.i=i:=⟨_,rfl⟩;obtain⟨c,hce⟩:∃c,x.c.length=c:=⟨_,rfl⟩;obtain⟨b,o,p,hA, -,hb2,hxx, -⟩:=hn m hm;have HX2:=hid (fun V (hV:Below w.heap.size w V)=>hxx.kept (hV.mono hhi) hb2);rw[hx]at HX2;rw[hae]at ha0 hai⊢;rw[hie]at hi0 hai⊢;rw[hce]at hc16⊢;have wr1:IntKind.i64.wrap (a+1)=a+1:=Qf _ (by omega);have wr2:IntKind.i64.wrap (a+1+(c:Int))=a+1+(c:Int):=Qf _ (by omega);have wr3:IntKind.i64.wrap (a+1+(c:Int)+i)=a+1+(c:Int)+i:=Qf _ (by omega);have wr4:IntKind.i64.wrap (a+1+(c:Int)+i+1)=a+1+(c:Int)+i+1:=Qf _ (by omega);subst hA;have HAE:=hid hae;have HIE:=hid hie;have HCE:=hid hce;clear hn hS hhi hf HX hB hxx hx hae hie hce ha0 hi0 hai hc16 hk hfm;go_enter func7,ntmps7;go_wp2_with fail;refine CO.out.mono ?_;rintro e w1 ⟨g,B,rfl,hg,hk,hc,hb⟩;have HB:=hid hb;have HRR:=hid (HR.out g B w1 hg hk hc hb);have hxx:=HX2.out _ hb;have c10:=hxx.c10;have c11:=hxx.c11;have c13:=hxx.c13;rw[HAE.out]at c10;rw[HIE.out]at c11;rw[HCE.out]at c13;clear hb hg hk hc hxx;go_wp2_with fail;refine(CI.out _ _ _ HRR.out).mono ?_;rintro e w2 ⟨rfl,rfl⟩;go_wp2_with fail;go_region;all_goals
    go_wp2_with fail;go_ret2;first|exact⟨rfl,HB.out.drew⟩|exact⟨rfl,HB.out⟩
noncomputable def Zcu (l:List ET) (p:Int) (own:List TM):TM×Int:=if Zs l=true then Zgn l p own else(.node 0 0 [],5)
theorem Zei (l:List ET)(A:Option Addr)(cap lo hi:Nat)(p:Int)(own:List TM)(O:Option Addr)(oc:Nat)(w:World)(hl:l.length≤600)(hlc:l.length≤cap)(hn:Zr w lo hi A l)(hhi:hi≤w.heap.size)(ho:Ze w 0 w.heap.size own O oc)(hS:Zi w):
  Calls prog 6 #[.slice A l.length cap,.int .i64 p,.slice O own.length oc] w (Zn (Zcu l p own) w):=by
 obtain⟨X,hX⟩:∃X,w.alloc (.cells #[.int .i64 0,.int .i64 0,.slice none 0 0] 27)=X:=⟨_,rfl⟩;have HBX:=hid (show Below w.heap.size w X from by rw[←hX];exact(Qc _ _).alloc Zhd _);have HK2:=hid (show Bk X w.heap.size 27 #[.int .i64 0,.int .i64 0,.slice none 0 0]from by rw[←hX];exact Bk.new _ _ _);have CO:=hid (Zl6 l A cap lo hi X hl hlc (hn.kept HBX.out hhi) (by have:=HBX.out.size;omega) (hS.kept HBX.out));have HX:=hid (show Zcu l p own=if Zs l=true then Zgn l p own else(.node 0 0 [],5)from rfl);cases hf:Zs l with
 | false=>
  have CO:=hid (CO.out.mono fun _ _ h=>Zcj.no hf h);rw[HX.out,if_neg (by rw[hf];decide)];clear hn hS hhi hf HX ho;go_enter func6,ntmps6;go_wp2_with fail;refine CO.out.mono ?_;rintro e w1 ⟨rfl,hb⟩;have HB:=hid (Zmc HBX hb);have HK3:=hid (HK2.out.below hb HK2.out.lt);have B3:=((HK3.out.at_ 0 (.int .i64 0)).at_ 1 (.int .i64 0)).at_ 2 (.slice none 0 0);have HS0:=hid (B3.cell 0);have HS1:=hid (B3.cell 1);have HS2:=hid (B3.cell 2);have hfz:∀q,w1.frozen? ⟨w.heap.size,q,none⟩=false:=fun q=>HK3.out.cold q;have z0:w1.cell? ⟨w.heap.size,0,none⟩=some (.int .i64 0):=HK3.out.cell 0;have z1:w1.cell? ⟨w.heap.size,1,none⟩=some (.int .i64 0):=HK3.out.cell 1;have z2:w1.cell? ⟨w.heap.size,2,none⟩=some (.slice none 0 0):=HK3.out.cell 2;clear B3 hb hX;go_wp2_with fail;refine Qa (v:= .tuple #[.agg #[.int .i64 0,.int .i64 0,.slice none 0 0],.int .i64 5]) (by simp[Qb,results6,go_sem,HS0.out,HS1.out,HS2.out]) rfl ?_;exact Zbp HB.out Zhd
 | true=>
  have CO:=hid (CO.out.mono fun _ _ h=>Zcj.yes hf h);rw[HX.out,if_pos hf];have CFL:=hid (fun(g:Nat)(B:Option Addr)(V:World)(hg:X.heap.size≤g)(hk:Bk V g 57 #[.slice A l.length cap,.slice B l.length l.length])(hc:Zbi V 0 g B (Zct l)) (hb:Below X.heap.size X V)=>
   Zp2 l A B cap l.length V.heap.size g p own O oc V (Zo7 hlc (hn.kept HBX.out hhi) (by have:=HBX.out.size;omega) hf hg hk hc hb) ((ho.kept (Zmc HBX hb) Zhd).wide Zhd (Zmc HBX hb).size) (hS.kept (Zmc HBX hb)))
  obtain⟨r,hr⟩:∃r,Zgn l p own=r:=⟨_,rfl⟩;rw[hr]at CFL⊢;obtain⟨rt,rc⟩:=r;unfold Zn Zc at CFL;clear hn hS hhi hf HX ho hr;go_enter func6,ntmps6;go_wp2_with fail;refine CO.out.mono ?_;rintro e w1 ⟨g,B,rfl,hg,hk,hc,hb⟩;have HB:=hid (Zmc HBX hb);have CF2:=hid (CFL.out g B w1 hg hk hc hb);have HK3:=hid (HK2.out.below hb HK2.out.lt);clear hb hg hk hc CFL hX;go_wp2_with fail;refine CF2.out.mono ?_;rintro e w2 ⟨F,c,rfl,hu,hb2⟩;have HB2:=hid (Zmc HB hb2);have HU:=hid hu;have HK4:=hid (HK3.out.below hb2 HK3.out.lt);have HLT:=hid HK3.out.lt;have B3:=((HK4.out.at_ 0 (.int .i64 rt.k)).at_ 1 (.int .i64 rt.n)).at_ 2 (.slice F rt.l.length c);have HS0:=hid (B3.cell 0);have HS1:=hid (B3.cell 1);have HS2:=hid (B3.cell 2);have hfz:∀q,w2.frozen? ⟨w.heap.size,q,none⟩=false:=fun q=>HK4.out.cold q;have z0:w2.cell? ⟨w.heap.size,0,none⟩=some (.int .i64 0):=HK4.out.cell 0;have z1:w2.cell? ⟨w.heap.size,1,none⟩=some (.int .i64 0):=HK4.out.cell 1;have z2:w2.cell? ⟨w.heap.size,2,none⟩=some (.slice none 0 0):=HK4.out.cell 2;clear B3 hb2 hu;go_wp2_with fail;refine Qa (v:= .tuple #[.agg #[.int .i64 rt.k,.int .i64 rt.n,.slice F rt.l.length c],.int .i64 rc]) (by simp[Qb,results6,go_sem,HS0.out,HS1.out,HS2.out]) rfl ?_;exact Zbh HB2.out Zhd HU.out HLT.out
