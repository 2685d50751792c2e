import Derived.Test.YtchllgkgjompgaaGreatDoorI2
import Derived.Test.YtchllgkgjompgaaGreatDoorI3
import Derived.Deep.RegionHeld3
namespace Go.Proofs.YtchllgkgjompgaaGreatDoor
open Go.RowKit
set_option linter.unusedVariables false
set_option maxRecDepth 100000
open Lib(hid)
open Go.Proofs.Tryz
theorem lrI6{n:Nat}:n≤n:=Nat.le_refl n
def fldX (l:List ET) (p:Int) (own:List TM):TM×Int:=
 if isB l p 4 then(match l[p.toNat]? with
  | some x=>(match famAt l x with
   | some y=>if shN own y.d.length then(own.getD x.p.toNat (.node 0 0 []),0)else(.node 0 0 [],5)
   | none=>(.node 0 0 [],5))
  | none=>(.node 0 0 [],5))else(.node 0 0 [],16)
theorem fldX_at {l:List ET} {m d q:Nat} {own:List TM} (hm:m<l.length) (hd:d<l.length) (hk:l[m].k=4) (hf:l[m].f=(d:Int)) (hp:l[m].p=(q:Int)):
  fldX l m own=if shN own l[d].d.length then(own.getD q (.node 0 0 []),0)else(.node 0 0 [],5):=by
 unfold fldX;rw[isB_nat hm,decide_eq_true hk,if_pos rfl,Int.toNat_natCast,List.getElem?_eq_getElem hm];simp only;rw[famAt_nat hf hd];simp only;rw[hp,Int.toNat_natCast]
set_option maxHeartbeats 2000000 in
theorem ifield_any (l:List ET) (A B:Option Addr) (cap bap hi g:Nat) (p:Int) (own:List TM) (O:Option Addr) (oc:Nat) (w:World) (hr:RulesAt w hi g l A B cap bap) (ho:IsTerms w 0 w.heap.size own O oc) (hS:ShapesM w):
    Calls prog 118 #[.pointer (some ⟨g,0,none⟩),.int .i64 p,.slice O own.length oc] w (GivesT (fldX l p own) w):=by
  obtain⟨X,hX⟩:∃X,w.alloc (.cells #[.int .i64 0,.int .i64 0,.slice none 0 0] 25)=X:=⟨_,rfl⟩;have HBX:=hid (show Below w.heap.size w X from by rw[←hX];exact(Below.refl _ _).alloc lrI6 _);have HK2:=hid (show Bk X w.heap.size 25 #[.int .i64 0,.int .i64 0,.slice none 0 0]from by rw[←hX];exact Bk.new _ _ _);have HRX:=hr.below HBX.out;have CI:=hid (iis_any l A B cap bap hi g p 4 X HRX);have hlen:=formed_len hr.fm;by_cases hB:isB l p 4=true
  · obtain⟨m,rfl,hm,hk⟩:=isB_true hB;rw[hB]at CI;obtain⟨d,hd,hf,hkd,q,hq,hqd⟩:=prj_facts hr.fm hm hk;have hfx:=fldX_at (own:=own) hm hd hk hf hq;obtain⟨b,o,pp,hA, -,hb2,hx, -⟩:=hr.ents m hm;obtain⟨b',o',pd,hA', -, -,hxd,hed⟩:=hr.ents d hd;subst hA;obtain⟨rfl,rfl⟩:b=b'∧o=o':=by
      injection hA' with e;injection e with e1 e2;exact⟨e1,e2⟩
    have hhl:=hr.hl;have hbX:b<X.heap.size:=by have:=HBX.out.size;omega
    have hb0:b<w.heap.size:=by omega
    have HXX:=hx.kept (HBX.out.mono hhl) hb2;have HXD:=hxd.kept (HBX.out.mono hhl) hb2;obtain⟨x0,x1,x2,x3,x4,x5,x6,x7,x8,x9,x10,x11,x12,x13,x14⟩:=HXX;obtain⟨y,hy⟩:∃y,l[m]=y:=⟨_,rfl⟩;rw[hy]at x0 x1 x2 x3 x4 x5 x6 x7 x8 x9 x10 x11 x12 x13 x14 hf hq hk;rw[hf]at x8;rw[hq]at x9;have d14:=HXD.c14;obtain⟨nd,hnd⟩:∃nd,l[d].d.length=nd:=⟨_,rfl⟩;rw[hnd]at d14 hfx hqd;have r0:=HRX.c0;have hd0:(d:Int)<(l.length:Int):=by omega
    have hm0:(m:Int)<(l.length:Int):=by omega
    have hm9:(m:Int)≤600:=by omega
    have hd9:(d:Int)≤600:=by omega
    obtain⟨Y,hY⟩:∃Y,X.alloc (.cells (entC {y with f:=(d:Int),p:=(q:Int)} pp) 43)=Y:=⟨_,rfl⟩;have HBY:=hid (show Below w.heap.size w Y from by rw[←hY];exact HBX.out.alloc HBX.out.size _);have HKY:=hid (show Bk Y X.heap.size 43 (entC {y with f:=(d:Int),p:=(q:Int)} pp)from by rw[←hY];exact Bk.new _ _ _);have HK2Y:=hid (show Bk Y w.heap.size 25 #[.int .i64 0,.int .i64 0,.slice none 0 0]from by rw[←hY];exact HK2.out.alloc _);have CSH:=hid (fun V (hV:Below w.heap.size w V)=>ishaped_any own nd 0 w.heap.size O oc V (ho.kept hV lrI6) hV.size (hS.kept hV));have HO:=hid ho;have HLG:=hid (show g<w.heap.size from by have:=hr.gl;omega);have HSS:=hid hS;have HRY:=hr.below HBY.out;have s0:Y.cell? ⟨g,0,none⟩=some (.slice (some ⟨b,o,none⟩) l.length cap):=HRY.c0;have s14:Y.cell? ⟨b,o+d*15+14,none⟩=some (.slice pd.D nd pd.dc):=by
      have:=(hxd.kept (HBY.out.mono hhl) hb2).c14;rw[hnd]at this;exact this
    have t8:Y.cell? ⟨X.heap.size,8,none⟩=some (.int .i64 (d:Int)):=HKY.out.cell 8;have t9:Y.cell? ⟨X.heap.size,9,none⟩=some (.int .i64 (q:Int)):=HKY.out.cell 9;have HNL:=hid (show shN own nd=true→q<own.length∧own.all shapedB=true from fun h=>by
      unfold shN at h;rw[Bool.and_eq_true]at h;have:=of_decide_eq_true h.1;exact⟨by omega,h.2⟩)
    obtain⟨z,hz⟩:∃z,shN own nd=z:=⟨_,rfl⟩;rw[hz]at CSH hfx HNL;have HFX:=hid hfx;obtain⟨R,hR⟩:∃R,fldX l (m:Int) own=R:=⟨_,rfl⟩;rw[hR]at HFX⊢;unfold entC at hY;clear hr ho hS HRX HXD hx hxd hed hy hnd hk hf hq hkd hB hfx hz hR HRY hm hd;go_enter func118,ntmps118;go_wp2_with fail;refine CI.out.mono ?_;rintro e w1 ⟨rfl,rfl⟩;go_wp2_with fail;have HKK:=hid (fun V (hV:Below Y.heap.size Y V)=>(show V.cell? ⟨g,0,none⟩=some (.slice (some ⟨b,o,none⟩) l.length cap)∧V.cell? ⟨X.heap.size,8,none⟩=some (.int .i64 (d:Int))∧V.cell? ⟨b,o+d*15+14,none⟩=some (.slice pd.D nd pd.dc)from
      ⟨(hV.cell (p:=⟨g,0,none⟩) (by show g<Y.heap.size;have:=HLG.out;have:=HBY.out.size;omega)).trans s0,(hV.cell (p:=⟨X.heap.size,8,none⟩) HKY.out.lt).trans t8,(hV.cell (p:=⟨b,_,none⟩) (by show b<Y.heap.size;have:=HBY.out.size;omega)).trans s14⟩))
    have hbk0:=hid (show Below Y.heap.size Y Y.drew from(Below.refl _ _).drew);have HQD:=hid hqd;clear hqd;go_cut [36]from 24 to 35 (fun s36 wx=>s36= .bool (!z)∧Below Y.heap.size Y wx)
    case first=>
      go_region_held3 (fun w'=>w'.cell? ⟨g,0,none⟩=some (.slice (some ⟨b,o,none⟩) l.length cap)∧w'.cell? ⟨X.heap.size,8,none⟩=some (.int .i64 (d:Int))∧w'.cell? ⟨b,o+d*15+14,none⟩=some (.slice pd.D nd pd.dc))
        ((refine(HKK.out _ ?_);repeat (first|with_reducible exact hbk0.out|with_reducible exact hbC.out|with_reducible exact Below.refl _ _|with_reducible refine Below.al ?_ _|with_reducible refine Below.dr ?_|with_reducible refine Below.st ?_ (by first|omega|(simp<;>omega)) _)))
        (first
        | (go_at_call 142
           refine(CSH.out _ (HBY.out.trans (Below.mono (by repeat (first|with_reducible exact hbk0.out|with_reducible exact Below.refl _ _|with_reducible refine Below.al ?_ _|with_reducible refine Below.dr ?_|with_reducible refine Below.st ?_ (by first|omega|(simp<;>omega)) _)) HBY.out.size))).mono ?_;rintro e w3 ⟨rfl,hb3⟩;have hbC:=hid (by first|exact hbk0.out.trans (hb3.mono hbk0.out.size));clear hb3))
      all_goals
        go_wp2_with fail;go_meet;case rel=>exact⟨rfl,(by repeat (first|with_reducible exact hbC.out|with_reducible exact Below.refl _ _|with_reducible refine Below.al ?_ _|with_reducible refine Below.dr ?_|with_reducible refine Below.st ?_ (by first|omega|(simp<;>omega)) _))⟩
    case rest=>
      obtain⟨wg,rfl⟩:∃wg:World,wg=wc:=⟨_,rfl⟩;obtain⟨rfl,hbg⟩:=hcut;have HBG0:=hid hbg;have HBG:=hid (HBY.out.trans (hbg.mono HBY.out.size));have HKG:=hid (HKY.out.below hbg HKY.out.lt);have HTG:=hid (HK2Y.out.below hbg HK2Y.out.lt);have hlt1:=HTG.out.lt;have hlt2:=HKG.out.lt;have hfz:∀q,wg.frozen? ⟨w.heap.size,q,none⟩=false:=fun q=>HTG.out.cold q;have d0:wg.cell? ⟨w.heap.size,0,none⟩=some (.int .i64 0):=HTG.out.cell 0;have d1:wg.cell? ⟨w.heap.size,1,none⟩=some (.int .i64 0):=HTG.out.cell 1;have d2:wg.cell? ⟨w.heap.size,2,none⟩=some (.slice none 0 0):=HTG.out.cell 2;clear s0 s14 t8 t9 hbg;cases z with
      | false=>
        have HR:=hid (show R=(.node 0 0 [],5)from HFX.out.trans (if_neg (by decide)));have B3:=((HTG.out.at_ 0 (.int .i64 0)).at_ 1 (.int .i64 0)).at_ 2 (.slice none 0 0);have HS0:=hid (B3.cell 0);have HS1:=hid (B3.cell 1);have HS2:=hid (B3.cell 2);clear B3;go_wp2_with fail;refine bodyPost_ret (v:= .tuple #[.agg #[.int .i64 0,.int .i64 0,.slice none 0 0],.int .i64 5]) (by simp[results,results118,go_sem,HS0.out,HS1.out,HS2.out]) rfl ?_;rw[HR.out];exact give_zero HBG.out lrI6
      | true=>
        obtain⟨hql,hall⟩:=HNL.out rfl;obtain⟨u,hu⟩:∃u,own[q]'hql=u:=⟨_,rfl⟩;have hus:shapedB u=true:=by
          rw[←hu];exact List.all_eq_true.1 hall _ (List.getElem_mem _)
        have HR:=hid (show R=(u,0)from by
          rw[HFX.out,if_pos rfl,List.getD_eq_getElem?_getD,List.getElem?_eq_getElem hql,Option.getD_some,hu])
        obtain⟨b3,o3,F3,C3,hA3, -,hb3,hx3,hn3⟩:=HO.out.sub q hql;rw[hu]at hx3 hn3;subst hA3;have CT:=hid (fun V (hV:Below w.heap.size w V)=>copy_to u 0 w.heap.size F3 C3 V (hn3.kept hV lrI6) hV.size (HSS.out.kept hV));unfold CopyTo at CT;rw[show copyT u=u from copyT_shaped hus]at CT;unfold termV at CT;obtain⟨x0',x1',x2'⟩:=hx3;have HX3:=hid (fun V (hV:Below w.heap.size w V)=>(show V.cell? ⟨b3,o3+q*3,none⟩=some (.int .i64 u.k)∧V.cell? ⟨b3,o3+q*3+1,none⟩=some (.int .i64 u.n)∧V.cell? ⟨b3,o3+q*3+2,none⟩=some (.slice F3 u.l.length C3)from
          ⟨(hV.cell (p:=⟨b3,_,none⟩) hb3).trans x0',(hV.cell (p:=⟨b3,_,none⟩) hb3).trans x1',(hV.cell (p:=⟨b3,_,none⟩) hb3).trans x2'⟩))
        have hbg3:b3<wg.heap.size:=by have h1:b3<w.heap.size:=hb3;have:=HBG.out.size;omega
        have hq0:(q:Int)<(own.length:Int):=by omega
        have hqo:=HO.out.bounds;have hq9:(q:Int)≤9223372036854775807:=by have h1:=hqo.1;have h2:=hqo.2;unfold maxLen at h2;omega
        have t9:wg.cell? ⟨X.heap.size,9,none⟩=some (.int .i64 (q:Int)):=HKG.out.cell 9;obtain⟨e0,e1,e2⟩:=HX3.out wg HBG.out;clear hall hn3 x0' x1' x2' hqo hu hus;go_wp2_with fail;refine(CT.out _ HBG.out).mono ?_;rintro e w5 ⟨F5,C5,rfl,hu5,hb5⟩;have HB5:=hid (HBG.out.trans (hb5.mono HBG.out.size));have HT5:=hid (HTG.out.below hb5 HTG.out.lt);have HU5:=hid (show IsTerm w5 wg.heap.size w5.heap.size u F5 C5 from hu5);have hlt5:=HT5.out.lt;have hfz5:∀q,w5.frozen? ⟨w.heap.size,q,none⟩=false:=fun q=>HT5.out.cold q;have f0:w5.cell? ⟨w.heap.size,0,none⟩=some (.int .i64 0):=HT5.out.cell 0;have f1:w5.cell? ⟨w.heap.size,1,none⟩=some (.int .i64 0):=HT5.out.cell 1;have f2:w5.cell? ⟨w.heap.size,2,none⟩=some (.slice none 0 0):=HT5.out.cell 2;have B3:=((HT5.out.at_ 0 (.int .i64 u.k)).at_ 1 (.int .i64 u.n)).at_ 2 (.slice F5 u.l.length C5);have HS0:=hid (B3.cell 0);have HS1:=hid (B3.cell 1);have HS2:=hid (B3.cell 2);have HLTG:=hid hlt1;clear B3 hu5 hb5 d0 d1 d2 hfz e0 e1 e2 t9;go_wp2_with fail;refine bodyPost_ret (v:= .tuple #[.agg #[.int .i64 u.k,.int .i64 u.n,.slice F5 u.l.length C5],.int .i64 0]) (by simp[results,results118,go_sem,HS0.out,HS1.out,HS2.out]) rfl ?_;rw[HR.out];exact give_term HB5.out lrI6 HU5.out HLTG.out
  · have hb0:isB l p 4=false:=by simpa using hB
    have HR:=hid (show fldX l p own=(.node 0 0 [],16)from by unfold fldX;rw[hb0];rfl);rw[hb0]at CI;rw[HR.out];have B3:=((HK2.out.at_ 0 (.int .i64 0)).at_ 1 (.int .i64 0)).at_ 2 (.slice none 0 0);have HS0:=hid (B3.cell 0);have HS1:=hid (B3.cell 1);have HS2:=hid (B3.cell 2);have hfz:∀q,X.frozen? ⟨w.heap.size,q,none⟩=false:=fun q=>HK2.out.cold q;have z0:X.cell? ⟨w.heap.size,0,none⟩=some (.int .i64 0):=HK2.out.cell 0;have z1:X.cell? ⟨w.heap.size,1,none⟩=some (.int .i64 0):=HK2.out.cell 1;have z2:X.cell? ⟨w.heap.size,2,none⟩=some (.slice none 0 0):=HK2.out.cell 2;clear B3 hr ho hS HRX hB hb0;go_enter func118,ntmps118;go_wp2_with fail;refine CI.out.mono ?_;rintro e w1 ⟨rfl,rfl⟩;go_wp2_with fail;refine bodyPost_ret (v:= .tuple #[.agg #[.int .i64 0,.int .i64 0,.slice none 0 0],.int .i64 16]) (by simp[results,results118,go_sem,HS0.out,HS1.out,HS2.out]) rfl ?_;exact give_zero HBX.out lrI6
end Go.Proofs.YtchllgkgjompgaaGreatDoor
