import Derived.Test.YtinlmmaokphhbaaGreatDoorM4
import Derived.Test.YtinlmmaokphhbaaGreatDoorTRGood
import Derived.Test.YtinlmmaokphhbaaGreatDoorM3
import Derived.RegionTactic
namespace Go.Proofs.YtinlmmaokphhbaaGreatDoor
set_option maxHeartbeats 2000000
set_option maxRecDepth 100000
open Go.RowKit
set_option linter.unusedVariables false
open Lib(hid)
open Go.Proofs.Tryz
open _root_.Nat renaming le_trans→Qa,le_refl→Qb
open _root_.Bool renaming true_and→Qc,and_eq_true→Qd
def Z6b (l:List Int)(w:World)(e:Ending)(w':World):Prop:=∃a c,e= .returned (.slice a l.length c)∧Zeo w' a l∧Below w.heap.size w w'
theorem Zuq (t:TM)(m:Int)(lo hi:Nat)(A:Option Addr)(cap:Nat)(w:World)(h:Za w lo hi t A cap)(hhi:hi≤w.heap.size):
  Calls prog 62 #[Zc t A cap,.int .i64 0,.int .i64 m] w fun e w'=>e= .returned (.bool (Zbr t 0 m))∧Below w.heap.size w w':=by
 have HW:=hid (show Below w.heap.size w (w.alloc (.cells #[.int .i64 t.k,.int .i64 t.n,.slice A t.l.length cap] 27))from(Below.refl _ _).alloc (Qb _) _);have KB:=hid (fun V (hV:Below (w.alloc (.cells #[.int .i64 t.k,.int .i64 t.n,.slice A t.l.length cap] 27)).heap.size (w.alloc (.cells #[.int .i64 t.k,.int .i64 t.n,.slice A t.l.length cap] 27)) V)=>(show Bk V w.heap.size 27 #[.int .i64 t.k,.int .i64 t.n,.slice A t.l.length cap]from(Bk.new w 27 _).below hV (by simp)));have CS:=hid (Zgk t lo hi A cap (w.alloc (.cells #[.int .i64 t.k,.int .i64 t.n,.slice A t.l.length cap] 27)) (h.kept HW.out hhi) (by simp;omega));obtain⟨bt,hbt⟩:∃b,Zb t=b:=⟨_,rfl⟩;rw[hbt]at CS;have CL:=hid (fun(hb:bt=true)(V:World)(hV:Below w.heap.size w V)=>Ztn t 0 lo hi A cap V (h.kept hV hhi) (by have:=hV.size;omega) (Int.le_refl _) (by have:=(Zh.1 (hbt.trans hb)).2.1;omega) (Zh.1 (hbt.trans hb)).2.2);have CN:=hid (fun(hb:bt=true)(V:World)(hV:Below w.heap.size w V)=>(Zom 6 7 t lo hi A cap V (h.kept hV hhi) (by have:=hV.size;omega) (Zh.1 (hbt.trans hb)).1).mono fun e w' h=>(show Z6b (Je (Zcb (Za6 6 7) t)) V e w' from by
  obtain⟨v,rfl,h1,h2⟩:=h;obtain⟨a,c,rfl⟩:=Zl h1;exact⟨a,c,rfl,Zeo.own h1,h2⟩))
 have HLN:=hid (fun(hb:bt=true)=>(show(Je (Zcb (Za6 6 7) t)).length≤8192 from Qa (Zbq _) (Qa (Zlk _ t) (Zh.1 (hbt.trans hb)).1)));have HBT:=hid hbt;have HSM:=hid (fun z=>Zea (l:=Zcb (Za6 6 7) t) (x:=z));have HTK:=hid (show Zcb (Za6 6 7) t=Zcb Ziu t from rfl);obtain⟨rz,hrz⟩:∃r,Zbr t 0 m=r:=⟨_,rfl⟩;rw[hrz];have HRZ:=hid hrz;clear hrz;obtain⟨z,hzl⟩:∃z,Zch t 0=z:=⟨_,rfl⟩;rw[hzl]at CL;have HZL:=hid hzl;obtain⟨l,hl⟩:∃l,Je (Zcb (Za6 6 7) t)=l:=⟨_,rfl⟩;rw[hl]at CN HLN HSM;unfold Zc at CS CL CN⊢;clear h hhi hbt hzl hl;go_enter func62,ntmps62;go_wp2_with fail;refine CS.out.mono ?_;rintro e w1 ⟨rfl,hb1⟩;have HB1:=hid (HW.out.trans (hb1.mono (by simp)));have k1:=KB.out _ hb1;have HBX:=hid hb1;have hc0:w1.cell? ⟨w.heap.size,0,none⟩=some (.int .i64 t.k):=k1.cell 0;have hc1:w1.cell? ⟨w.heap.size,1,none⟩=some (.int .i64 t.n):=k1.cell 1;have hc2:w1.cell? ⟨w.heap.size,2,none⟩=some (.slice A t.l.length cap):=k1.cell 2;clear hb1 k1 CS;cases bt with
 | false=>
  obtain rfl:rz=false:=by rw[←HRZ.out];unfold Zbr;rw[HBT.out];simp
  go_wp2_with fail;go_ret;exact⟨rfl,HB1.out⟩
 | true=>
 have DL:=hid (CL.out rfl);have DN:=hid (CN.out rfl);have DLN:=hid (HLN.out rfl);clear CL CN HLN;go_wp2_with fail;refine(DL.out _ HB1.out).mono ?_;rintro e w2 ⟨rfl,hb2⟩;have HB2:=hid (HB1.out.trans (hb2.mono HB1.out.size));have k2:=KB.out _ (HBX.out.trans (hb2.mono HBX.out.size));clear hc0 hc1 hc2 hb2;have hc0:w2.cell? ⟨w.heap.size,0,none⟩=some (.int .i64 t.k):=k2.cell 0;have hc1:w2.cell? ⟨w.heap.size,1,none⟩=some (.int .i64 t.n):=k2.cell 1;have hc2:w2.cell? ⟨w.heap.size,2,none⟩=some (.slice A t.l.length cap):=k2.cell 2;clear k2;by_cases hz0:0<z
 ·have t0:decide ((0:Int)<z)=true:=decide_eq_true hz0;have t1:decide (z>0)=true:=decide_eq_true hz0;obtain rfl:rz=false:=by
   rw[←HRZ.out];unfold Zbr;rw[decide_eq_false (show ¬ Zch t 0≤0 from by rw[HZL.out];omega)];simp
  clear hz0;go_wp2_with fail;go_ret;exact⟨rfl,HB2.out⟩
 ·have t0:decide ((0:Int)<z)=false:=decide_eq_false hz0;have t1:decide (z>0)=false:=decide_eq_false hz0;have HC:=hid (show Zch t 0≤0 from by rw[HZL.out];omega);clear hz0;go_wp2_with fail;refine(DN.out _ HB2.out).mono ?_;rintro e w3 ⟨a,c,rfl,hrow,hb3⟩;have HR:=hid hrow;have HB3:=hid (HB2.out.trans (hb3.mono HB2.out.size));have hl9:(l.length:Int)≤8192:=by have:=DLN.out;omega
  clear hrow hb3 hc0 hc1 hc2 DN DL;go_wp2_with fail;go_loopw [8] (fun iv wr=>∃i:Nat,i≤l.length∧iv= .int .i64 i∧Below w3.heap.size w3 wr∧Hid (∀j (h:j<l.length),j<i→l[j]<m)) (fun iv _=>l.length - (intOf iv).toNat)
  case atStart=>exact⟨0,Nat.zero_le _,rfl,Below.refl _ _,hid (fun j h hj=>by omega)⟩
  case round=>
   obtain⟨i,hi1,rfl,hB,HQ⟩:=hrel;have HBF:=hid (HB3.out.trans (hB.mono HB3.out.size));have HBR:=hid hB;by_cases hil:i<l.length
   ·obtain⟨b1,e1,hb1,k1⟩:=HR.out (by omega);subst e1;obtain⟨x,hx⟩:∃x,l[i]'hil=x:=⟨_,rfl⟩;have g1:=(hB.cell (p:=⟨b1,0+i,none⟩) hb1).trans (k1 i hil);rw[hx,Nat.zero_add]at g1;have HY:=hid (fun(h:m≤x)=>(show Zbr t 0 m=false from by
     unfold Zbr;have hm:x∈Zcb Ziu t:=by rw[←HTK.out];exact(HSM.out x).1 (by rw[←hx];exact List.getElem_mem hil)
     have:((Zcb Ziu t).all fun z=>decide (z<m))=false:=by
      cases e:((Zcb Ziu t).all fun z=>decide (z<m))with
      | false=>rfl
      | true=>exact absurd (of_decide_eq_true (List.all_eq_true.1 e x hm)) (by omega)
     rw[this];simp))
    have HNX:=hid (fun(h: ¬ m≤x) j (hj:j<l.length) (h2:j<i+1)=>(show l[j]<m from by
     rcases Nat.lt_or_eq_of_le (Nat.le_of_lt_succ h2)with h3|h3
     ·exact HQ.out j hj h3
     ·subst h3;rw[hx];omega))
    have hi1':(i:Int)<(l.length:Int):=by omega
    have hi0':(0:Int)≤(i:Int):=by omega
    have HIL:=hid hil;clear k1 hx hil hB;by_cases hxz:m≤x
    ·have q0:decide ((m:Int)≤x)=true:=decide_eq_true hxz;have q1:decide (x≥m)=true:=decide_eq_true hxz;obtain rfl:rz=false:=by rw[←HRZ.out];exact HY.out hxz
     clear hxz;go_wp2_with fail;go_ret;exact⟨rfl,HBF.out⟩
    ·have q0:decide ((m:Int)≤x)=false:=decide_eq_false hxz;have q1:decide (x≥m)=false:=decide_eq_false hxz;have HNN:=hid (HNX.out hxz);clear hxz HNX;go_wp2_with fail;go_roundw
     case rel=>exact⟨i+1,by have:=HIL.out;omega,by go_num,HBR.out,hid HNN.out⟩
     case measure=>have:=HIL.out;simp[intOf];omega
   ·have hge: ¬ (i:Int)<(l.length:Int):=by omega
    obtain rfl:rz=true:=by
     rw[←HRZ.out];unfold Zbr;rw[HBT.out,decide_eq_true HC.out,decide_eq_true (Int.le_refl 0)];simp only[Qc];rw[List.all_eq_true];intro z hz;rw[←HTK.out]at hz;obtain⟨j,hj,e⟩:=List.getElem_of_mem ((HSM.out z).2 hz);exact decide_eq_true (by rw[←e];exact HQ.out j hj (by omega))
    clear hil;go_wp2_with fail;go_ret;exact⟨rfl,HBF.out⟩
def J4 (t:TM)(m:Int):Bool:=Zbr t 0 m && decide ((Zed [8] t).length=0)
theorem Zfq {t:TM}{n m:Int}(h:Zbr t n m=true):Zb t=true:=by
 unfold Zbr at h;simp only[Qd]at h;exact h.2.1
theorem Zdq {t:TM}{m:Int}(h:J4 t m=true):Zb t=true:=by
 unfold J4 at h;rw[Qd]at h;exact Zfq h.1
theorem Zri (t:TM):(Zed [8] t).length≤8192:=by
 unfold Zed;split
 case isTrue h=>exact Qa (Zbq _) (Qa (Zlk _ t) (Zh.1 h).1)
 case isFalse=>simp
theorem Z5o:Za6 8 8=fun k=>([8]:List Int).contains k:=by
 funext k
 unfold Za6;rw[Bool.eq_iff_iff];simp
def Zss (l:List Int)(w:World)(e:Ending)(w':World):Prop:=∃a c,e= .returned (.slice a l.length c)∧Below w.heap.size w w'
theorem Zg4.out {l l':List Int}{w:World}{e:Ending}{w':World}(h:Zg4 l w e w')(hl:l=l'):Zss l' w e w':=by
 subst hl;obtain⟨v,rfl,h1,h2⟩:=h;obtain⟨a,c,rfl⟩:=Zl h1;exact⟨a,c,rfl,h2⟩
theorem Zpw (t:TM)(m:Int)(lo hi:Nat)(A:Option Addr)(cap:Nat)(w:World)(h:Za w lo hi t A cap)(hhi:hi≤w.heap.size)(hS:Zi w):
  Calls prog 105 #[Zc t A cap,.int .i64 m] w fun e w'=>e= .returned (.bool (J4 t m))∧Below w.heap.size w w':=by
 have HW:=hid (show Below w.heap.size w (w.alloc (.cells #[.int .i64 t.k,.int .i64 t.n,.slice A t.l.length cap] 27))from(Below.refl _ _).alloc (Qb _) _);have KB:=hid (fun V (hV:Below (w.alloc (.cells #[.int .i64 t.k,.int .i64 t.n,.slice A t.l.length cap] 27)).heap.size (w.alloc (.cells #[.int .i64 t.k,.int .i64 t.n,.slice A t.l.length cap] 27)) V)=>(show Bk V w.heap.size 27 #[.int .i64 t.k,.int .i64 t.n,.slice A t.l.length cap]from(Bk.new w 27 _).below hV (by simp)));have CS:=hid (Zxy t 0 m lo hi A cap (w.alloc (.cells #[.int .i64 t.k,.int .i64 t.n,.slice A t.l.length cap] 27)) (h.kept HW.out hhi) (by simp;omega) (hS.kept HW.out));obtain⟨bt,hbt⟩:∃b,Zbr t 0 m=b:=⟨_,rfl⟩;rw[hbt]at CS;have HSH:=hid (fun(hb:bt=true)=>Zfq (hbt.trans hb));have CN:=hid (fun(hb:bt=true)(V:World)(hV:Below w.heap.size w V)=>(Zy0 t lo hi A cap V (h.kept hV hhi) (by have:=hV.size;omega) (hS.kept hV)).mono fun e w' q=>(show Zss (Zed [8] t) V e w' from q.out rfl));obtain⟨rz,hrz⟩:∃r,J4 t m=r:=⟨_,rfl⟩;rw[hrz];have HRZ:=hid hrz;have HBT:=hid hbt;have hlen:(Zed [8] t).length≤8192:=Zri t;have HN8:=hid (show Zbr t 0 m=true→J4 t m=decide ((Zed [8] t).length=0)from fun q=>by unfold J4;rw[q,Qc]);obtain⟨l,hl⟩:∃l,Zed [8] t=l:=⟨_,rfl⟩;rw[hl]at CN hlen HN8;unfold Zc at CS CN⊢;clear h hhi hbt hrz hl hS;go_enter func105,ntmps105;go_wp2_with fail;refine CS.out.mono ?_;rintro e w1 ⟨rfl,hb1⟩;have HB1:=hid (HW.out.trans (hb1.mono (by simp)));have k1:=KB.out _ hb1;have hc0:w1.cell? ⟨w.heap.size,0,none⟩=some (.int .i64 t.k):=k1.cell 0;have hc1:w1.cell? ⟨w.heap.size,1,none⟩=some (.int .i64 t.n):=k1.cell 1;have hc2:w1.cell? ⟨w.heap.size,2,none⟩=some (.slice A t.l.length cap):=k1.cell 2;clear hb1 k1 CS;cases bt with
 | false=>
  obtain rfl:rz=false:=by rw[←HRZ.out];unfold J4;rw[HBT.out];rfl
  go_wp2_with fail;go_ret;exact⟨rfl,HB1.out⟩
 | true=>
 have DN:=hid (CN.out rfl);have HE:=hid (HRZ.out.symm.trans (HN8.out HBT.out));clear CN HN8 HRZ;go_wp2_with fail;refine(DN.out _ HB1.out).mono ?_;rintro e w2 ⟨a,c,rfl,hb2⟩;have HB2:=hid (HB1.out.trans (hb2.mono HB1.out.size));clear hb2;by_cases hz:l.length=0
 ·have t0:((l.length:Int)==0)=true:=by simpa using hz
  obtain rfl:rz=true:=by rw[HE.out,decide_eq_true hz]
  clear hz;go_wp2_with fail;go_ret;exact⟨rfl,HB2.out⟩
 ·have t0:((l.length:Int)==0)=false:=by simpa using hz
  obtain rfl:rz=false:=by rw[HE.out,decide_eq_false hz]
  clear hz;go_wp2_with fail;go_ret;exact⟨rfl,HB2.out⟩
theorem Zol (t:TM)(m:Int)(lo hi:Nat)(A:Option Addr)(cap:Nat)(w:World)(h:Za w lo hi t A cap)(hhi:hi≤w.heap.size)(hS:Zi w):
  Calls prog 31 #[Zc t A cap,.int .i64 m] w fun e w'=>e= .returned (.bool (J4 t m))∧Below w.heap.size w w':=by
 have HW:=hid (show Below w.heap.size w (w.alloc (.cells #[.int .i64 t.k,.int .i64 t.n,.slice A t.l.length cap] 27))from(Below.refl _ _).alloc (Qb _) _);have KB:=hid (fun V (hV:Below (w.alloc (.cells #[.int .i64 t.k,.int .i64 t.n,.slice A t.l.length cap] 27)).heap.size (w.alloc (.cells #[.int .i64 t.k,.int .i64 t.n,.slice A t.l.length cap] 27)) V)=>(show Bk V w.heap.size 27 #[.int .i64 t.k,.int .i64 t.n,.slice A t.l.length cap]from(Bk.new w 27 _).below hV (by simp)));have CS:=hid (Zuq t m lo hi A cap (w.alloc (.cells #[.int .i64 t.k,.int .i64 t.n,.slice A t.l.length cap] 27)) (h.kept HW.out hhi) (by simp;omega));obtain⟨bt,hbt⟩:∃b,Zbr t 0 m=b:=⟨_,rfl⟩;rw[hbt]at CS;have HSH:=hid (fun(hb:bt=true)=>Zfq (hbt.trans hb));have CN:=hid (fun(hb:bt=true)(V:World)(hV:Below w.heap.size w V)=>(Zom 8 8 t lo hi A cap V (h.kept hV hhi) (by have:=hV.size;omega) (Zh.1 (Zfq (hbt.trans hb))).1).mono fun e w' q=>(show Zss (Zed [8] t) V e w' from q.out (by unfold Zed;rw[Zfq (hbt.trans hb),Z5o];rfl)));obtain⟨rz,hrz⟩:∃r,J4 t m=r:=⟨_,rfl⟩;rw[hrz];have HRZ:=hid hrz;have HBT:=hid hbt;have hlen:(Zed [8] t).length≤8192:=Zri t;have HN8:=hid (show Zbr t 0 m=true→J4 t m=decide ((Zed [8] t).length=0)from fun q=>by unfold J4;rw[q,Qc]);obtain⟨l,hl⟩:∃l,Zed [8] t=l:=⟨_,rfl⟩;rw[hl]at CN hlen HN8;unfold Zc at CS CN⊢;clear h hhi hbt hrz hl hS;go_enter func31,ntmps31;go_wp2_with fail;refine CS.out.mono ?_;rintro e w1 ⟨rfl,hb1⟩;have HB1:=hid (HW.out.trans (hb1.mono (by simp)));have k1:=KB.out _ hb1;have hc0:w1.cell? ⟨w.heap.size,0,none⟩=some (.int .i64 t.k):=k1.cell 0;have hc1:w1.cell? ⟨w.heap.size,1,none⟩=some (.int .i64 t.n):=k1.cell 1;have hc2:w1.cell? ⟨w.heap.size,2,none⟩=some (.slice A t.l.length cap):=k1.cell 2;clear hb1 k1 CS;cases bt with
 | false=>
  obtain rfl:rz=false:=by rw[←HRZ.out];unfold J4;rw[HBT.out];rfl
  go_wp2_with fail;go_ret;exact⟨rfl,HB1.out⟩
 | true=>
 have DN:=hid (CN.out rfl);have HE:=hid (HRZ.out.symm.trans (HN8.out HBT.out));clear CN HN8 HRZ;go_wp2_with fail;refine(DN.out _ HB1.out).mono ?_;rintro e w2 ⟨a,c,rfl,hb2⟩;have HB2:=hid (HB1.out.trans (hb2.mono HB1.out.size));clear hb2;by_cases hz:l.length=0
 ·have t0:((l.length:Int)==0)=true:=by simpa using hz
  obtain rfl:rz=true:=by rw[HE.out,decide_eq_true hz]
  clear hz;go_wp2_with fail;go_ret;exact⟨rfl,HB2.out⟩
 ·have t0:((l.length:Int)==0)=false:=by simpa using hz
  obtain rfl:rz=false:=by rw[HE.out,decide_eq_false hz]
  clear hz;go_wp2_with fail;go_ret;exact⟨rfl,HB2.out⟩
