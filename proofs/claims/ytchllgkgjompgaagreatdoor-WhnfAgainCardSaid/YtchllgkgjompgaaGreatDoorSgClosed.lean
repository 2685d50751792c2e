import Derived.Test.YtchllgkgjompgaaGreatDoorM4
import Derived.Test.YtchllgkgjompgaaGreatDoorTRGood
import Derived.Test.YtchllgkgjompgaaGreatDoorM3
import Derived.RegionTactic
namespace Go.Proofs.YtchllgkgjompgaaGreatDoor
open Go.RowKit
set_option linter.unusedVariables false
set_option maxRecDepth 100000
open Lib(hid)
def closedE (t:TM) (m:Int):Bool:=trightB t 0 m && decide ((numsL [8] t).length=0)
theorem right_shaped {t:TM} {n m:Int} (h:trightB t n m=true):shapedB t=true:=by
 unfold trightB at h;simp only[Bool.and_eq_true]at h;exact h.2.1
theorem closed_shaped {t:TM} {m:Int} (h:closedE t m=true):shapedB t=true:=by
 unfold closedE at h;rw[Bool.and_eq_true]at h;exact right_shaped h.1
theorem nums8_len (t:TM):(numsL [8] t).length≤8192:=by
 unfold numsL;split
 case isTrue h=>exact Nat.le_trans (setL_length_le _) (Nat.le_trans (colL_len _ t) (shapedB_true.1 h).1)
 case isFalse=>simp
def RowOut (l:List Int) (w:World) (e:Ending) (w':World):Prop:=∃a c,e= .returned (.slice a l.length c)∧Below w.heap.size w w'
theorem NumsIs.out {l l':List Int} {w:World} {e:Ending} {w':World} (h:NumsIs l w e w') (hl:l=l'):RowOut l' w e w':=by
 subst hl;obtain⟨v,rfl,h1,h2⟩:=h;obtain⟨a,c,rfl⟩:=own_sliceM h1;exact⟨a,c,rfl,h2⟩
set_option maxHeartbeats 2000000 in
theorem closed_any (t:TM) (m:Int) (lo hi:Nat) (A:Option Addr) (cap:Nat) (w:World) (h:IsTerm w lo hi t A cap) (hhi:hi≤w.heap.size) (hS:ShapesM w):
  Calls Tryz.prog 185 #[termV t A cap,.int .i64 m] w fun e w'=>e= .returned (.bool (closedE t m))∧Below w.heap.size w w':=by
 have HW:=hid (show Below w.heap.size w (w.alloc (.cells #[.int .i64 t.k,.int .i64 t.n,.slice A t.l.length cap] 25))from(Below.refl _ _).alloc (Nat.le_refl _) _);have KB:=hid (fun V (hV:Below (w.alloc (.cells #[.int .i64 t.k,.int .i64 t.n,.slice A t.l.length cap] 25)).heap.size (w.alloc (.cells #[.int .i64 t.k,.int .i64 t.n,.slice A t.l.length cap] 25)) V)=>(show Bk V w.heap.size 25 #[.int .i64 t.k,.int .i64 t.n,.slice A t.l.length cap]from(Bk.new w 25 _).below hV (by simp)));have CS:=hid (tRight_any t 0 m lo hi A cap (w.alloc (.cells #[.int .i64 t.k,.int .i64 t.n,.slice A t.l.length cap] 25)) (h.kept HW.out hhi) (by simp;omega) (hS.kept HW.out));obtain⟨bt,hbt⟩:∃b,trightB t 0 m=b:=⟨_,rfl⟩;rw[hbt]at CS;have HSH:=hid (fun(hb:bt=true)=>right_shaped (hbt.trans hb));have CN:=hid (fun(hb:bt=true) (V:World) (hV:Below w.heap.size w V)=>(frees_any t lo hi A cap V (h.kept hV hhi) (by have:=hV.size;omega) (hS.kept hV)).mono fun e w' q=>(show RowOut (numsL [8] t) V e w' from q.out rfl));obtain⟨rz,hrz⟩:∃r,closedE t m=r:=⟨_,rfl⟩;rw[hrz];have HRZ:=hid hrz;have HBT:=hid hbt;have hlen:(numsL [8] t).length≤8192:=nums8_len t;have HN8:=hid (show trightB t 0 m=true→closedE t m=decide ((numsL [8] t).length=0)from fun q=>by unfold closedE;rw[q,Bool.true_and]);obtain⟨l,hl⟩:∃l,numsL [8] t=l:=⟨_,rfl⟩;rw[hl]at CN hlen HN8;unfold termV at CS CN⊢;clear h hhi hbt hrz hl hS;go_enter Tryz.func185,Tryz.ntmps185;go_wp2_with fail;refine CS.out.mono ?_;rintro e w1 ⟨rfl,hb1⟩;have HB1:=hid (HW.out.trans (hb1.mono (by simp)));have k1:=KB.out _ hb1;have hc0:w1.cell? ⟨w.heap.size,0,none⟩=some (.int .i64 t.k):=k1.cell 0;have hc1:w1.cell? ⟨w.heap.size,1,none⟩=some (.int .i64 t.n):=k1.cell 1;have hc2:w1.cell? ⟨w.heap.size,2,none⟩=some (.slice A t.l.length cap):=k1.cell 2;clear hb1 k1 CS;cases bt with
 | false=>
  obtain rfl:rz=false:=by rw[←HRZ.out];unfold closedE;rw[HBT.out];rfl
  go_wp2_with fail;go_ret;exact⟨rfl,HB1.out⟩
 | true=>
 have DN:=hid (CN.out rfl);have HE:=hid (HRZ.out.symm.trans (HN8.out HBT.out));clear CN HN8 HRZ;go_wp2_with fail;refine(DN.out _ HB1.out).mono ?_;rintro e w2 ⟨a,c,rfl,hb2⟩;have HB2:=hid (HB1.out.trans (hb2.mono HB1.out.size));clear hb2;by_cases hz:l.length=0
 ·have t0:((l.length:Int)==0)=true:=by simpa using hz
  obtain rfl:rz=true:=by rw[HE.out,decide_eq_true hz]
  clear hz;go_wp2_with fail;go_ret;exact⟨rfl,HB2.out⟩
 ·have t0:((l.length:Int)==0)=false:=by simpa using hz
  obtain rfl:rz=false:=by rw[HE.out,decide_eq_false hz]
  clear hz;go_wp2_with fail;go_ret;exact⟨rfl,HB2.out⟩
end Go.Proofs.YtchllgkgjompgaaGreatDoor
