import Derived.Test.YtinlmmaokphhbaaGreatDoorC5
import Derived.Test.YtinlmmaokphhbaaGreatDoorS7
namespace Go.Proofs.YtinlmmaokphhbaaGreatDoor
open Go.RowKit
set_option linter.unusedVariables false
set_option maxRecDepth 100000
open Lib(hid)
open Go.Proofs.Tryz
set_option maxHeartbeats 4000000 in
theorem Zd4 (l:List ET)(A:Option Addr)(cap lo hh:Nat)(w:World)(hl:l.length≤600)(hlc:l.length≤cap)(hn:Zr w lo hh A l)(hhh:hh≤w.heap.size)(hS:Zi w):
  Calls prog 9 #[.slice A l.length cap] w fun e w'=>e= .returned (.bool (Zk5 l))∧Below w.heap.size w w':=by
 have HN:=hid hn;have HSS:=hid hS;have CNM:=hid (Zxm l A cap lo hh w hl hn hhh);have CDI:=hid (fun(V:World)(a:Option Addr)(c:Nat)(h:Zjn V a l.length (Zan l))=>Zp9 a l.length c (Zan l) V h);have CFO:=hid (fun(i:Nat)(hi:i<l.length)(hfo:Zj3 l i)(V:World)(hV:Below w.heap.size w V)=>Z2o l A cap i hi lo hh V hl (hn.kept hV hhh) (by have:=hV.size;omega) (hS.kept hV) hfo);obtain⟨z,hz⟩:∃z,Zk5 l=z:=⟨_,rfl⟩;rw[hz];unfold Zk5 at hz;have HZ:=hid hz;have hll:(l.length:Int)≤600:=by omega
 clear hz hn hS hl hlc;by_cases h256:l.length≤256
 case neg=>
  have t0:decide ((256:Int)<(l.length:Int))=true:=decide_eq_true (by omega);have t0':decide ((l.length:Int)>256)=true:=decide_eq_true (by omega);have t0'':decide (256<l.length)=true:=decide_eq_true (by omega);obtain rfl:z=false:=by rw[←HZ.out,decide_eq_false h256];rfl
  clear h256;go_enter func9,ntmps9;go_wp2_with fail;go_ret;exact⟨rfl,Below.refl _ _⟩
 have t0:decide ((256:Int)<(l.length:Int))=false:=decide_eq_false (by omega);have t0':decide ((l.length:Int)>256)=false:=decide_eq_false (by omega);have t0'':decide (256<l.length)=false:=decide_eq_false (by omega);have HZ1:Hid ((Zfx (Zan l) && Zv (Zju l) l.length)=z):=hid (by have:=HZ.out;rw[decide_eq_true h256,Bool.true_and]at this;exact this);unfold Zvc at CNM;obtain⟨rd,hrd⟩:∃r,Zfx (Zan l)=r:=⟨_,rfl⟩;rw[hrd]at HZ1 CDI;clear h256 HZ hrd;go_enter func9,ntmps9;go_wp2_with fail;refine CNM.out.mono ?_;rintro e w1 ⟨a1,c1,rfl,hrow,hb1⟩;have CD:=hid (CDI.out w1 a1 c1 hrow);have HB1:=hid hb1;clear hrow hb1 CDI CNM;go_wp2_with fail;refine CD.out.mono ?_;rintro e w2 ⟨rfl,rfl⟩;cases rd with
 | false=>
  obtain rfl:z=false:=by rw[←HZ1.out];rfl
  go_wp2_with fail;go_ret;exact⟨rfl,HB1.out⟩
 | true=>
 have HZ2:Hid (Zv (Zju l) l.length=z):=HZ1;go_wp2_with fail;go_loopw [3] (fun iv wr=>∃i:Nat,i≤l.length∧iv= .int .i64 i∧Below w.heap.size w wr∧Hid (Zv (Zju l) i=true)) (fun iv _=>l.length - (intOf iv).toNat)
 case atStart=>exact⟨0,Nat.zero_le _,rfl,HB1.out,hid rfl⟩
 case round=>
  obtain⟨i,hi1,rfl,hB,HQ⟩:=hrel;by_cases hil:i<l.length
  ·have CF:=hid (CFO.out i hil (Zyq HQ.out) wr hB);have hno:Hid (Zhn l i l[i]=false→z=false):=hid (fun h=>by rw[←HZ2.out];exact Zdj hil (by rw[Zk2 hil];exact h));have hyes:Hid (Zhn l i l[i]=true→Zv (Zju l) (i+1)=true):=hid (fun h=>by rw[Zv,HQ.out,Zk2 hil,h];rfl);obtain⟨r,hr⟩:∃r,Zhn l i l[i]=r:=⟨_,rfl⟩;rw[hr]at CF hno hyes;have hi0':(i:Int)<(l.length:Int):=by omega
   have HBB:=hid hB;clear hr;go_wp2_with fail;refine CF.out.mono ?_;rintro e w2 ⟨rfl,hb2⟩;have HB2:=hid (HBB.out.trans (hb2.mono HBB.out.size));clear hb2;cases r with
   | false=>
    obtain rfl:z=false:=hno.out rfl;clear hno hyes;go_wp2_with fail;go_ret;exact⟨rfl,HB2.out⟩
   | true=>
    have HY:=hid (hyes.out rfl);clear hno hyes;go_wp2_with fail;go_roundw
    case rel=>exact⟨i+1,by omega,by go_num,HB2.out,hid HY.out⟩
    case measure=>simp[intOf];omega
  ·obtain rfl:i=l.length:=by omega
   obtain rfl:z=true:=by rw[←HZ2.out];exact HQ.out
   go_wp2_with fail;go_ret;exact⟨rfl,hB⟩
