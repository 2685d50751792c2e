import Derived.Test.YtchllgkgjompgaaGreatDoorS7
import Derived.Test.YtchllgkgjompgaaGreatDoorS4
import Derived.Test.YtchllgkgjompgaaGreatDoorIoParts2
import Derived.Laws.MakeOwn
import Derived.Test.YtchllgkgjompgaaGreatDoorS1
import Derived.Deep.RegionHeld3
namespace Go.Proofs.YtchllgkgjompgaaGreatDoor
set_option maxHeartbeats 4000000
set_option maxRecDepth 100000
open Go.RowKit
set_option linter.unusedVariables false
open Lib(hid)
open Go.Proofs.Tryz
theorem lrI2{n:Nat}:n≤n:=Nat.le_refl n
theorem zeroT_is {t:TM} (h:zeroT t=true):t= .node 0 0 []:=by
 obtain⟨k,n,l⟩:=t;unfold zeroT at h;simp only[Bool.and_eq_true,decide_eq_true_eq]at h;obtain⟨h1,h2,h3⟩:=h;obtain rfl:k=0:=h1;obtain rfl:n=0:=h2;obtain rfl:l=[]:=List.length_eq_zero_iff.1 h3;rfl
theorem copyT_zero:copyT (.node 0 0 [])= .node 0 0 []:=by unfold copyT;split<;>rfl
theorem copyT_shaped {t:TM} (h:shapedB t=true):copyT t=t:=by unfold copyT;rw[if_pos h]
theorem copyE_formed {l:List ET} (h:formedB l=true) {i:Nat} (hi:i<l.length):copyE l[i]=l[i]:=by
 have h1:=formed_ent h hi;have ht:copyT l[i].t=l[i].t:=copyT_shaped (closed_shaped (formed_cl h hi));unfold entP at h1;simp only[Bool.and_eq_true]at h1;obtain⟨_,_,h3,h4⟩:=h1;have hs:=idle_split h3;have hb:copyT l[i].b=l[i].b:=by
  by_cases k1:l[i].k=1
  ·rw[zeroT_is (hs.1 k1).2.2,copyT_zero]
  by_cases k2:l[i].k=2
  ·rw[zeroT_is (hs.2.1 (.inl k2)).2.2.2.2,copyT_zero]
  by_cases k4:l[i].k=4
  ·rw[zeroT_is (hs.2.1 (.inr k4)).2.2.2.2,copyT_zero]
  by_cases k3:l[i].k=3
  ·rw[if_neg k1,if_neg k2,if_neg k4,if_pos k3]at h4;exact copyT_shaped (closed_shaped h4)
  ·rw[if_neg k1,if_neg k2,if_neg k4,if_neg k3]at h4;exact absurd h4 (by decide)
 show({l[i]with t:=copyT l[i].t,b:=copyT l[i].b}:ET)=l[i]
 rw[ht,hb]
theorem copy_formed {l:List ET} (h:formedB l=true):l.map copyE=l:=by
 apply List.ext_getElem (by simp)
 intro i h1 h2;rw[List.getElem_map];exact copyE_formed h h2
theorem formed_cd {l:List ET} (h:formedB l=true):∀x∈l,x.c.length≤600∧x.d.length≤600:=by
 intro x hx;obtain⟨i,hi,rfl⟩:=List.getElem_of_mem hx;have hl:=formed_len h;have h1:=formed_ent h hi;unfold entP at h1;simp only[Bool.and_eq_true]at h1;obtain⟨_,_,h3,h4⟩:=h1;have hs:=idle_split h3;by_cases k1:l[i].k=1
 ·have hf:=fam_facts h hi k1;have hc:=(fam_con (formed_fam h hi k1)).2;refine⟨by have:=hf.c16;omega, ?_⟩;rcases hc with hc|hc
  ·omega
  ·by_cases h0:l[i].d.length=0
   ·omega
   obtain⟨e1,m,e2,hm,_⟩:=beh_place hc.2 (q:=l[i].d.length - 1) (by omega);omega
 by_cases k24:l[i].k=2∨l[i].k=4
 ·have:=hs.2.1 k24;omega
 by_cases k3:l[i].k=3
 ·have:=hs.2.2 k3;omega
 ·rw[if_neg k1,if_neg (fun h=>k24 (.inl h)),if_neg (fun h=>k24 (.inr h)),if_neg k3]at h4;exact absurd h4 (by decide)
theorem prj_facts {l:List ET} (h:formedB l=true) {m:Nat} (hm:m<l.length) (hk:l[m].k=4):∃d,∃hd:d<l.length,l[m].f=(d:Int)∧l[d].k=1∧∃q,l[m].p=((q:Nat):Int)∧q<l[d].d.length:=by
 have h1:=formed_ent h hm;unfold entP at h1;rw[if_neg (by omega),if_neg (by omega),if_pos hk]at h1;simp only[Bool.and_eq_true]at h1;obtain⟨_,h2,_,h3⟩:=h1;unfold fldB at h3;rw[Bool.and_eq_true]at h3;obtain⟨h4,h5⟩:=h3;obtain⟨d,e,hlt,hd,hkd⟩:=isB_take h4;rw[famAt_nat e hd]at h5;simp only[Bool.and_eq_true,decide_eq_true_eq]at h5;obtain⟨q1,_⟩:=h5;have hmem:((m:Nat):Int)∈l[d].d:=by simpa using q1
 obtain⟨q,hq,hqe⟩:=List.getElem_of_mem hmem;have hb:=(fam_con (formed_fam h hd hkd)).2;rcases hb with hb|hb
 ·omega
 obtain⟨e1,m',e2,hm',k2,k3,k4⟩:=beh_place hb.2 hq;obtain rfl:m'=m:=by omega
 exact⟨d,hd,e,hkd,q,k4,hq⟩
theorem IsTerms.agree {w w':World} {lo hi:Nat} {ts:List TM} {A:Option Addr} {cap:Nat} (h:IsTerms w lo hi ts A cap) (hc:∀b o,lo≤b→b<hi→w'.cell? ⟨b,o,none⟩=w.cell? ⟨b,o,none⟩):IsTerms w' lo hi ts A cap:=
 TermIn.imp (fun b o hb=>hc b o hb.1 hb.2) (fun b hb=>hb) h
theorem RecsAt.agree {w w':World} {lo hi:Nat} {A:Option Addr} {rs:List RcT} (h:RecsAt w lo hi A rs) (hc:∀b o,lo≤b→b<hi→w'.cell? ⟨b,o,none⟩=w.cell? ⟨b,o,none⟩):RecsAt w' lo hi A rs:=fun i hi'=>by
 obtain⟨b,o,v1,v2,hA,h1,h2,c0,c1,c2,F,C,G,D,e1,e2,t1,t2⟩:=h i hi';exact⟨b,o,v1,v2,hA,h1,h2,by rw[hc b _ h1 h2,c0],by rw[hc b _ h1 h2,c1],by rw[hc b _ h1 h2,c2],F,C,G,D,e1,e2,t1.agree hc,t2.agree hc⟩
theorem ConV.agree {w w':World} {lo hi:Nat} {c:CoT} {v0 v1 v2:Value} (h:ConV w lo hi c v0 v1 v2) (hc:∀b o,lo≤b→b<hi→w'.cell? ⟨b,o,none⟩=w.cell? ⟨b,o,none⟩):ConV w' lo hi c v0 v1 v2:=by
 obtain⟨F,C,G,D,H,E,e0,e1,e2,h0,h1,h2,h3,h4⟩:=h;exact⟨F,C,G,D,H,E,e0,e1,e2,h0.agree hc,h1.agree hc,h2.agree hc,h3,h4⟩
def ConRow (w:World) (g n:Nat) (cs:Array Value) (f:Nat→CoT):Prop:=
 ∀j,j<n→∃v0 v1 v2,cs[j*3]? =some v0∧cs[j*3+1]? =some v1∧cs[j*3+2]? =some v2∧ConV w (g+1) w.heap.size (f j) v0 v1 v2
theorem ConRow.kept {w w':World} {g n:Nat} {cs:Array Value} {f:Nat→CoT} (h:ConRow w g n cs f) (hb:Below w.heap.size w w'):ConRow w' g n cs f:=fun j hj=>by
 obtain⟨v0,v1,v2,c0,c1,c2,hv⟩:=h j hj;exact⟨v0,v1,v2,c0,c1,c2,(hv.kept hb lrI2).wide lrI2 hb.size⟩
theorem cell_ne {w:World} {g b o q:Nat} {v:Value} (h:b≠g):(w.setCell ⟨g,q,none⟩ v).cell? ⟨b,o,none⟩=w.cell? ⟨b,o,none⟩:=World.cell?_setCell_other w ⟨g,q,none⟩ ⟨b,o,none⟩ v (fun e=>h (by injection e with e;exact e.symm))
theorem cells_three {w:World} {g b o q q' q'':Nat} {v v' v'':Value} (h:b≠g):(((w.setCell ⟨g,q,none⟩ v).setCell ⟨g,q',none⟩ v').setCell ⟨g,q'',none⟩ v'').cell? ⟨b,o,none⟩=w.cell? ⟨b,o,none⟩:=by
 rw[cell_ne h,cell_ne h,cell_ne h]
def ConRow3 (w:World) (g n:Nat) (f:Nat→CoT):Prop:=∃cs,Bk w g 177 cs∧cs.size=n*3∧ConRow w g n cs f
theorem ConRow3.set {w:World} {g n:Nat} {f:Nat→CoT} (h:ConRow3 w g n f) {i:Nat} (hi:i<n) {c:CoT} {v0 v1 v2:Value} (hv:ConV w (g+1) w.heap.size c v0 v1 v2):
  ConRow3 (((w.setCell ⟨g,i*3,none⟩ v0).setCell ⟨g,i*3+1,none⟩ v1).setCell ⟨g,i*3+2,none⟩ v2) g n (fun j=>if j=i then c else f j):=by
 obtain⟨cs,hb,hs,hr⟩:=h;refine⟨_,((hb.at_ (i*3) v0).at_ (i*3+1) v1).at_ (i*3+2) v2,by simp[hs],fun j hj=> ?_⟩;have hag:∀b o,g+1≤b→b<w.heap.size→(((w.setCell ⟨g,i*3,none⟩ v0).setCell ⟨g,i*3+1,none⟩ v1).setCell ⟨g,i*3+2,none⟩ v2).cell? ⟨b,o,none⟩=w.cell? ⟨b,o,none⟩:=fun b o h1 _=>cells_three (by omega);have hsz:(((w.setCell ⟨g,i*3,none⟩ v0).setCell ⟨g,i*3+1,none⟩ v1).setCell ⟨g,i*3+2,none⟩ v2).heap.size=w.heap.size:=by simp
 by_cases e:j=i
 ·subst e;refine⟨v0,v1,v2, ?_, ?_, ?_, ?_⟩
  ·rw[Array.getElem?_setIfInBounds_ne (by omega),Array.getElem?_setIfInBounds_ne (by omega),Array.getElem?_setIfInBounds_self_of_lt (by omega)]
  ·rw[Array.getElem?_setIfInBounds_ne (by omega),Array.getElem?_setIfInBounds_self_of_lt (by simp;omega)]
  ·rw[Array.getElem?_setIfInBounds_self_of_lt (by simp;omega)]
  ·show ConV _ _ _ (if j=j then c else f j) _ _ _
   rw[if_pos rfl,hsz];exact hv.agree hag
 ·obtain⟨u0,u1,u2,c0,c1,c2,hu⟩:=hr j hj;refine⟨u0,u1,u2, ?_, ?_, ?_, ?_⟩
  ·rw[Array.getElem?_setIfInBounds_ne (by omega),Array.getElem?_setIfInBounds_ne (by omega),Array.getElem?_setIfInBounds_ne (by omega),c0]
  ·rw[Array.getElem?_setIfInBounds_ne (by omega),Array.getElem?_setIfInBounds_ne (by omega),Array.getElem?_setIfInBounds_ne (by omega),c1]
  ·rw[Array.getElem?_setIfInBounds_ne (by omega),Array.getElem?_setIfInBounds_ne (by omega),Array.getElem?_setIfInBounds_ne (by omega),c2]
  ·show ConV _ _ _ (if j=i then c else f j) _ _ _
   rw[if_neg e,hsz];exact hu.agree hag
theorem ConRow3.kept {w w':World} {g n:Nat} {f:Nat→CoT} (h:ConRow3 w g n f) (hb:Below w.heap.size w w'):ConRow3 w' g n f:=by
 obtain⟨cs,hk,hs,hr⟩:=h;exact⟨cs,hk.below hb hk.lt,hs,hr.kept hb⟩
theorem ConRow3.lt {w:World} {g n:Nat} {f:Nat→CoT} (h:ConRow3 w g n f):g<w.heap.size:=h.choose_spec.1.lt
theorem ConRow3.cold {w:World} {g n:Nat} {f:Nat→CoT} (h:ConRow3 w g n f) (o:Nat):w.frozen? ⟨g,o,none⟩=false:=h.choose_spec.1.cold o
theorem ConRow3.eq {w:World} {g n:Nat} {f f':Nat→CoT} (h:ConRow3 w g n f) (he:∀j,j<n→f j=f' j):ConRow3 w g n f':=by
 obtain⟨cs,hk,hs,hr⟩:=h;exact⟨cs,hk,hs,fun j hj=>by rw[←he j hj];exact hr j hj⟩
theorem ConRow3.cells {w:World} {g n:Nat} {f:Nat→CoT} (h:ConRow3 w g n f) {i:Nat} (hi:i<n):∃v0 v1 v2,w.cell? ⟨g,i*3,none⟩=some v0∧w.cell? ⟨g,i*3+1,none⟩=some v1∧w.cell? ⟨g,i*3+2,none⟩=some v2:=by
 obtain⟨cs,hk,hs,hr⟩:=h;obtain⟨v0,v1,v2,c0,c1,c2,_⟩:=hr i hi;exact⟨v0,v1,v2,(hk.cell _).trans c0,(hk.cell _).trans c1,(hk.cell _).trans c2⟩
theorem ConRow3.cons {w:World} {g n:Nat} {f:Nat→CoT} (h:ConRow3 w g n f) (l:List CoT) (hl:l.length=n) (hf:∀j (hj:j<l.length),l[j]=f j):ConsAt w 0 w.heap.size (some ⟨g,0,none⟩) l:=fun i hi=>by
 obtain⟨cs,hk,hs,hr⟩:=h;obtain⟨v0,v1,v2,c0,c1,c2,hv⟩:=hr i (by omega);refine⟨g,0,v0,v1,v2,rfl,Nat.zero_le _,hk.lt, ?_, ?_, ?_, ?_⟩
 ·rw[Nat.zero_add,hk.cell,c0]
 ·rw[Nat.zero_add,hk.cell,c1]
 ·rw[Nat.zero_add,hk.cell,c2]
 ·rw[hf i hi];exact hv.wide (Nat.zero_le _) lrI2
theorem infoCon:(prog.info? 177).map (fun i=>(i.zero,i.size,i.bytes))=some (some (.agg #[.slice none 0 0,.slice none 0 0,.slice none 0 0]),3,72):=by kernel_rfl
theorem make_cons (n:Nat) (hn:n≤600) (w:World):
  ∃W,(Instr.makeSlice 118 (.int .i64 (n:Int)) (.int .i64 (n:Int))).run prog w= .ok (.slice (some ⟨w.heap.size,0,none⟩) n n) W∧Below w.heap.size w W∧ConRow3 W w.heap.size n (fun _=>zeroCo):=by
 obtain⟨i,hi,hz,hs,hb⟩:=info_parts infoCon;have h:=run_make (P:=prog) w 118 177 i _ Tryz.underlying118 hi hz .i64 .i64 n n (by omega) (Int.le_refl _) (by rw[hb];omega) (by omega);rw[Int.toNat_natCast,hs]at h;refine⟨_,h,(Below.refl _ _).alloc lrI2 _,_,Bk.new w _ _,size_madeCells _ _,fun j hj=> ?_⟩;have hc:∀q,q<n*3→(madeCells (Value.agg #[.slice none 0 0,.slice none 0 0,.slice none 0 0]).cells (n*3))[q]? =some (.slice none 0 0):=by
  intro q hq;have he:(Value.agg #[.slice none 0 0,.slice none 0 0,.slice none 0 0]).cells= #[.slice none 0 0,.slice none 0 0,.slice none 0 0]:=rfl;rw[he];unfold madeCells;have hm:q % 3<3:=Nat.mod_lt _ (by decide);simp only[Array.getElem?_map];rw[Array.getElem?_eq_getElem (by simpa using hq)];simp only[Array.getElem_range,Option.map_some];congr 1
  rcases(show q % 3=0∨q % 3=1∨q % 3=2 by omega)with e|e|e<;>simp[e]
 exact⟨_,_,_,hc _ (by omega),hc _ (by omega),hc _ (by omega),ConV.zero _ _ _⟩
def EvRel (l:List ET) (g:Nat) (Z:World) (iv:Value) (wr:World):Prop:=
 ∃i:Nat,i≤l.length∧iv= .int .i64 i∧Below g Z wr∧Z.heap.size≤wr.heap.size∧ConRow3 wr g l.length (fun j=>if j<i then everyAt l j else zeroCo)
def GivesEv (l:List ET) (w:World) (e:Ending) (w':World):Prop:=
 if formedB l=true then ∃g,e= .returned (.tuple #[.slice (some ⟨g,0,none⟩) l.length l.length,.int .i64 0])∧ConsAt w' 0 w'.heap.size (some ⟨g,0,none⟩) (everyT l)∧Below w.heap.size w w'
 else e= .returned (.tuple #[.slice none 0 0,.int .i64 5])∧Below w.heap.size w w'
theorem GivesEv.yes {l:List ET} {w w':World} {e:Ending} (hf:formedB l=true) (h:GivesEv l w e w'):∃g,e= .returned (.tuple #[.slice (some ⟨g,0,none⟩) l.length l.length,.int .i64 0])∧ConsAt w' 0 w'.heap.size (some ⟨g,0,none⟩) (everyT l)∧Below w.heap.size w w':=by
 unfold GivesEv at h;rw[if_pos hf]at h;exact h
theorem GivesEv.no {l:List ET} {w w':World} {e:Ending} (hf:formedB l=false) (h:GivesEv l w e w'):e= .returned (.tuple #[.slice none 0 0,.int .i64 5])∧Below w.heap.size w w':=by
 unfold GivesEv at h;rw[if_neg (by rw[hf];decide)]at h;exact h
theorem every_any (l:List ET) (A:Option Addr) (cap lo hi:Nat) (w:World) (hl:l.length≤600) (hlc:l.length≤cap) (hn:EntsAt w lo hi A l) (hhi:hi≤w.heap.size) (hS:ShapesM w):
  Calls prog 106 #[.slice A l.length cap] w (GivesEv l w):=by
 have CF:=hid (SFormed_any l A cap lo hi w hl hlc hn hhi hS);have HG:Hid (∀e w',GivesEv l w e w'=if formedB l=true then ∃g,e= .returned (.tuple #[.slice (some ⟨g,0,none⟩) l.length l.length,.int .i64 0])∧ConsAt w' 0 w'.heap.size (some ⟨g,0,none⟩) (everyT l)∧Below w.heap.size w w'
  else e= .returned (.tuple #[.slice none 0 0,.int .i64 5])∧Below w.heap.size w w'):=hid (fun _ _=>rfl)
 have HP:=hid (fun(m:Nat) (hm:m<l.length) (hf:formedB l=true) (hk:l[m].k=2) (V:World) (hV:Below w.heap.size w V)=>parts_any l A cap lo hi m hm V hl (hn.kept hV hhi) (by have:=hV.size;omega) hf hk (hS.kept hV));have HI:=hid (fun(m:Int) (V:World) (hV:Below w.heap.size w V)=>isOf_any l A cap lo hi m 2 V (by unfold maxLen;omega) (hn.kept hV hhi));obtain⟨f,hf⟩:∃f,formedB l=f:=⟨_,rfl⟩;have HFF:=hid hf;rw[hf]at CF;clear hn hS hhi hf;cases f with
 | false=>
  go_enter func106,ntmps106;go_wp2_with fail;refine CF.out.mono ?_;rintro e w1 ⟨rfl,hb⟩;have HB:=hid hb;clear hb CF;go_wp2_with fail;go_ret2;rw[HG.out,if_neg (by rw[HFF.out];decide)];exact⟨rfl,HB.out⟩
 | true=>
  have hl2:(l.length:Int)≤600:=by omega
  go_enter func106,ntmps106;go_wp2_with fail;refine CF.out.mono ?_;rintro e w1 ⟨rfl,hb⟩;obtain⟨W,hmk,hbW,hrow⟩:=make_cons l.length hl w1;have HB:=hid hb;have HBW:=hid (hb.trans (hbW.mono hb.size));have HROW:=hid hrow;have HGL:=hid (show w.heap.size≤w1.heap.size from hb.size);clear hb CF hbW hrow;go_wp2_with fail;have HIV:=hid (fun(m:Nat) (V:World) (hV:Below W.heap.size W V)=>HI.out m V (HBW.out.trans (hV.mono HBW.out.size)));go_loopw [14] (EvRel l w1.heap.size W) (fun iv _=>l.length - (intOf iv).toNat)
  case atStart=>exact⟨0,Nat.zero_le _,rfl,Below.refl _ _,Nat.le_refl _,HROW.out.eq (fun j _=>by rw[if_neg (Nat.not_lt_zero j)])⟩
  case round=>
   obtain⟨i,hi1,rfl,hB,hz,hrow⟩:=hrel;have HR:=hid hrow;have HBB:=hid hB;have HZZ:=hid hz;have hBw:Below w.heap.size w wr:=HBW.out.trans (hB.mono HGL.out);have HBw:=hid hBw;clear hB hrow hBw;by_cases hil:i<l.length
   ·have hi1':(i:Int)<(l.length:Int):=by omega
    have hi0':(0:Int)≤(i:Int):=by omega
    have CI:=hid (HI.out (i:Int) wr HBw.out);obtain⟨v0,v1,v2,c0,c1,c2⟩:=HR.out.cells hil;have hfz:∀q,wr.frozen? ⟨w1.heap.size,q,none⟩=false:=fun q=>HR.out.cold q;have HIL:=hid hil;cases hq:isB l (i:Int) 2 with
    | false=>
     rw[hq]at CI;have HQ:=hid hq;clear hq c0 c1 c2 hil;go_wp2_with fail;refine CI.out.mono ?_;rintro e w3 ⟨rfl,rfl⟩;go_wp2_with fail;go_roundw
     case rel=>
      refine⟨i+1,HIL.out,by go_num,HBB.out,HZZ.out,HR.out.eq (fun j hj=> ?_)⟩;by_cases e:j<i
      ·rw[if_pos e,if_pos (by omega)]
      ·by_cases e2:j=i
       ·subst e2;rw[if_neg e,if_pos (by omega)];unfold everyAt;rw[HQ.out];rfl
       ·rw[if_neg e,if_neg (by omega)]
     case measure=>have:=HIL.out;simp[intOf];omega
    | true=>
     rw[hq]at CI;have hk:l[i].k=2:=by
      rw[isB_nat hil]at hq;exact of_decide_eq_true hq
     have CP:=hid (HP.out i hil HFF.out hk wr HBw.out);have HE:=hid (show everyAt l i=partsAt l i from by unfold everyAt;rw[hq];rfl);unfold GivesCo at CP;clear hq hk c0 c1 c2 hfz hil;go_wp2_with fail;refine CI.out.mono ?_;rintro e w3 ⟨rfl,rfl⟩;go_wp2_with fail;refine CP.out.mono ?_;rintro e w4 ⟨v0,v1,v2,rfl,hcv,hb4⟩;have HR4:=hid (HR.out.kept hb4);have HGW:=hid HR.out.lt;have HB4:=hid (HBB.out.trans (hb4.mono (Nat.le_of_lt HR.out.lt)));have HZ4:=hid (Nat.le_trans HZZ.out hb4.size);have HCV:=hid (hcv.wide (lo':=w1.heap.size+1) HR.out.lt lrI2);obtain⟨u0,u1,u2,c0,c1,c2⟩:=HR4.out.cells HIL.out;have hfz:∀q,w4.frozen? ⟨w1.heap.size,q,none⟩=false:=fun q=>HR4.out.cold q;clear hb4;obtain⟨F,C,G,D,H,E,rfl,rfl,rfl, -⟩:=hcv;go_wp2_with fail;go_roundw
     case rel=>
      refine⟨i+1,HIL.out,by go_num,((HB4.out.setCell lrI2 _).setCell lrI2 _).setCell lrI2 _,by have:=HZ4.out;simpa [World.setCell]using this,(HR4.out.set HIL.out HCV.out).eq (fun j hj=> ?_)⟩;by_cases e2:j=i
      ·subst e2;rw[if_pos rfl,if_pos (by omega),HE.out]
      ·rw[if_neg e2];by_cases e:j<i
       ·rw[if_pos e,if_pos (by omega)]
       ·rw[if_neg e,if_neg (by omega)]
     case measure=>have:=HIL.out;simp[intOf];omega
   ·have HIN:=hid (show i=l.length by omega);have hge: ¬ (i:Int)<(l.length:Int):=by omega
    go_wp2_with fail;go_ret2;rw[HG.out,if_pos HFF.out];exact⟨w1.heap.size,rfl,HR.out.cons (everyT l) (everyT_len l) (fun j hj=>by rw[everyT_at hj,if_pos (by have:=everyT_len l;have:=HIN.out;omega)]),HBw.out⟩
theorem iis_any (l:List ET) (A B:Option Addr) (cap bap hi g:Nat) (n k:Int) (w:World) (hr:RulesAt w hi g l A B cap bap):
  Calls prog 141 #[.pointer (some ⟨g,0,none⟩),.int .i64 n,.int .i64 k] w fun e w'=>e= .returned (.bool (isB l n k))∧w=w':=by
 have r0:=hr.c0;have hll:(l.length:Int)≤256:=by have:=formed_len hr.fm;omega
 have hn:=hr.ents;have hhl:=hr.hl;have hgl:=hr.gl;clear hr;by_cases h0:n<0
 ·rw[isB_neg h0];have t0:decide (0≤n)=false:=decide_eq_false (by omega);have t0':decide (n≥0)=false:=decide_eq_false (by omega);clear hn h0;go_enter func141,ntmps141;go_wp2_with fail;go_ret;exact⟨rfl,rfl⟩
 have t0:decide (0≤n)=true:=decide_eq_true (by omega);have t0':decide (n≥0)=true:=decide_eq_true (by omega);by_cases h1:(l.length:Int)≤n
 ·rw[isB_big h1];have t1:decide (n<(l.length:Int))=false:=decide_eq_false (by omega);clear hn h0 h1;go_enter func141,ntmps141;go_wp2_with fail;go_ret;exact⟨rfl,rfl⟩
 have t1:decide (n<(l.length:Int))=true:=decide_eq_true (by omega);obtain⟨m,rfl⟩:∃m:Nat,n=(m:Int):=⟨n.toNat,by omega⟩;have hm:m<l.length:=by omega
 rw[isB_nat hm];obtain⟨b,o,p,hA,q1,q2,hx,_⟩:=hn m hm;have x0:=hx.c0;obtain⟨x,hxx⟩:∃x,l[m].k=x:=⟨_,rfl⟩;rw[hxx]at x0⊢;subst hA;have hi0':(m:Int)<(l.length:Int):=by omega
 clear hx hxx hn h0 h1;by_cases hk:x=k
 ·have t2:(x==k)=true:=by simpa using hk
  rw[decide_eq_true hk];clear hk;go_enter func141,ntmps141;go_wp2_with fail;go_ret;exact⟨rfl,rfl⟩
 ·have t2:(x==k)=false:=by simpa using hk
  rw[decide_eq_false hk];clear hk;go_enter func141,ntmps141;go_wp2_with fail;go_ret;exact⟨rfl,rfl⟩
def elB (l:List ET) (d v:Int):Bool:=isB l d 1 && (decide (0≤v) && decide (v≤7))
theorem elims_any (l:List ET) (A B:Option Addr) (cap bap hi g:Nat) (d v:Int) (w:World) (hr:RulesAt w hi g l A B cap bap):
  Calls prog 143 #[.pointer (some ⟨g,0,none⟩),.int .i64 d,.int .i64 v] w fun e w'=>e= .returned (.bool (elB l d v))∧w=w':=by
 have HC:=hid (iis_any l A B cap bap hi g d 1 w hr);obtain⟨q,hq⟩:∃q,isB l d 1=q:=⟨_,rfl⟩;have HE:=hid (show elB l d v=(q && (decide (0≤v) && decide (v≤7)))from by unfold elB;rw[hq]);rw[hq]at HC;obtain⟨z,hz⟩:∃z,elB l d v=z:=⟨_,rfl⟩;rw[hz]at HE⊢;clear hr hq hz;cases q with
 | false=>
  have HZ:=hid (show z=false from by rw[HE.out];rfl);clear HE;go_enter func143,ntmps143;go_wp2_with fail;refine HC.out.mono ?_;rintro e w1 ⟨rfl,rfl⟩;go_wp2_with fail;go_ret;exact⟨by rw[HZ.out];rfl,rfl⟩
 | true=>
  by_cases h0:0≤v
  ·have t0:decide (0≤v)=true:=decide_eq_true h0;have t0':decide (v≥0)=true:=decide_eq_true h0;by_cases h7:v≤7
   ·have t1:decide (v≤7)=true:=decide_eq_true h7;have HZ:=hid (show z=true from by rw[HE.out,t0,t1];rfl);clear HE h0 h7;go_enter func143,ntmps143;go_wp2_with fail;refine HC.out.mono ?_;rintro e w1 ⟨rfl,rfl⟩;go_wp2_with fail;go_ret;exact⟨by rw[HZ.out];rfl,rfl⟩
   ·have t1:decide (v≤7)=false:=decide_eq_false h7;have HZ:=hid (show z=false from by rw[HE.out,t0,t1];rfl);clear HE h0 h7;go_enter func143,ntmps143;go_wp2_with fail;refine HC.out.mono ?_;rintro e w1 ⟨rfl,rfl⟩;go_wp2_with fail;go_ret;exact⟨by rw[HZ.out];rfl,rfl⟩
  ·have t0:decide (0≤v)=false:=decide_eq_false h0;have t0':decide (v≥0)=false:=decide_eq_false h0;have HZ:=hid (show z=false from by rw[HE.out,t0];rfl);clear HE h0;go_enter func143,ntmps143;go_wp2_with fail;refine HC.out.mono ?_;rintro e w1 ⟨rfl,rfl⟩;go_wp2_with fail;go_ret;exact⟨by rw[HZ.out];rfl,rfl⟩
theorem ConsAt.agree {w w':World} {lo hi:Nat} {A:Option Addr} {cs:List CoT} (h:ConsAt w lo hi A cs) (hc:∀b o,lo≤b→b<hi→w'.cell? ⟨b,o,none⟩=w.cell? ⟨b,o,none⟩):ConsAt w' lo hi A cs:=fun i hi'=>by
 obtain⟨b,o,v0,v1,v2,hA,h1,h2,c0,c1,c2,hv⟩:=h i hi';exact⟨b,o,v0,v1,v2,hA,h1,h2,by rw[hc b _ h1 h2,c0],by rw[hc b _ h1 h2,c1],by rw[hc b _ h1 h2,c2],hv.agree hc⟩
def GivesOv (l:List ET) (A:Option Addr) (cap:Nat) (w:World) (e:Ending) (w':World):Prop:=
 if formedB l=true then ∃g B,e= .returned (.tuple #[.pointer (some ⟨g,0,none⟩),.int .i64 0])∧w.heap.size≤g∧Bk w' g 120 #[.slice A l.length cap,.slice B l.length l.length]∧ConsAt w' 0 g B (everyT l)∧Below w.heap.size w w'
 else e= .returned (.tuple #[.pointer none,.int .i64 5])∧Below w.heap.size w w'
theorem GivesOv.yes {l:List ET} {A:Option Addr} {cap:Nat} {w w':World} {e:Ending} (hf:formedB l=true) (h:GivesOv l A cap w e w'):∃g B,e= .returned (.tuple #[.pointer (some ⟨g,0,none⟩),.int .i64 0])∧w.heap.size≤g∧Bk w' g 120 #[.slice A l.length cap,.slice B l.length l.length]∧ConsAt w' 0 g B (everyT l)∧Below w.heap.size w w':=by
 unfold GivesOv at h;rw[if_pos hf]at h;exact h
theorem GivesOv.no {l:List ET} {A:Option Addr} {cap:Nat} {w w':World} {e:Ending} (hf:formedB l=false) (h:GivesOv l A cap w e w'):e= .returned (.tuple #[.pointer none,.int .i64 5])∧Below w.heap.size w w':=by
 unfold GivesOv at h;rw[if_neg (by rw[hf];decide)]at h;exact h
theorem over_any (l:List ET) (A:Option Addr) (cap lo hi:Nat) (w:World) (hl:l.length≤600) (hlc:l.length≤cap) (hn:EntsAt w lo hi A l) (hhi:hi≤w.heap.size) (hS:ShapesM w):
  Calls prog 75 #[.slice A l.length cap] w (GivesOv l A cap w):=by
 have CE:=hid (every_any l A cap lo hi w hl hlc hn hhi hS);have HG:Hid (∀e w',GivesOv l A cap w e w'=if formedB l=true then ∃g B,e= .returned (.tuple #[.pointer (some ⟨g,0,none⟩),.int .i64 0])∧w.heap.size≤g∧Bk w' g 120 #[.slice A l.length cap,.slice B l.length l.length]∧ConsAt w' 0 g B (everyT l)∧Below w.heap.size w w'
  else e= .returned (.tuple #[.pointer none,.int .i64 5])∧Below w.heap.size w w'):=hid (fun _ _=>rfl)
 obtain⟨f,hf⟩:∃f,formedB l=f:=⟨_,rfl⟩;have HFF:=hid hf;clear hn hS hhi;cases f with
 | false=>
  have CE:=hid (CE.out.mono fun _ _ h=>GivesEv.no hf h);clear hf;go_enter func75,ntmps75;go_wp2_with fail;refine CE.out.mono ?_;rintro e w1 ⟨rfl,hb⟩;have HB:=hid hb;clear hb CE;go_wp2_with fail;go_ret2;rw[HG.out,if_neg (by rw[HFF.out];decide)];exact⟨rfl,HB.out⟩
 | true=>
  have CE:=hid (CE.out.mono fun _ _ h=>GivesEv.yes hf h);clear hf hl hlc;go_enter func75,ntmps75;go_wp2_with fail;refine CE.out.mono ?_;rintro e w1 ⟨g,rfl,hc,hb⟩;have HB:=hid hb;have HC:=hid hc;clear hb hc CE;go_wp2_with fail;go_ret2;rw[HG.out,if_pos HFF.out];exact⟨_,_,rfl,HB.out.size,Bk.last _ _ _ (by simp),HC.out.kept ((Below.refl _ _).alloc lrI2 _) lrI2,HB.out.alloc HB.out.size _⟩
def GivesNw (l:List ET) (w:World) (e:Ending) (w':World):Prop:=
 if formedB l=true then ∃g A B cap,e= .returned (.tuple #[.pointer (some ⟨g,0,none⟩),.int .i64 0])∧RulesAt w' w'.heap.size g l A B cap l.length∧Below w.heap.size w w'
 else e= .returned (.tuple #[.pointer none,.int .i64 5])∧Below w.heap.size w w'
theorem GivesNw.yes {l:List ET} {w w':World} {e:Ending} (hf:formedB l=true) (h:GivesNw l w e w'):∃g A B cap,e= .returned (.tuple #[.pointer (some ⟨g,0,none⟩),.int .i64 0])∧RulesAt w' w'.heap.size g l A B cap l.length∧Below w.heap.size w w':=by
 unfold GivesNw at h;rw[if_pos hf]at h;exact h
theorem GivesNw.no {l:List ET} {w w':World} {e:Ending} (hf:formedB l=false) (h:GivesNw l w e w'):e= .returned (.tuple #[.pointer none,.int .i64 5])∧Below w.heap.size w w':=by
 unfold GivesNw at h;rw[if_neg (by rw[hf];decide)]at h;exact h
theorem inew_any (l:List ET) (A:Option Addr) (cap lo hi:Nat) (w:World) (hl:l.length≤600) (hlc:l.length≤cap) (hn:EntsAt w lo hi A l) (hhi:hi≤w.heap.size) (hS:ShapesM w):
  Calls prog 50 #[.slice A l.length cap] w (GivesNw l w):=by
 have CO:=hid (over_any l A cap lo hi w hl hlc hn hhi hS);have HG:Hid (∀e w',GivesNw l w e w'=if formedB l=true then ∃g A B cap,e= .returned (.tuple #[.pointer (some ⟨g,0,none⟩),.int .i64 0])∧RulesAt w' w'.heap.size g l A B cap l.length∧Below w.heap.size w w'
  else e= .returned (.tuple #[.pointer none,.int .i64 5])∧Below w.heap.size w w'):=hid (fun _ _=>rfl)
 obtain⟨f,hf⟩:∃f,formedB l=f:=⟨_,rfl⟩;have HFF:=hid hf;cases f with
 | false=>
  have CO:=hid (CO.out.mono fun _ _ h=>GivesOv.no hf h);clear hf hn hS hhi;go_enter func50,ntmps50;go_wp2_with fail;refine CO.out.mono ?_;rintro e w1 ⟨rfl,hb⟩;have HB:=hid hb;clear hb CO;go_wp2_with fail;go_ret2;rw[HG.out,if_neg (by rw[HFF.out];decide)];exact⟨rfl,HB.out⟩
 | true=>
  have CC:=hid (fun V (hV:Below w.heap.size w V)=>scopyP_any l A cap lo hi V hl (formed_cd hf) (hn.kept hV hhi) (by have:=hV.size;omega) (hS.kept hV));rw[copy_formed hf]at CC;have CO:=hid (CO.out.mono fun _ _ h=>GivesOv.yes hf h);unfold GivesEn at CC;clear hf hl hlc hn hS hhi;go_enter func50,ntmps50;go_wp2_with fail;refine CO.out.mono ?_;rintro e w1 ⟨g,B,rfl,hg,hk,hc,hb⟩;have HB:=hid hb;have HC:=hid hc;have HK:=hid hk;have HGG:=hid hg;clear hb hc hk hg CO;go_wp2_with fail;refine(CC.out _ HB.out).mono ?_;rintro e w2 ⟨A2,c2,rfl,he2,hl2,hb2⟩;have HK2:=hid (HK.out.below hb2 HK.out.lt);have HC2:=hid (HC.out.kept hb2 (Nat.le_of_lt HK.out.lt));have HB2:=hid (HB.out.trans (hb2.mono HB.out.size));have HE2:=hid he2;have HL2:=hid hl2;have HGL:=hid HK.out.lt;have hfz:∀q,w2.frozen? ⟨g,q,none⟩=false:=fun q=>HK2.out.cold q;have k0:w2.cell? ⟨g,0,none⟩=some (.slice A l.length cap):=HK2.out.cell 0;clear he2 hl2 hb2 CC;go_wp2_with fail;go_ret2;rw[HG.out,if_pos HFF.out];have hK3:Bk (w2.setCell ⟨g,0,none⟩ (.slice A2 l.length c2)) g 120 #[.slice A2 l.length c2,.slice B l.length l.length]:=HK2.out.at_ 0 (.slice A2 l.length c2);refine⟨g,A2,B,c2,rfl, ?_,HB2.out.setCell HGG.out _⟩;have hsz:(w2.setCell ⟨g,0,none⟩ (.slice A2 l.length c2)).heap.size=w2.heap.size:=by simp
  have r0:=hK3.cell 0;have r1:=hK3.cell 1;refine⟨hK3.lt,Nat.le_refl _, ?_, ?_, ?_, ?_,HFF.out, ?_⟩
  ·exact r0
  ·exact r1
  ·rw[hsz];exact(HE2.out.agree (fun b o h1 _=>cell_ne (by have:=HGL.out;omega))).wide (Nat.zero_le _) lrI2
  ·rw[hsz];exact(HC2.out.agree (fun b o _ h2=>cell_ne (by omega))).wide lrI2 (Nat.le_of_lt HK2.out.lt)
  ·exact HL2.out
end Go.Proofs.YtchllgkgjompgaaGreatDoor
