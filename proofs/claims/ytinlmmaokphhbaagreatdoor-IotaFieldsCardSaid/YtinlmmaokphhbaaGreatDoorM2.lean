import Derived.Test.YtinlmmaokphhbaaGreatDoorM1
import Derived.LoopTactic
import Derived.LoopN
import Derived.RegionTactic
namespace Go.Proofs.YtinlmmaokphhbaaGreatDoor
set_option maxHeartbeats 1000000
set_option maxRecDepth 100000
open Go.RowKit
set_option linter.unusedVariables false
open Lib(hid)
open Go.Proofs.Tryz
open _root_.List renaming getElem_mem→Qa,take_zero→Qb,all_eq_true→Qc,take_length→Qd
open _root_.Bool renaming and_eq_true→Qe,not_eq_true'→Qf,or_eq_true→Qg
open Go.RowKit.Below renaming refl→Qh
open Go.World renaming block_lt_of_cell?→Qi
theorem Zm3{n:Nat}:n≤n:=Nat.le_refl n
def dpN (n:Nat):Nat:=min n 129
theorem Zx1:∀(t:TM) (c lo hi:Nat) (A:Option Addr) (cap:Nat) (w:World),Za w lo hi t A cap→hi≤w.heap.size→c≤8192→
    Calls prog 144 #[Zc t A cap,.int .i64 (c:Int)] w fun e w'=>e= .returned (.int .i64 (Jv (c+t.size):Int))∧Below w.heap.size w w':=by
  intro t;induction t using TM.ind with
  | h k n l ih=>
    intro c lo hi A cap w h hhi hcl;obtain⟨hl,hm⟩:=h.bounds;have IH:=hid ih;have HN:=hid h.sub;unfold maxLen at hm;clear ih h;rw[Jk,J6];go_enter func144,ntmps144;go_wp2_with fail;go_loopw [1,12] (fun cv iv wr=>∃i:Nat,i≤l.length∧iv= .int .i64 i∧cv= .int .i64 (Jv (c+1+Ja (l.take i)):Int)∧Below w.heap.size w wr)
      (fun _ iv _=>l.length - (intOf iv).toNat)
    case atStart=>exact⟨0,Nat.zero_le _,rfl,Zk6 (by rw[Qb,Zdd,Z22 hcl];omega),(Qh _ _).alloc Zm3 _⟩
    case round=>
      obtain⟨i,hi1,rfl,rfl,hB⟩:=hrel;have hz:=hB.size;by_cases hil:i<l.length
      · obtain⟨b,o,F,C,rfl,hb1,hb2,hx,hnode⟩:=(HN.out i hil).kept hB hhi;obtain⟨x0,x1,x2⟩:=hx;have hsn:=hid (Zex hil);have hmem:l[i]∈l:=Qa hil;obtain⟨q,hq⟩:∃q,Jv (c+1+Ja (l.take i))=q:=⟨_,rfl⟩;rw[hq];have HQ:=hid hq;clear hq HN;by_cases hb:8192<q
        · go_wp2_with fail;go_ret;have h2:=Zca l i;have h3:q=Jv (c+(Ja l+1)):=by rw[←HQ.out]at hb⊢;exact Z0p hb (by omega)
          exact⟨Zjj h3,hB.alloc hz _⟩
        · have hr:=IH.out l[i] hmem q lo hi F C;have HR:=hid hr;clear hr;go_wp2_with fail;refine(HR.out _ (hnode.alloc (by omega) _) (by simp;omega) (by omega)).mono ?_;rintro e w1 ⟨rfl,hb1⟩;have hB1:=(hB.alloc hz _).trans (hb1.mono (by simp;omega));go_wp2_with fail;go_roundw
          case rel=>
            refine⟨i+1,by omega,rfl,Z4h ?_,hB1⟩;rw[hsn.out,←HQ.out,Z20];congr 1;omega
          case measure=>simp[intOf];omega
      · obtain rfl:i=l.length:=by omega
        rw[Qd];clear HN IH;go_wp2_with fail;go_ret;exact⟨Zjj (by congr 1;omega),hB⟩
theorem Zrw (t:TM)(lo hi:Nat)(A:Option Addr)(cap:Nat)(w:World)(h:Za w lo hi t A cap)(hhi:hi≤w.heap.size):
  Calls prog 130 #[Zc t A cap] w fun e w'=>e= .returned (.int .i64 (Jv t.size:Int))∧Below w.heap.size w w':=by
 have hc:=Zx1 t 0 lo hi A cap;rw[Nat.zero_add]at hc;have HC:=hid hc;clear hc;unfold Zc at HC⊢;go_enter func130,ntmps130;go_wp2_with fail;refine(HC.out _ (h.alloc hhi _) (by simp;omega) (by omega)).mono ?_;rintro e w1 ⟨rfl,hb1⟩;go_wp2_with fail;go_ret;exact⟨rfl,((Qh _ _).alloc Zm3 _).trans (hb1.mono (by simp))⟩
def Znq (t:TM):Nat:=if 8192<t.size then 129 else dpN t.depth
def Zso (t:TM):Bool:=decide (Znq t≤128)
theorem Zx3 {t:TM}:Zso t=true↔t.size≤8192∧t.depth≤128:=by
 unfold Zso Znq dpN;rw[decide_eq_true_eq];split<;>omega
def Zcq (k:Int):Nat:=if k=3∨k=4∨k=5 then 2 else if k=7 then 1 else 0
def Zec (k:Int):Int:=if k=3∨k=4∨k=5 then 0 else if k=2 then 7 else 1048576
def Zk4 (l:List TM):Bool:=match l with|[]=>true|t::_=>decide (t.k=2)
def Zad (k n:Int)(l:List TM):Bool:=
 decide (1≤k) && (decide (k≤8) && (decide (l.length=Zcq k) && (decide (0≤n) && (decide (n≤Zec k) && (!decide (k=7)||Zk4 l)))))
mutual
def Zg:TM→Bool
 | .node k n l=>Zad k n l && Jl l
def Jl:List TM→Bool
 | []=>true
 | t::r=>Zg t && Jl r
end
theorem Zo (k n:Int)(l:List TM):Zg (.node k n l)=(Zad k n l && Jl l):=by rw[Zg]
theorem Z6:∀l:List TM,Jl l=l.all Zg
 | []=>by rw[Jl];rfl
 | t::r=>by rw[Jl,Z6 r,List.all_cons]
theorem Zgi {l:List TM}{i:Nat}(h:i<l.length):Jl (l.take (i+1))=(Jl (l.take i) && Zg l[i]):=by
 rw[Z6,Z6,Zbc h,List.all_append];simp
theorem Zki {l:List TM}{i:Nat}(h:i<l.length)(hg:Zg l[i]=false):Jl l=false:=by
 cases e:Jl l with
 | false=>rfl
 | true=>
  rw[Z6,Qc]at e;have:=e _ (Qa h);rw[hg]at this;cases this
theorem Zg2 {l:List TM}(h:Jl l=true){i:Nat}(hi:i<l.length):Zg l[i]=true:=by
 rw[Z6,Qc]at h;exact h _ (Qa hi)
theorem Jo {k n:Int}{l:List TM}(h:Zad k n l=true):1≤k∧k≤8∧l.length=Zcq k∧0≤n∧n≤Zec k∧(k=7→Zk4 l=true):=by
 unfold Zad at h;simp only[Qe,decide_eq_true_eq,Qg,Qf,decide_eq_false_iff_not]at h;obtain⟨h1,h2,h3,h4,h5,h6⟩:=h;exact⟨h1,h2,h3,h4,h5,fun e=>h6.resolve_left (fun h=>h e)⟩
theorem Zv3 {k n:Int}{l:List TM}(h1:1≤k)(h2:k≤8)(h3:l.length=Zcq k)(h4:0≤n)(h5:n≤Zec k)(h6:k=7→Zk4 l=true):Zad k n l=true:=by
 unfold Zad;simp only[Qe,decide_eq_true_eq,Qg,Qf,decide_eq_false_iff_not];refine⟨h1,h2,h3,h4,h5, ?_⟩;by_cases e:k=7
 ·exact .inr (h6 e)
 ·exact .inl e
theorem Zl2 (k:Int):Zcq k≤2:=by unfold Zcq;split;omega;split<;>omega
def Zb (t:TM):Bool:=Zso t && Zg t
theorem Zh {t:TM}:Zb t=true↔t.size≤8192∧t.depth≤128∧Zg t=true:=by
 unfold Zb;rw[Qe,Zx3,and_assoc]
def Ztu:List (List Int):=[[0,0,0,0,0],[1048576,0,0,0,0],[7,0,0,0,0],[0,2,0,0,1],[0,2,0,0,1],[0,2,0,0,0],[1048576,0,0,0,0],[1048576,1,2,0,0],[1048576,0,0,0,0]]
def shm (k j:Nat):Int:=(Ztu.getD k []).getD j 0
def Zi (w:World):Prop:=∀i j,i<9→j<5→w.cell? ⟨0,i*5+j,none⟩=some (.int .i64 (shm i j))
theorem Zi.lt {w:World}(h:Zi w):0<w.heap.size:=Qi w _ (h 0 0 (by omega) (by omega))
theorem Zi.below {w w':World}{B:Nat}(h:Zi w)(hb:Below B w w')(hB:0<B):Zi w':=fun i j hi hj=>(hb.cell (p:=⟨0,i*5+j,none⟩) hB).trans (h i j hi hj)
theorem Zi.kept {w w':World}(h:Zi w)(hb:Below w.heap.size w w'):Zi w':=h.below hb h.lt
theorem Zp5 {K:Nat}(h1:1≤K)(h2:K≤8):K=1∨K=2∨K=3∨K=4∨K=5∨K=6∨K=7∨K=8:=by omega
theorem Z2v {K:Nat}(h1:1≤K)(h2:K≤8):shm K 0=Zec (K:Int):=by
 rcases Zp5 h1 h2 with rfl|rfl|rfl|rfl|rfl|rfl|rfl|rfl<;>rfl
theorem Z2u {K:Nat}(h1:1≤K)(h2:K≤8):shm K 1=(Zcq (K:Int):Int):=by
 rcases Zp5 h1 h2 with rfl|rfl|rfl|rfl|rfl|rfl|rfl|rfl<;>rfl
theorem Z2w {K:Nat}(h1:1≤K)(h2:K≤8):shm K 2=if K=7 then 2 else 0:=by
 rcases Zp5 h1 h2 with rfl|rfl|rfl|rfl|rfl|rfl|rfl|rfl<;>rfl
theorem Ztc (u:TM)(F:Option Addr)(C:Nat)(g:Nat)(z:Int)(w:World)(hg:w.cell? ⟨g,2,none⟩=some (.int .i64 z)):
  Calls prog 116 #[Zc u F C,.pointer (some ⟨g,0,none⟩)] w fun e w'=>e= .returned (.bool (u.k !=z))∧Below w.heap.size w w':=by
 have hlt:=Qi w _ hg;simp only at hlt;unfold Zc;go_enter func116,ntmps116;go_wp2_with fail;go_ret;exact⟨rfl,(Qh _ _).alloc Zm3 _⟩
theorem Zwz (l:List TM)(A:Option Addr)(cap lo hi g:Nat)(z:Int)(w:World)(hl:l.length≤maxLen)(hn:Zaf w lo hi A l)(hhi:hi≤w.heap.size)(hg:w.cell? ⟨g,2,none⟩=some (.int .i64 z)):
  Calls prog 70 #[.slice A l.length cap,.func (.func 116) #[] #[.pointer (some ⟨g,0,none⟩)]] w fun e w'=>∃r:Int,e= .returned (.int .i64 r)∧decide (0≤r)= !(l.all fun t=>t.k==z)∧Below w.heap.size w w':=by
 refine(Zx4 l A cap lo hi ⟨g,0,none⟩ (fun i=>Zi2 (fun t=>t.k !=z) l i) w hl hn hhi ?_).mono ?_
 ·intro i h lo hi F C w' hb hn' hhi';have hg':w'.cell? ⟨g,2,none⟩=some (.int .i64 z):=(hb.cell (p:=⟨g,2,none⟩) (Qi w _ hg)).trans hg;show Calls _ _ _ _ fun e w''=>e= .returned (.bool (Zi2 (fun t=>t.k !=z) l i))∧_
  rw[Zf7 _ h];exact Ztc _ F C g z w' hg'
 ·rintro e w' ⟨r,rfl,hr,hb⟩;refine⟨r,rfl, ?_,hb⟩;rcases hr with ⟨rfl,h⟩|⟨h0,i,hi,h⟩
  ·have:(l.all fun t=>t.k==z)=true:=by
    rw[Qc];intro t ht;obtain⟨i,hi,rfl⟩:=List.getElem_of_mem ht;have:Zi2 (fun t=>t.k !=z) l i=false:=h i hi;rw[Zf7 _ hi]at this;simpa using this
   rw[this];rfl
  ·replace h:Zi2 (fun t=>t.k !=z) l i=true:=h
   have:(l.all fun t=>t.k==z)=false:=by
    rw[List.all_eq_false];rw[Zf7 _ hi]at h;exact⟨_,Qa hi,by simpa using h⟩
   rw[this];simpa using h0
theorem Zr6 (l:List TM)(A:Option Addr)(cap lo hi g:Nat)(z:Int)(w:World)(hl:l.length≤maxLen)(hn:Zaf w lo hi A l)(hhi:hi≤w.heap.size)(hg:w.cell? ⟨g,2,none⟩=some (.int .i64 z)):
  Calls prog 40 #[.slice A l.length cap,.func (.func 116) #[] #[.pointer (some ⟨g,0,none⟩)]] w fun e w'=>e= .returned (.bool (!(l.all fun t=>t.k==z)))∧Below w.heap.size w w':=by
 have HI:=hid (Zwz l A cap lo hi g z w hl hn hhi hg);clear hn;go_enter func40,ntmps40;go_wp2_with fail;refine HI.out.mono ?_;rintro e w1 ⟨r,rfl,hr,hb⟩;go_wp2_with fail;go_ret;exact⟨by rw[←hr];rfl,hb⟩
theorem Zp1 (k n:Int)(l:List TM)(lo hi:Nat)(A:Option Addr)(cap:Nat)(w:World)(h:Za w lo hi (.node k n l) A cap)(hhi:hi≤w.heap.size)(hS:Zi w):
  Calls prog 96 #[.agg #[.int .i64 k,.int .i64 n,.slice A l.length cap]] w fun e w'=>e= .returned (.bool (Zad k n l))∧Below w.heap.size w w':=by
 obtain⟨hl,hm⟩:=h.bounds;have hW1:∀o1,Below w.heap.size w (w.alloc o1):=fun o1=>(Qh _ _).alloc Zm3 _;have HW1:=hid hW1;obtain⟨r,hr⟩:∃r,Zad k n l=r:=⟨_,rfl⟩;rw[hr];by_cases hk1:k<1
 ·have HR:Hid (r=false):=hid (by rw[←hr];unfold Zad;rw[decide_eq_false (by omega: ¬ 1≤k)];rfl);clear hr h hW1;go_enter func96,ntmps96;go_wp2_with fail;go_ret;exact⟨by rw[HR.out];rfl,HW1.out _⟩
 by_cases hk2:8<k
 ·have HR:Hid (r=false):=hid (by rw[←hr];unfold Zad;rw[decide_eq_false (by omega: ¬ k≤8)];simp);clear hr h hW1;go_enter func96,ntmps96;go_wp2_with fail;go_ret;exact⟨by rw[HR.out];rfl,HW1.out _⟩
 have EK:Hid (1≤k∧k≤8):=hid ⟨by omega,by omega⟩;obtain⟨K,rfl⟩:∃K:Nat,k=(K:Int):=⟨k.toNat,by omega⟩;have hK1:1≤K:=by omega
 have hK2:K≤8:=by omega
 have hlt:=hS.lt;have s0:=hS K 0 (by omega) (by omega);have s1:=hS K 1 (by omega) (by omega);have s2:=hS K 2 (by omega) (by omega);have s3:=hS K 3 (by omega) (by omega);have s4:=hS K 4 (by omega) (by omega);rw[Z2v hK1 hK2]at s0;rw[Z2u hK1 hK2]at s1;obtain⟨z2,hz2⟩:∃z,shm K 2=z:=⟨_,rfl⟩;rw[hz2]at s2;rw[Z2w hK1 hK2]at hz2;have HZ2:=hid hz2;clear hz2;obtain⟨z3,hz3⟩:∃z,shm K 3=z:=⟨_,rfl⟩;obtain⟨z4,hz4⟩:∃z,shm K 4=z:=⟨_,rfl⟩;obtain⟨M,hM⟩:∃M,Zec (K:Int)=M:=⟨_,rfl⟩;obtain⟨Y,hY⟩:∃Y,Zcq (K:Int)=Y:=⟨_,rfl⟩;rw[hM]at s0;rw[hY]at s1;rw[hz3]at s3;rw[hz4]at s4;rw[Nat.add_zero]at s0;have HM:=hid hM;have HY:=hid hY;have HH:=hid h;have HRR:=hid hr;have hKi:(0:Int)≤(K:Int):=by omega
 have hKi9:(K:Int)<9:=by omega
 have d1:decide ((K:Int)<1)=false:=decide_eq_false (by omega);have d2:decide ((8:Int)<(K:Int))=false:=decide_eq_false (by omega);clear hz3 hz4 hM hY h hr hk1 hk2 hS hW1;have hfail: ¬ (l.length=Y∧0≤n∧n≤M)→r=false:=fun hn=>by
  rw[←HRR.out];cases e:Zad (K:Int) n l with
  | false=>rfl
  | true=>
   obtain⟨_,_,h3,h4,h5,_⟩:=Jo e;exact(hn ⟨by rw[←HY.out];exact h3,h4,by rw[←HM.out];exact h5⟩).elim
 have HF:=hid hfail;clear hfail;have HW2:=hid (fun o1 o2=>((Qh w.heap.size w).alloc Zm3 o1).alloc (by simp) o2);have HCON:=hid (fun W h1 h2 h3=>Zr6 l A cap lo hi (w.heap.size+1) 2 W (by omega) h1 h2 h3);have HSUB:=hid (fun W (hb:Below w.heap.size w W)=>(show Zaf W lo hi A l from fun i hi'=>(HH.out.sub i hi').kept hb hhi));by_cases hn0:n<0
 ·have HR:Hid (r=false):=hid (HF.out (by omega));have e0:decide (n<0)=true:=decide_eq_true hn0;clear hn0;go_enter func96,ntmps96;go_wp2_with fail;go_ret;exact⟨by rw[HR.out];rfl,HW2.out _ _⟩
 have e0:decide (n<0)=false:=decide_eq_false hn0;by_cases hn1:M<n
 ·have HR:Hid (r=false):=hid (HF.out (by omega));have e1:decide (M<n)=true:=decide_eq_true hn1;clear hn0 hn1;go_enter func96,ntmps96;go_wp2_with fail;go_ret;exact⟨by rw[HR.out];rfl,HW2.out _ _⟩
 have e1:decide (M<n)=false:=decide_eq_false hn1;by_cases hn2:l.length=Y
 case neg=>
  have HR:Hid (r=false):=hid (HF.out (fun h=>hn2 h.1));have e2:((l.length:Int) !=(Y:Int))=true:=by simp;omega
  clear hn0 hn1 hn2;go_enter func96,ntmps96;go_wp2_with fail;go_ret;exact⟨by rw[HR.out];rfl,HW2.out _ _⟩
 have e2:((l.length:Int) !=(Y:Int))=false:=by simp;omega
 have HN:Hid (0≤n∧n≤M∧l.length=Y):=hid ⟨by omega,by omega,hn2⟩;clear hn0 hn1 hn2;by_cases h7:K=7
 ·subst h7;have HR:Hid (r=l.all fun t=>t.k==2):=hid (by
   have hY1:Y=1:=by rw[←HY.out];rfl
   have hl1:l.length=1:=by have:=HN.out.2.2;omega
   obtain⟨t,rfl⟩:∃t,l=[t]:=List.length_eq_one_iff.1 hl1;have e:(r:Bool)=decide (t.k=2):=by
    rw[←HRR.out];unfold Zad Zk4;have h1:([t]:List TM).length=Zcq ((7:Nat):Int):=rfl;have h2:n≤Zec ((7:Nat):Int):=by rw[HM.out];exact HN.out.2.1
    rw[decide_eq_true (by omega:(1:Int)≤((7:Nat):Int)),decide_eq_true (by omega:((7:Nat):Int)≤8),decide_eq_true h1,decide_eq_true HN.out.1,decide_eq_true h2];simp
   rw[e];by_cases e2:t.k=2<;>simp[e2])
  obtain rfl:z2=2:=HZ2.out.symm;obtain⟨v,hv⟩:∃v,(l.all fun t=>t.k==2)=v:=⟨_,rfl⟩;rw[hv]at HR HCON;clear hv HF HRR HH;go_enter func96,ntmps96;go_wp2_with fail;refine(HCON.out _ (HSUB.out _ (HW2.out _ _)) (by simp;omega) (by simp)).mono ?_;rintro e w1 ⟨rfl,hb1⟩;go_wp2_with fail;go_ret;exact⟨by rw[HR.out];simp,(HW2.out _ _).trans (hb1.mono (by simp;omega))⟩
 ·have HR:Hid (r=true):=hid (by
   rw[←HRR.out];exact Zv3 (by omega) (by omega) (by rw[HY.out];exact HN.out.2.2) HN.out.1 (by rw[HM.out];exact HN.out.2.1) (fun e=>(h7 (by omega)).elim))
  have hz:=HZ2.out;rw[if_neg h7]at hz;subst hz;clear h7 HF HRR HH HCON;go_enter func96,ntmps96;go_wp2_with fail;go_ret;exact⟨by rw[HR.out];rfl,HW2.out _ _⟩
def Zfm (t:TM)(n d:Nat):Prop:=Zg t=true∧t.size≤n∧t.depth≤d
instance (t:TM) (n d:Nat):Decidable (Zfm t n d):=by unfold Zfm;exact inferInstance
def Zjz (t:TM)(n d:Nat):Int:=if Zfm t n d then((n - t.size:Nat):Int)else -1
theorem Zl8 {t:TM}{n d:Nat}(h:Zfm t n d):Zjz t n d=((n - t.size:Nat):Int):=if_pos h
theorem Znm {t:TM}{n d:Nat}(h: ¬ Zfm t n d):Zjz t n d= -1:=if_neg h
def Z00 (w:World)(l:List TM)(n d:Nat)(nv iv:Value)(wr:World):Prop:=
 ∃i m:Nat,i≤l.length∧iv= .int .i64 i∧nv= .int .i64 (m:Int)∧m≤8192∧Below w.heap.size w wr∧Hid (m+Ja (l.take i)+1=n∧Jl (l.take i)=true∧Jm (l.take i)+1≤d)
theorem Z0d:∀(t:TM) (n d lo hi:Nat) (A:Option Addr) (cap:Nat) (w:World),Za w lo hi t A cap→hi≤w.heap.size→Zi w→n≤8192→d≤128→
  Calls prog 71 #[Zc t A cap,.int .i64 (n:Int),.int .i64 (d:Int)] w fun e w'=>e= .returned (.int .i64 (Zjz t n d))∧Below w.heap.size w w':=by
 intro t;induction t using TM.ind with
 | h k v l ih=>
  intro n d lo hi A cap w h hhi hS hn hd;obtain⟨hl,hm⟩:=h.bounds;have IH:=hid ih;have HN:=hid h.sub;have HFO:=hid (fun W h1 h2 h3=>Zp1 k v l lo hi A cap W h1 h2 h3);have HHI:=hid (fun W (hb:Below w.heap.size w W)=>h.kept hb hhi);have HSS:=hid (fun W (hb:Below w.heap.size w W)=>hS.kept hb);unfold maxLen at hm;rw[Jk];obtain⟨r,hr⟩:∃r,Zjz (.node k v l) n d=r:=⟨_,rfl⟩;rw[hr];have hfi:Zfm (.node k v l) n d↔(Zad k v l=true∧Jl l=true)∧Ja l+1≤n∧Jm l+1≤d:=by
   unfold Zfm;rw[Zo,J6,J0,Qe]
  have hno: ¬ ((Zad k v l=true∧Jl l=true)∧Ja l+1≤n∧Jm l+1≤d)→r= -1:=fun e=>by rw[←hr];exact Znm (fun h=>e (hfi.1 h))
  have hyes:(Zad k v l=true∧Jl l=true)∧Ja l+1≤n∧Jm l+1≤d→r=((n - (Ja l+1):Nat):Int):=fun e=>by rw[←hr,Zl8 (hfi.2 e),J6]
  have HNO:=hid hno;have HYES:=hid hyes;have HW1:=hid (fun o1=>((Qh w.heap.size w).alloc Zm3 o1));clear ih h hS hr hfi hno hyes;by_cases hn0:n=0
  ·have HR:Hid (r= -1):=hid (HNO.out (by omega));subst hn0;clear IH HN hn hd;go_enter func71,ntmps71;go_wp2_with fail;go_ret;exact⟨by rw[HR.out];rfl,HW1.out _⟩
  have e0:((n:Int)==0)=false:=by simpa using hn0
  by_cases hd0:d=0
  ·have HR:Hid (r= -1):=hid (HNO.out (by omega));subst hd0;clear IH HN hn hd;go_enter func71,ntmps71;go_wp2_with fail;go_ret;exact⟨by rw[HR.out];rfl,HW1.out _⟩
  have e1:((d:Int)==0)=false:=by simpa using hd0
  obtain⟨x,hx⟩:∃x,Zad k v l=x:=⟨_,rfl⟩;rw[hx]at HFO HNO HYES;clear hx;cases x with
  | false=>
   have HR:Hid (r= -1):=hid (HNO.out (by simp));clear IH HN hn hd;go_enter func71,ntmps71;go_wp2_with fail;refine(HFO.out _ (HHI.out _ (HW1.out _)) (by simp;omega) (HSS.out _ (HW1.out _))).mono ?_;rintro e w1 ⟨rfl,hb1⟩;go_wp2_with fail;go_ret;exact⟨by rw[HR.out];rfl,(HW1.out _).trans (hb1.mono (by simp))⟩
  | true=>
  have HBN:Hid (n≤8192∧d≤128∧0<n∧0<d):=hid ⟨hn,hd,by omega,by omega⟩;have hn1:(1:Int)≤(n:Int):=by omega
  have hn2:(n:Int)≤8192:=by omega
  have hd1:(1:Int)≤(d:Int):=by omega
  have hd2:(d:Int)≤128:=by omega
  clear hn hd hn0 hd0;go_enter func71,ntmps71;go_wp2_with fail;refine(HFO.out _ (HHI.out _ (HW1.out _)) (by simp;omega) (HSS.out _ (HW1.out _))).mono ?_;rintro e w1 ⟨rfl,hb1⟩;have hz1:=hb1.size;simp at hz1;have hcell:=fun p hp=>hb1.cell (p:=p) hp;have HB1:=hid ((HW1.out _).trans (hb1.mono (by simp)));clear hb1;go_wp2_with fail;go_loopw [1,25] (Z00 w l n d) (fun _ iv _=>l.length - (intOf iv).toNat)
  case atStart=>
   refine⟨0,n - 1,Nat.zero_le _,rfl,Zk6 (by have:=HBN.out;omega),by have:=HBN.out;omega,HB1.out,hid ⟨?_, ?_, ?_⟩⟩
   ·rw[Qb,Zdd];have:=HBN.out;omega
   ·rw[Qb,Z6];rfl
   ·rw[Qb,Zep];have:=HBN.out;omega
  case round=>
   obtain⟨i,m,hi1,rfl,rfl,hm9,hB,HINV⟩:=hrel;have hz:=hB.size;clear hcell;by_cases hil:i<l.length
   ·obtain⟨b,o,F,C,rfl,hb1,hb2,hx,hnode⟩:=(HN.out i hil).kept hB hhi;obtain⟨x0,x1,x2⟩:=hx;have hmem:l[i]∈l:=Qa hil;have hs1:=Zex hil;have hd3:=Zd6 hil;have hg1:=Zgi hil;have hIH:=IH.out l[i] hmem m (d - 1) lo hi F C;have hdd:((d - 1:Nat):Int)=(d:Int) - 1:=by have:=HBN.out;omega
    rw[hdd]at hIH;have hgood:Zfm l[i] m (d - 1)→Hid (m - l[i].size+Ja (l.take (i+1))+1=n∧Jl (l.take (i+1))=true∧Jm (l.take (i+1))+1≤d):=fun e=>by
     obtain⟨g1,g2,g3⟩:=HINV.out;obtain⟨f1,f2,f3⟩:=e;have:=HBN.out;exact hid ⟨by rw[hs1];omega,by rw[hg1,g2,f1];rfl,by rw[hd3];omega⟩
    have hbad: ¬ Zfm l[i] m (d - 1)→r= -1:=fun e=>HNO.out (by
     rintro⟨⟨_,f1⟩,f2,f3⟩;obtain⟨g1,g2,g3⟩:=HINV.out;refine e ⟨Zg2 f1 hil, ?_, ?_⟩
     ·have:=Zca l (i+1);omega
     ·have h1:Jm (l.take (i+1))≤Jm l:=by
       have:=Zbl (l.take (i+1)) (l.drop (i+1));rw[List.take_append_drop]at this;omega
      omega)
    obtain⟨q,hq⟩:∃q,Zjz l[i] m (d - 1)=q:=⟨_,rfl⟩;rw[hq]at hIH;have HC:=hid hIH;have HG:=hid hgood;have HBAD:=hid hbad;by_cases hf:Zfm l[i] m (d - 1)
    ·obtain⟨m',hm'⟩:∃m',m - l[i].size=m':=⟨_,rfl⟩;have HI2:=hid (HG.out hf);rw[Zl8 hf,hm']at hq;rw[hm']at HI2;subst hq;have hm2:m'≤8192:=by omega
     have e2:decide ((m':Int)<0)=false:=decide_eq_false (by omega);clear HINV hIH hgood hbad HG HBAD hf hm' hs1 hd3 hg1 hmem HN IH HNO HYES;go_wp2_with fail;refine(HC.out _ (hnode.alloc (by omega) _) (by simp;omega) (HSS.out _ (hB.alloc hz _)) hm9 (by have:=HBN.out;omega)).mono ?_;rintro e w2 ⟨rfl,hb2'⟩;have HB2:=hid ((hB.alloc hz _).trans (hb2'.mono (by simp;omega)));clear hb2';go_wp2_with fail;go_roundw
     case rel=>exact⟨i+1,m',by omega,rfl,rfl,hm2,HB2.out,HI2.out⟩
     case measure=>simp[intOf];omega
    ·have HR:Hid (r= -1):=hid (HBAD.out hf);rw[Znm hf]at hq;subst hq;clear HINV hIH hgood hbad HG HBAD hf hs1 hd3 hg1 hmem HN IH HNO HYES;go_wp2_with fail;refine(HC.out _ (hnode.alloc (by omega) _) (by simp;omega) (HSS.out _ (hB.alloc hz _)) hm9 (by have:=HBN.out;omega)).mono ?_;rintro e w2 ⟨rfl,hb2'⟩;have HB2:=hid ((hB.alloc hz _).trans (hb2'.mono (by simp;omega)));clear hb2';go_wp2_with fail;go_ret;exact⟨by rw[HR.out];rfl,HB2.out⟩
   ·obtain rfl:i=l.length:=by omega
    have HR:Hid (r=(m:Int)):=hid (by
     obtain⟨g1,g2,g3⟩:=HINV.out;rw[Qd]at g1 g2 g3;rw[HYES.out ⟨⟨by trivial,g2⟩,by omega,g3⟩];omega)
    clear HINV HN IH HNO HYES;go_wp2_with fail;go_ret;exact⟨by rw[HR.out];rfl,hB⟩
theorem Ztv (t:TM):decide (0≤Zjz t 8192 128)=Zb t:=by
 by_cases h:Zfm t 8192 128
 ·rw[Zl8 h,Zh.2 ⟨h.2.1,h.2.2,h.1⟩];exact decide_eq_true (by omega)
 ·have:Zb t=false:=by
   cases e:Zb t with
   | false=>rfl
   | true=>obtain⟨h1,h2,h3⟩:=Zh.1 e;exact(h ⟨h3,h1,h2⟩).elim
  rw[Znm h,this];rfl
theorem Za2 (t:TM)(lo hi:Nat)(A:Option Addr)(cap:Nat)(w:World)(h:Za w lo hi t A cap)(hhi:hi≤w.heap.size)(hS:Zi w):
  Calls prog 42 #[Zc t A cap] w fun e w'=>e= .returned (.bool (Zb t))∧Below w.heap.size w w':=by
 have HC:=hid (fun W h1 h2 h3=>Z0d t 8192 128 lo hi A cap W h1 h2 h3 (by omega) (by omega));rw[←Ztv];obtain⟨z,hz⟩:∃z,Zjz t 8192 128=z:=⟨_,rfl⟩;rw[hz]at HC⊢;unfold Zc at HC⊢;have hS1:=fun o=>hS.kept ((Qh w.heap.size w).alloc Zm3 o);have HS1:=hid hS1;clear hz hS hS1;go_enter func42,ntmps42;go_wp2_with fail;refine(HC.out _ (h.alloc hhi _) (by simp;omega) (HS1.out _)).mono ?_;rintro e w1 ⟨rfl,hb1⟩;go_wp2_with fail;go_ret;exact⟨rfl,((Qh _ _).alloc Zm3 _).trans (hb1.mono (by simp))⟩
