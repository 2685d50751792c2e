import Derived.Test.YtinlmmaokphhbaaGreatDoorM2
import Derived.Test.YtinlmmaokphhbaaGreatDoorM6
namespace Go.Proofs.YtinlmmaokphhbaaGreatDoor
set_option maxHeartbeats 2000000
set_option maxRecDepth 100000
open Go.RowKit
set_option linter.unusedVariables false
open Lib(hid)
open Go.Proofs.Tryz
open _root_.List renaming take_zero→Qa,eq_nil_of_length_eq_zero→Qb,take_length→Qc,getElem_mem→Qd
open _root_.Nat renaming zero_le→Qe,lt_of_lt_of_le→Qf
open Go.RowKit.Below renaming refl→Qg
open _root_.Bool renaming true_and→Qh
theorem Zaz{p:Prop}[Decidable p](h:¬p):decide p=false:=decide_eq_false h
theorem J9{p:Prop}[Decidable p](h:p):decide p=true:=decide_eq_true h
theorem Zdk{n:Nat}:n≤n:=Nat.le_refl n
def Zbm (k:Int):Prop:=k=1∨k=2∨k=3∨k=4∨k=5∨k=6∨k=7∨k=8
theorem Zd3 {k n:Int}{l:List TM}(hk:Zbm k)(h3:l.length=Zcq k)(h4:0≤n)(h5:n≤Zec k):Zad k n l=(!decide (k=7)||Zk4 l):=by
 have h1:1≤k:=by unfold Zbm at hk;omega
 have h2:k≤8:=by unfold Zbm at hk;omega
 unfold Zad;rw[J9 h1,J9 h2,J9 h3,J9 h4,J9 h5];simp
theorem Z35 (n:Int)(l:List TM)(ih:∀t∈l,∀(lo hi:Nat) (A:Option Addr) (cap:Nat) (w:World),Za w lo hi t A cap→hi≤w.heap.size→
      Calls prog 38 #[Zc t A cap] w fun e w'=>e= .returned (.bool (Zg t))∧Below w.heap.size w w')
    (lo hi:Nat) (A:Option Addr) (cap:Nat) (w:World) (h:Za w lo hi (.node 1 n l) A cap) (hhi:hi≤w.heap.size):
    Calls prog 38 #[.agg #[.int .i64 1,.int .i64 n,.slice A l.length cap]] w fun e w'=>e= .returned (.bool (Zg (.node 1 n l)))∧Below w.heap.size w w':=by
  obtain⟨hl,hm⟩:=h.bounds;have IH:=hid ih;have HN:Hid (Zaf w lo hi A l):=hid (h.sub);unfold maxLen at hm;clear ih h;obtain⟨r,hr⟩:∃r,Zg (.node 1 n l)=r:=⟨_,rfl⟩;rw[hr];have HG:=hid hr;clear hr;have topF: ¬ (l.length=0∧0≤n∧n≤1048576)→r=false:=fun hx=>by
    rw[←HG.out,Zo];cases e:Zad 1 n l with
    | false=>rfl
    | true=>
      obtain⟨_,_,h3,h4,h5,_⟩:=Jo e;exact(hx ⟨h3,h4,h5⟩).elim
  have TOP:=hid topF;clear topF;have HW1:=hid (fun o1=>(Qg w.heap.size w).alloc Zdk o1);by_cases hlen:l.length=0
  case neg=>
    have HR:=hid (TOP.out (fun h=>hlen h.1));have e0:((l.length:Int) !=0)=true:=by rw[bne_iff_ne];omega
    clear hlen HN IH;go_enter func38,ntmps38;go_wp2_with fail;go_ret;exact⟨by rw[HR.out];rfl,HW1.out _⟩
  have e0:((l.length:Int) !=0)=false:=by rw[show(l.length:Int)=0 by omega];rfl
  by_cases hn0:n<0
  · have HR:=hid (TOP.out (by omega));have e1:decide (n<0)=true:=J9 hn0;clear hlen hn0 HN IH;go_enter func38,ntmps38;go_wp2_with fail;go_ret;exact⟨by rw[HR.out];rfl,HW1.out _⟩
  have e1:decide (n<0)=false:=Zaz hn0;by_cases hn1:1048576<n
  · have HR:=hid (TOP.out (by omega));have e2:decide ((1048576:Int)<n)=true:=J9 hn1;clear hlen hn0 hn1 HN IH;go_enter func38,ntmps38;go_wp2_with fail;go_ret;exact⟨by rw[HR.out];rfl,HW1.out _⟩
  have e2:decide ((1048576:Int)<n)=false:=Zaz hn1;have HR:Hid (r=Jl l):=hid (by
    rw[←HG.out,Zo,Zd3 (by unfold Zbm;omega) hlen (by omega) (show n≤1048576 by omega)];simp)
  have HLEN:=hid hlen;clear hlen hn0 hn1 TOP HG;go_enter func38,ntmps38;go_wp2_with fail;go_loopw [5] (fun iv wr=>∃i:Nat,i≤l.length∧iv= .int .i64 i∧Below w.heap.size w wr∧wr.cell? ⟨w.heap.size,2,none⟩=some (.slice A l.length cap)∧w.heap.size<wr.heap.size∧Hid (Jl (l.take i)=true))
    (fun iv _=>l.length - (intOf iv).toNat)
  case atStart=>exact⟨0,Qe _,rfl,HW1.out _,by simp,by simp,hid (by rw[Qa,Z6];rfl)⟩
  case round=>
    obtain⟨i,hi1,rfl,hB,y2,hlt,HGL⟩:=hrel;obtain rfl:i=0:=by have:=HLEN.out;omega
    have HE:=hid (show l=[]from Qb HLEN.out);go_wp2_with fail;go_ret;exact⟨by rw[HR.out,HE.out,Z6];rfl,hB⟩
theorem Z36 (n:Int)(l:List TM)(ih:∀t∈l,∀(lo hi:Nat) (A:Option Addr) (cap:Nat) (w:World),Za w lo hi t A cap→hi≤w.heap.size→
      Calls prog 38 #[Zc t A cap] w fun e w'=>e= .returned (.bool (Zg t))∧Below w.heap.size w w')
    (lo hi:Nat) (A:Option Addr) (cap:Nat) (w:World) (h:Za w lo hi (.node 2 n l) A cap) (hhi:hi≤w.heap.size):
    Calls prog 38 #[.agg #[.int .i64 2,.int .i64 n,.slice A l.length cap]] w fun e w'=>e= .returned (.bool (Zg (.node 2 n l)))∧Below w.heap.size w w':=by
  obtain⟨hl,hm⟩:=h.bounds;have IH:=hid ih;have HN:Hid (Zaf w lo hi A l):=hid (h.sub);unfold maxLen at hm;clear ih h;obtain⟨r,hr⟩:∃r,Zg (.node 2 n l)=r:=⟨_,rfl⟩;rw[hr];have HG:=hid hr;clear hr;have topF: ¬ (l.length=0∧0≤n∧n≤7)→r=false:=fun hx=>by
    rw[←HG.out,Zo];cases e:Zad 2 n l with
    | false=>rfl
    | true=>
      obtain⟨_,_,h3,h4,h5,_⟩:=Jo e;exact(hx ⟨h3,h4,h5⟩).elim
  have TOP:=hid topF;clear topF;have HW1:=hid (fun o1=>(Qg w.heap.size w).alloc Zdk o1);by_cases hlen:l.length=0
  case neg=>
    have HR:=hid (TOP.out (fun h=>hlen h.1));have e0:((l.length:Int) !=0)=true:=by rw[bne_iff_ne];omega
    clear hlen HN IH;go_enter func38,ntmps38;go_wp2_with fail;go_ret;exact⟨by rw[HR.out];rfl,HW1.out _⟩
  have e0:((l.length:Int) !=0)=false:=by rw[show(l.length:Int)=0 by omega];rfl
  by_cases hn0:n<0
  · have HR:=hid (TOP.out (by omega));have e1:decide (n<0)=true:=J9 hn0;clear hlen hn0 HN IH;go_enter func38,ntmps38;go_wp2_with fail;go_ret;exact⟨by rw[HR.out];rfl,HW1.out _⟩
  have e1:decide (n<0)=false:=Zaz hn0;by_cases hn1:7<n
  · have HR:=hid (TOP.out (by omega));have e2:decide ((7:Int)<n)=true:=J9 hn1;clear hlen hn0 hn1 HN IH;go_enter func38,ntmps38;go_wp2_with fail;go_ret;exact⟨by rw[HR.out];rfl,HW1.out _⟩
  have e2:decide ((7:Int)<n)=false:=Zaz hn1;have HR:Hid (r=Jl l):=hid (by
    rw[←HG.out,Zo,Zd3 (by unfold Zbm;omega) hlen (by omega) (show n≤7 by omega)];simp)
  have HLEN:=hid hlen;clear hlen hn0 hn1 TOP HG;go_enter func38,ntmps38;go_wp2_with fail;go_loopw [5] (fun iv wr=>∃i:Nat,i≤l.length∧iv= .int .i64 i∧Below w.heap.size w wr∧wr.cell? ⟨w.heap.size,2,none⟩=some (.slice A l.length cap)∧w.heap.size<wr.heap.size∧Hid (Jl (l.take i)=true))
    (fun iv _=>l.length - (intOf iv).toNat)
  case atStart=>exact⟨0,Qe _,rfl,HW1.out _,by simp,by simp,hid (by rw[Qa,Z6];rfl)⟩
  case round=>
    obtain⟨i,hi1,rfl,hB,y2,hlt,HGL⟩:=hrel;obtain rfl:i=0:=by have:=HLEN.out;omega
    have HE:=hid (show l=[]from Qb HLEN.out);go_wp2_with fail;go_ret;exact⟨by rw[HR.out,HE.out,Z6];rfl,hB⟩
theorem Z37 (n:Int)(l:List TM)(ih:∀t∈l,∀(lo hi:Nat) (A:Option Addr) (cap:Nat) (w:World),Za w lo hi t A cap→hi≤w.heap.size→
      Calls prog 38 #[Zc t A cap] w fun e w'=>e= .returned (.bool (Zg t))∧Below w.heap.size w w')
    (lo hi:Nat) (A:Option Addr) (cap:Nat) (w:World) (h:Za w lo hi (.node 3 n l) A cap) (hhi:hi≤w.heap.size):
    Calls prog 38 #[.agg #[.int .i64 3,.int .i64 n,.slice A l.length cap]] w fun e w'=>e= .returned (.bool (Zg (.node 3 n l)))∧Below w.heap.size w w':=by
  obtain⟨hl,hm⟩:=h.bounds;have IH:=hid ih;have HN:Hid (Zaf w lo hi A l):=hid (h.sub);unfold maxLen at hm;clear ih h;obtain⟨r,hr⟩:∃r,Zg (.node 3 n l)=r:=⟨_,rfl⟩;rw[hr];have HG:=hid hr;clear hr;have topF: ¬ (l.length=2∧0≤n∧n≤0)→r=false:=fun hx=>by
    rw[←HG.out,Zo];cases e:Zad 3 n l with
    | false=>rfl
    | true=>
      obtain⟨_,_,h3,h4,h5,_⟩:=Jo e;exact(hx ⟨h3,h4,h5⟩).elim
  have TOP:=hid topF;clear topF;have HW1:=hid (fun o1=>(Qg w.heap.size w).alloc Zdk o1);by_cases hlen:l.length=2
  case neg=>
    have HR:=hid (TOP.out (fun h=>hlen h.1));have e0:((l.length:Int) !=2)=true:=by rw[bne_iff_ne];omega
    clear hlen HN IH;go_enter func38,ntmps38;go_wp2_with fail;go_ret;exact⟨by rw[HR.out];rfl,HW1.out _⟩
  have e0:((l.length:Int) !=2)=false:=by rw[show(l.length:Int)=2 by omega];rfl
  by_cases hn0:n<0
  · have HR:=hid (TOP.out (by omega));have e1:decide (n<0)=true:=J9 hn0;clear hlen hn0 HN IH;go_enter func38,ntmps38;go_wp2_with fail;go_ret;exact⟨by rw[HR.out];rfl,HW1.out _⟩
  have e1:decide (n<0)=false:=Zaz hn0;by_cases hn1:0<n
  · have HR:=hid (TOP.out (by omega));have e2:decide ((0:Int)<n)=true:=J9 hn1;clear hlen hn0 hn1 HN IH;go_enter func38,ntmps38;go_wp2_with fail;go_ret;exact⟨by rw[HR.out];rfl,HW1.out _⟩
  have e2:decide ((0:Int)<n)=false:=Zaz hn1;have HR:Hid (r=Jl l):=hid (by
    rw[←HG.out,Zo,Zd3 (by unfold Zbm;omega) hlen (by omega) (show n≤0 by omega)];simp)
  have HLEN:=hid hlen;clear hlen hn0 hn1 TOP HG;go_enter func38,ntmps38;go_wp2_with fail;go_loopw [5] (fun iv wr=>∃i:Nat,i≤l.length∧iv= .int .i64 i∧Below w.heap.size w wr∧wr.cell? ⟨w.heap.size,2,none⟩=some (.slice A l.length cap)∧w.heap.size<wr.heap.size∧Hid (Jl (l.take i)=true))
    (fun iv _=>l.length - (intOf iv).toNat)
  case atStart=>exact⟨0,Qe _,rfl,HW1.out _,by simp,by simp,hid (by rw[Qa,Z6];rfl)⟩
  case round=>
    obtain⟨i,hi1,rfl,hB,y2,hlt,HGL⟩:=hrel;have hz:=hB.size;by_cases hil:i<l.length
    · obtain⟨b,o,F,C,hA,hb1,hb2,hx,hnode⟩:=(HN.out i hil).kept hB hhi;subst hA;obtain⟨x0,x1,x2⟩:=hx;have hIH:=IH.out l[i] (Qd hil) lo hi F C;have hgt:=Zgi hil;have hno:=fun hg=>Zki hil hg;obtain⟨v,hv⟩:∃v,Zg l[i]=v:=⟨_,rfl⟩;rw[hv,HGL.out,Qh]at hgt;rw[hv]at hIH hno;have HGT:=hid hgt;have HNO:=hid hno;have HC:=hid hIH;have hi2:(i:Int)<2:=by have:=HLEN.out;omega
      have hi3:i<2:=by have:=HLEN.out;omega
      have hi4:(i:Int)<(l.length:Int):=by omega
      clear hgt hno hIH hv IH HN;cases v with
      | true=>
        go_wp2_with fail;refine(HC.out _ hnode (by omega)).mono ?_;rintro e w2 ⟨rfl,hb2'⟩;have hy2:=(hb2'.cell (p:=⟨w.heap.size,2,none⟩) hlt).trans y2;have HB2:=hid (hB.trans (hb2'.mono hz));have hlt2:=Qf hlt hb2'.size;clear hb2';go_wp2_with fail;go_roundw
        case rel=>exact⟨i+1,by omega,rfl,HB2.out,hy2,hlt2,HGT⟩
        case measure=>simp[intOf];omega
      | false=>
        have HR2:=hid (HNO.out rfl);go_wp2_with fail;refine(HC.out _ hnode (by omega)).mono ?_;rintro e w2 ⟨rfl,hb2'⟩;go_wp2_with fail;go_ret;exact⟨by rw[HR.out,HR2.out];rfl,hB.trans (hb2'.mono hz)⟩
    · obtain rfl:i=l.length:=by omega
      have hi2: ¬ (l.length:Int)<2:=by have:=HLEN.out;omega
      have hi3: ¬ l.length<2:=by have:=HLEN.out;omega
      have HGL2:Hid (Jl l=true):=hid (by have:=HGL.out;rw[Qc]at this;exact this);clear HN IH HGL;go_wp2_with fail;go_ret;exact⟨by rw[HR.out,HGL2.out];rfl,hB⟩
theorem Z38 (n:Int)(l:List TM)(ih:∀t∈l,∀(lo hi:Nat) (A:Option Addr) (cap:Nat) (w:World),Za w lo hi t A cap→hi≤w.heap.size→
      Calls prog 38 #[Zc t A cap] w fun e w'=>e= .returned (.bool (Zg t))∧Below w.heap.size w w')
    (lo hi:Nat) (A:Option Addr) (cap:Nat) (w:World) (h:Za w lo hi (.node 4 n l) A cap) (hhi:hi≤w.heap.size):
    Calls prog 38 #[.agg #[.int .i64 4,.int .i64 n,.slice A l.length cap]] w fun e w'=>e= .returned (.bool (Zg (.node 4 n l)))∧Below w.heap.size w w':=by
  obtain⟨hl,hm⟩:=h.bounds;have IH:=hid ih;have HN:Hid (Zaf w lo hi A l):=hid (h.sub);unfold maxLen at hm;clear ih h;obtain⟨r,hr⟩:∃r,Zg (.node 4 n l)=r:=⟨_,rfl⟩;rw[hr];have HG:=hid hr;clear hr;have topF: ¬ (l.length=2∧0≤n∧n≤0)→r=false:=fun hx=>by
    rw[←HG.out,Zo];cases e:Zad 4 n l with
    | false=>rfl
    | true=>
      obtain⟨_,_,h3,h4,h5,_⟩:=Jo e;exact(hx ⟨h3,h4,h5⟩).elim
  have TOP:=hid topF;clear topF;have HW1:=hid (fun o1=>(Qg w.heap.size w).alloc Zdk o1);by_cases hlen:l.length=2
  case neg=>
    have HR:=hid (TOP.out (fun h=>hlen h.1));have e0:((l.length:Int) !=2)=true:=by rw[bne_iff_ne];omega
    clear hlen HN IH;go_enter func38,ntmps38;go_wp2_with fail;go_ret;exact⟨by rw[HR.out];rfl,HW1.out _⟩
  have e0:((l.length:Int) !=2)=false:=by rw[show(l.length:Int)=2 by omega];rfl
  by_cases hn0:n<0
  · have HR:=hid (TOP.out (by omega));have e1:decide (n<0)=true:=J9 hn0;clear hlen hn0 HN IH;go_enter func38,ntmps38;go_wp2_with fail;go_ret;exact⟨by rw[HR.out];rfl,HW1.out _⟩
  have e1:decide (n<0)=false:=Zaz hn0;by_cases hn1:0<n
  · have HR:=hid (TOP.out (by omega));have e2:decide ((0:Int)<n)=true:=J9 hn1;clear hlen hn0 hn1 HN IH;go_enter func38,ntmps38;go_wp2_with fail;go_ret;exact⟨by rw[HR.out];rfl,HW1.out _⟩
  have e2:decide ((0:Int)<n)=false:=Zaz hn1;have HR:Hid (r=Jl l):=hid (by
    rw[←HG.out,Zo,Zd3 (by unfold Zbm;omega) hlen (by omega) (show n≤0 by omega)];simp)
  have HLEN:=hid hlen;clear hlen hn0 hn1 TOP HG;go_enter func38,ntmps38;go_wp2_with fail;go_loopw [5] (fun iv wr=>∃i:Nat,i≤l.length∧iv= .int .i64 i∧Below w.heap.size w wr∧wr.cell? ⟨w.heap.size,2,none⟩=some (.slice A l.length cap)∧w.heap.size<wr.heap.size∧Hid (Jl (l.take i)=true))
    (fun iv _=>l.length - (intOf iv).toNat)
  case atStart=>exact⟨0,Qe _,rfl,HW1.out _,by simp,by simp,hid (by rw[Qa,Z6];rfl)⟩
  case round=>
    obtain⟨i,hi1,rfl,hB,y2,hlt,HGL⟩:=hrel;have hz:=hB.size;by_cases hil:i<l.length
    · obtain⟨b,o,F,C,hA,hb1,hb2,hx,hnode⟩:=(HN.out i hil).kept hB hhi;subst hA;obtain⟨x0,x1,x2⟩:=hx;have hIH:=IH.out l[i] (Qd hil) lo hi F C;have hgt:=Zgi hil;have hno:=fun hg=>Zki hil hg;obtain⟨v,hv⟩:∃v,Zg l[i]=v:=⟨_,rfl⟩;rw[hv,HGL.out,Qh]at hgt;rw[hv]at hIH hno;have HGT:=hid hgt;have HNO:=hid hno;have HC:=hid hIH;have hi2:(i:Int)<2:=by have:=HLEN.out;omega
      have hi3:i<2:=by have:=HLEN.out;omega
      have hi4:(i:Int)<(l.length:Int):=by omega
      clear hgt hno hIH hv IH HN;cases v with
      | true=>
        go_wp2_with fail;refine(HC.out _ hnode (by omega)).mono ?_;rintro e w2 ⟨rfl,hb2'⟩;have hy2:=(hb2'.cell (p:=⟨w.heap.size,2,none⟩) hlt).trans y2;have HB2:=hid (hB.trans (hb2'.mono hz));have hlt2:=Qf hlt hb2'.size;clear hb2';go_wp2_with fail;go_roundw
        case rel=>exact⟨i+1,by omega,rfl,HB2.out,hy2,hlt2,HGT⟩
        case measure=>simp[intOf];omega
      | false=>
        have HR2:=hid (HNO.out rfl);go_wp2_with fail;refine(HC.out _ hnode (by omega)).mono ?_;rintro e w2 ⟨rfl,hb2'⟩;go_wp2_with fail;go_ret;exact⟨by rw[HR.out,HR2.out];rfl,hB.trans (hb2'.mono hz)⟩
    · obtain rfl:i=l.length:=by omega
      have hi2: ¬ (l.length:Int)<2:=by have:=HLEN.out;omega
      have hi3: ¬ l.length<2:=by have:=HLEN.out;omega
      have HGL2:Hid (Jl l=true):=hid (by have:=HGL.out;rw[Qc]at this;exact this);clear HN IH HGL;go_wp2_with fail;go_ret;exact⟨by rw[HR.out,HGL2.out];rfl,hB⟩
theorem Z39 (n:Int)(l:List TM)(ih:∀t∈l,∀(lo hi:Nat) (A:Option Addr) (cap:Nat) (w:World),Za w lo hi t A cap→hi≤w.heap.size→
      Calls prog 38 #[Zc t A cap] w fun e w'=>e= .returned (.bool (Zg t))∧Below w.heap.size w w')
    (lo hi:Nat) (A:Option Addr) (cap:Nat) (w:World) (h:Za w lo hi (.node 5 n l) A cap) (hhi:hi≤w.heap.size):
    Calls prog 38 #[.agg #[.int .i64 5,.int .i64 n,.slice A l.length cap]] w fun e w'=>e= .returned (.bool (Zg (.node 5 n l)))∧Below w.heap.size w w':=by
  obtain⟨hl,hm⟩:=h.bounds;have IH:=hid ih;have HN:Hid (Zaf w lo hi A l):=hid (h.sub);unfold maxLen at hm;clear ih h;obtain⟨r,hr⟩:∃r,Zg (.node 5 n l)=r:=⟨_,rfl⟩;rw[hr];have HG:=hid hr;clear hr;have topF: ¬ (l.length=2∧0≤n∧n≤0)→r=false:=fun hx=>by
    rw[←HG.out,Zo];cases e:Zad 5 n l with
    | false=>rfl
    | true=>
      obtain⟨_,_,h3,h4,h5,_⟩:=Jo e;exact(hx ⟨h3,h4,h5⟩).elim
  have TOP:=hid topF;clear topF;have HW1:=hid (fun o1=>(Qg w.heap.size w).alloc Zdk o1);by_cases hlen:l.length=2
  case neg=>
    have HR:=hid (TOP.out (fun h=>hlen h.1));have e0:((l.length:Int) !=2)=true:=by rw[bne_iff_ne];omega
    clear hlen HN IH;go_enter func38,ntmps38;go_wp2_with fail;go_ret;exact⟨by rw[HR.out];rfl,HW1.out _⟩
  have e0:((l.length:Int) !=2)=false:=by rw[show(l.length:Int)=2 by omega];rfl
  by_cases hn0:n<0
  · have HR:=hid (TOP.out (by omega));have e1:decide (n<0)=true:=J9 hn0;clear hlen hn0 HN IH;go_enter func38,ntmps38;go_wp2_with fail;go_ret;exact⟨by rw[HR.out];rfl,HW1.out _⟩
  have e1:decide (n<0)=false:=Zaz hn0;by_cases hn1:0<n
  · have HR:=hid (TOP.out (by omega));have e2:decide ((0:Int)<n)=true:=J9 hn1;clear hlen hn0 hn1 HN IH;go_enter func38,ntmps38;go_wp2_with fail;go_ret;exact⟨by rw[HR.out];rfl,HW1.out _⟩
  have e2:decide ((0:Int)<n)=false:=Zaz hn1;have HR:Hid (r=Jl l):=hid (by
    rw[←HG.out,Zo,Zd3 (by unfold Zbm;omega) hlen (by omega) (show n≤0 by omega)];simp)
  have HLEN:=hid hlen;clear hlen hn0 hn1 TOP HG;go_enter func38,ntmps38;go_wp2_with fail;go_loopw [5] (fun iv wr=>∃i:Nat,i≤l.length∧iv= .int .i64 i∧Below w.heap.size w wr∧wr.cell? ⟨w.heap.size,2,none⟩=some (.slice A l.length cap)∧w.heap.size<wr.heap.size∧Hid (Jl (l.take i)=true))
    (fun iv _=>l.length - (intOf iv).toNat)
  case atStart=>exact⟨0,Qe _,rfl,HW1.out _,by simp,by simp,hid (by rw[Qa,Z6];rfl)⟩
  case round=>
    obtain⟨i,hi1,rfl,hB,y2,hlt,HGL⟩:=hrel;have hz:=hB.size;by_cases hil:i<l.length
    · obtain⟨b,o,F,C,hA,hb1,hb2,hx,hnode⟩:=(HN.out i hil).kept hB hhi;subst hA;obtain⟨x0,x1,x2⟩:=hx;have hIH:=IH.out l[i] (Qd hil) lo hi F C;have hgt:=Zgi hil;have hno:=fun hg=>Zki hil hg;obtain⟨v,hv⟩:∃v,Zg l[i]=v:=⟨_,rfl⟩;rw[hv,HGL.out,Qh]at hgt;rw[hv]at hIH hno;have HGT:=hid hgt;have HNO:=hid hno;have HC:=hid hIH;have hi2:(i:Int)<2:=by have:=HLEN.out;omega
      have hi3:i<2:=by have:=HLEN.out;omega
      have hi4:(i:Int)<(l.length:Int):=by omega
      clear hgt hno hIH hv IH HN;cases v with
      | true=>
        go_wp2_with fail;refine(HC.out _ hnode (by omega)).mono ?_;rintro e w2 ⟨rfl,hb2'⟩;have hy2:=(hb2'.cell (p:=⟨w.heap.size,2,none⟩) hlt).trans y2;have HB2:=hid (hB.trans (hb2'.mono hz));have hlt2:=Qf hlt hb2'.size;clear hb2';go_wp2_with fail;go_roundw
        case rel=>exact⟨i+1,by omega,rfl,HB2.out,hy2,hlt2,HGT⟩
        case measure=>simp[intOf];omega
      | false=>
        have HR2:=hid (HNO.out rfl);go_wp2_with fail;refine(HC.out _ hnode (by omega)).mono ?_;rintro e w2 ⟨rfl,hb2'⟩;go_wp2_with fail;go_ret;exact⟨by rw[HR.out,HR2.out];rfl,hB.trans (hb2'.mono hz)⟩
    · obtain rfl:i=l.length:=by omega
      have hi2: ¬ (l.length:Int)<2:=by have:=HLEN.out;omega
      have hi3: ¬ l.length<2:=by have:=HLEN.out;omega
      have HGL2:Hid (Jl l=true):=hid (by have:=HGL.out;rw[Qc]at this;exact this);clear HN IH HGL;go_wp2_with fail;go_ret;exact⟨by rw[HR.out,HGL2.out];rfl,hB⟩
theorem Z4a (n:Int)(l:List TM)(ih:∀t∈l,∀(lo hi:Nat) (A:Option Addr) (cap:Nat) (w:World),Za w lo hi t A cap→hi≤w.heap.size→
      Calls prog 38 #[Zc t A cap] w fun e w'=>e= .returned (.bool (Zg t))∧Below w.heap.size w w')
    (lo hi:Nat) (A:Option Addr) (cap:Nat) (w:World) (h:Za w lo hi (.node 6 n l) A cap) (hhi:hi≤w.heap.size):
    Calls prog 38 #[.agg #[.int .i64 6,.int .i64 n,.slice A l.length cap]] w fun e w'=>e= .returned (.bool (Zg (.node 6 n l)))∧Below w.heap.size w w':=by
  obtain⟨hl,hm⟩:=h.bounds;have IH:=hid ih;have HN:Hid (Zaf w lo hi A l):=hid (h.sub);unfold maxLen at hm;clear ih h;obtain⟨r,hr⟩:∃r,Zg (.node 6 n l)=r:=⟨_,rfl⟩;rw[hr];have HG:=hid hr;clear hr;have topF: ¬ (l.length=0∧0≤n∧n≤1048576)→r=false:=fun hx=>by
    rw[←HG.out,Zo];cases e:Zad 6 n l with
    | false=>rfl
    | true=>
      obtain⟨_,_,h3,h4,h5,_⟩:=Jo e;exact(hx ⟨h3,h4,h5⟩).elim
  have TOP:=hid topF;clear topF;have HW1:=hid (fun o1=>(Qg w.heap.size w).alloc Zdk o1);by_cases hlen:l.length=0
  case neg=>
    have HR:=hid (TOP.out (fun h=>hlen h.1));have e0:((l.length:Int) !=0)=true:=by rw[bne_iff_ne];omega
    clear hlen HN IH;go_enter func38,ntmps38;go_wp2_with fail;go_ret;exact⟨by rw[HR.out];rfl,HW1.out _⟩
  have e0:((l.length:Int) !=0)=false:=by rw[show(l.length:Int)=0 by omega];rfl
  by_cases hn0:n<0
  · have HR:=hid (TOP.out (by omega));have e1:decide (n<0)=true:=J9 hn0;clear hlen hn0 HN IH;go_enter func38,ntmps38;go_wp2_with fail;go_ret;exact⟨by rw[HR.out];rfl,HW1.out _⟩
  have e1:decide (n<0)=false:=Zaz hn0;by_cases hn1:1048576<n
  · have HR:=hid (TOP.out (by omega));have e2:decide ((1048576:Int)<n)=true:=J9 hn1;clear hlen hn0 hn1 HN IH;go_enter func38,ntmps38;go_wp2_with fail;go_ret;exact⟨by rw[HR.out];rfl,HW1.out _⟩
  have e2:decide ((1048576:Int)<n)=false:=Zaz hn1;have HR:Hid (r=Jl l):=hid (by
    rw[←HG.out,Zo,Zd3 (by unfold Zbm;omega) hlen (by omega) (show n≤1048576 by omega)];simp)
  have HLEN:=hid hlen;clear hlen hn0 hn1 TOP HG;go_enter func38,ntmps38;go_wp2_with fail;go_loopw [5] (fun iv wr=>∃i:Nat,i≤l.length∧iv= .int .i64 i∧Below w.heap.size w wr∧wr.cell? ⟨w.heap.size,2,none⟩=some (.slice A l.length cap)∧w.heap.size<wr.heap.size∧Hid (Jl (l.take i)=true))
    (fun iv _=>l.length - (intOf iv).toNat)
  case atStart=>exact⟨0,Qe _,rfl,HW1.out _,by simp,by simp,hid (by rw[Qa,Z6];rfl)⟩
  case round=>
    obtain⟨i,hi1,rfl,hB,y2,hlt,HGL⟩:=hrel;obtain rfl:i=0:=by have:=HLEN.out;omega
    have HE:=hid (show l=[]from Qb HLEN.out);go_wp2_with fail;go_ret;exact⟨by rw[HR.out,HE.out,Z6];rfl,hB⟩
theorem Z4c (n:Int)(l:List TM)(ih:∀t∈l,∀(lo hi:Nat) (A:Option Addr) (cap:Nat) (w:World),Za w lo hi t A cap→hi≤w.heap.size→
      Calls prog 38 #[Zc t A cap] w fun e w'=>e= .returned (.bool (Zg t))∧Below w.heap.size w w')
    (lo hi:Nat) (A:Option Addr) (cap:Nat) (w:World) (h:Za w lo hi (.node 8 n l) A cap) (hhi:hi≤w.heap.size):
    Calls prog 38 #[.agg #[.int .i64 8,.int .i64 n,.slice A l.length cap]] w fun e w'=>e= .returned (.bool (Zg (.node 8 n l)))∧Below w.heap.size w w':=by
  obtain⟨hl,hm⟩:=h.bounds;have IH:=hid ih;have HN:Hid (Zaf w lo hi A l):=hid (h.sub);unfold maxLen at hm;clear ih h;obtain⟨r,hr⟩:∃r,Zg (.node 8 n l)=r:=⟨_,rfl⟩;rw[hr];have HG:=hid hr;clear hr;have topF: ¬ (l.length=0∧0≤n∧n≤1048576)→r=false:=fun hx=>by
    rw[←HG.out,Zo];cases e:Zad 8 n l with
    | false=>rfl
    | true=>
      obtain⟨_,_,h3,h4,h5,_⟩:=Jo e;exact(hx ⟨h3,h4,h5⟩).elim
  have TOP:=hid topF;clear topF;have HW1:=hid (fun o1=>(Qg w.heap.size w).alloc Zdk o1);by_cases hlen:l.length=0
  case neg=>
    have HR:=hid (TOP.out (fun h=>hlen h.1));have e0:((l.length:Int) !=0)=true:=by rw[bne_iff_ne];omega
    clear hlen HN IH;go_enter func38,ntmps38;go_wp2_with fail;go_ret;exact⟨by rw[HR.out];rfl,HW1.out _⟩
  have e0:((l.length:Int) !=0)=false:=by rw[show(l.length:Int)=0 by omega];rfl
  by_cases hn0:n<0
  · have HR:=hid (TOP.out (by omega));have e1:decide (n<0)=true:=J9 hn0;clear hlen hn0 HN IH;go_enter func38,ntmps38;go_wp2_with fail;go_ret;exact⟨by rw[HR.out];rfl,HW1.out _⟩
  have e1:decide (n<0)=false:=Zaz hn0;by_cases hn1:1048576<n
  · have HR:=hid (TOP.out (by omega));have e2:decide ((1048576:Int)<n)=true:=J9 hn1;clear hlen hn0 hn1 HN IH;go_enter func38,ntmps38;go_wp2_with fail;go_ret;exact⟨by rw[HR.out];rfl,HW1.out _⟩
  have e2:decide ((1048576:Int)<n)=false:=Zaz hn1;have HR:Hid (r=Jl l):=hid (by
    rw[←HG.out,Zo,Zd3 (by unfold Zbm;omega) hlen (by omega) (show n≤1048576 by omega)];simp)
  have HLEN:=hid hlen;clear hlen hn0 hn1 TOP HG;go_enter func38,ntmps38;go_wp2_with fail;go_loopw [5] (fun iv wr=>∃i:Nat,i≤l.length∧iv= .int .i64 i∧Below w.heap.size w wr∧wr.cell? ⟨w.heap.size,2,none⟩=some (.slice A l.length cap)∧w.heap.size<wr.heap.size∧Hid (Jl (l.take i)=true))
    (fun iv _=>l.length - (intOf iv).toNat)
  case atStart=>exact⟨0,Qe _,rfl,HW1.out _,by simp,by simp,hid (by rw[Qa,Z6];rfl)⟩
  case round=>
    obtain⟨i,hi1,rfl,hB,y2,hlt,HGL⟩:=hrel;obtain rfl:i=0:=by have:=HLEN.out;omega
    have HE:=hid (show l=[]from Qb HLEN.out);go_wp2_with fail;go_ret;exact⟨by rw[HR.out,HE.out,Z6];rfl,hB⟩
theorem Z4b (n:Int)(l:List TM)(ih:∀t∈l,∀(lo hi:Nat) (A:Option Addr) (cap:Nat) (w:World),Za w lo hi t A cap→hi≤w.heap.size→
      Calls prog 38 #[Zc t A cap] w fun e w'=>e= .returned (.bool (Zg t))∧Below w.heap.size w w')
    (lo hi:Nat) (A:Option Addr) (cap:Nat) (w:World) (h:Za w lo hi (.node 7 n l) A cap) (hhi:hi≤w.heap.size):
    Calls prog 38 #[.agg #[.int .i64 7,.int .i64 n,.slice A l.length cap]] w fun e w'=>e= .returned (.bool (Zg (.node 7 n l)))∧Below w.heap.size w w':=by
  obtain⟨hl,hm⟩:=h.bounds;have IH:=hid ih;have HN:Hid (Zaf w lo hi A l):=hid (h.sub);unfold maxLen at hm;clear ih h;obtain⟨r,hr⟩:∃r,Zg (.node 7 n l)=r:=⟨_,rfl⟩;rw[hr];have HG:=hid hr;clear hr;have topF: ¬ (l.length=1∧0≤n∧n≤1048576)→r=false:=fun hx=>by
    rw[←HG.out,Zo];cases e:Zad 7 n l with
    | false=>rfl
    | true=>
      obtain⟨_,_,h3,h4,h5,_⟩:=Jo e;exact(hx ⟨h3,h4,h5⟩).elim
  have TOP:=hid topF;clear topF;have HW1:=hid (fun o1=>(Qg w.heap.size w).alloc Zdk o1);by_cases hlen:l.length=1
  case neg=>
    have HR:=hid (TOP.out (fun h=>hlen h.1));have e0:((l.length:Int) !=1)=true:=by rw[bne_iff_ne];omega
    clear hlen HN IH;go_enter func38,ntmps38;go_wp2_with fail;go_ret;exact⟨by rw[HR.out];rfl,HW1.out _⟩
  have e0:((l.length:Int) !=1)=false:=by rw[show(l.length:Int)=1 by omega];rfl
  by_cases hn0:n<0
  · have HR:=hid (TOP.out (by omega));have e1:decide (n<0)=true:=J9 hn0;clear hlen hn0 HN IH;go_enter func38,ntmps38;go_wp2_with fail;go_ret;exact⟨by rw[HR.out];rfl,HW1.out _⟩
  have e1:decide (n<0)=false:=Zaz hn0;by_cases hn1:1048576<n
  · have HR:=hid (TOP.out (by omega));have e2:decide ((1048576:Int)<n)=true:=J9 hn1;clear hlen hn0 hn1 HN IH;go_enter func38,ntmps38;go_wp2_with fail;go_ret;exact⟨by rw[HR.out];rfl,HW1.out _⟩
  have e2:decide ((1048576:Int)<n)=false:=Zaz hn1;have HLEN:=hid hlen;have hl0:0<l.length:=by omega
  have hl0':(0:Int)<(l.length:Int):=by omega
  obtain⟨b0,o0,F0,C0,hA0,hb01,hb02,hx0,hnode0⟩:=HN.out 0 hl0;obtain⟨y0,y1,y3⟩:=hx0;rw[Nat.zero_mul,Nat.add_zero]at y0 y1 y3;subst hA0;have hb03:b0<w.heap.size:=by omega
  have HTOP:Hid (Zad 7 n l=decide (l[0].k=2)):=hid (by
    rw[Zd3 (by unfold Zbm;omega) (show l.length=1 from HLEN.out) (by omega) (show n≤1048576 by omega)];obtain⟨u,rfl⟩:∃u,l=[u]:=List.length_eq_one_iff.1 HLEN.out;rfl)
  by_cases hk2:l[0].k=2
  case neg=>
    have HR:Hid (r=false):=hid (by rw[←HG.out,Zo,HTOP.out,Zaz hk2];rfl);have e3:(l[0].k !=2)=true:=by simpa using hk2
    clear hlen hn0 hn1 TOP HG hk2;go_enter func38,ntmps38;go_wp2_with fail;go_ret;exact⟨by rw[HR.out];rfl,HW1.out _⟩
  have e3:(l[0].k !=2)=false:=by simpa using hk2
  have HR:Hid (r=Jl l):=hid (by rw[←HG.out,Zo,HTOP.out,J9 hk2];rfl);clear hlen hn0 hn1 TOP HG hk2 HTOP;go_enter func38,ntmps38;go_wp2_with fail;go_loopw [5] (fun iv wr=>∃i:Nat,i≤l.length∧iv= .int .i64 i∧Below w.heap.size w wr∧wr.cell? ⟨w.heap.size,2,none⟩=some (.slice (some ⟨b0,o0,none⟩) l.length cap)∧w.heap.size<wr.heap.size∧Hid (Jl (l.take i)=true))
    (fun iv _=>l.length - (intOf iv).toNat)
  case atStart=>exact⟨0,Qe _,rfl,HW1.out _,by simp,by simp,hid (by rw[Qa,Z6];rfl)⟩
  case round=>
    obtain⟨i,hi1,rfl,hB,y2,hlt,HGL⟩:=hrel;have hz:=hB.size;by_cases hil:i<l.length
    · obtain⟨b,o,F,C,hA,hb1,hb2,hx,hnode⟩:=(HN.out i hil).kept hB hhi;injection hA with hA;injection hA with hA hA';subst hA hA';obtain⟨x0,x1,x2⟩:=hx;have hIH:=IH.out l[i] (Qd hil) lo hi F C;have hgt:=Zgi hil;have hno:=fun hg=>Zki hil hg;obtain⟨v,hv⟩:∃v,Zg l[i]=v:=⟨_,rfl⟩;rw[hv,HGL.out,Qh]at hgt;rw[hv]at hIH hno;have HGT:=hid hgt;have HNO:=hid hno;have HC:=hid hIH;have hi2:(i:Int)<1:=by have:=HLEN.out;omega
      have hi3:i<1:=by have:=HLEN.out;omega
      have hi4:(i:Int)<(l.length:Int):=by omega
      clear hgt hno hIH hv IH HN;cases v with
      | true=>
        go_wp2_with fail;refine(HC.out _ hnode (by omega)).mono ?_;rintro e w2 ⟨rfl,hb2'⟩;have hy2:=(hb2'.cell (p:=⟨w.heap.size,2,none⟩) hlt).trans y2;have HB2:=hid (hB.trans (hb2'.mono hz));have hlt2:=Qf hlt hb2'.size;clear hb2';go_wp2_with fail;go_roundw
        case rel=>exact⟨i+1,by omega,rfl,HB2.out,hy2,hlt2,HGT⟩
        case measure=>simp[intOf];omega
      | false=>
        have HR2:=hid (HNO.out rfl);go_wp2_with fail;refine(HC.out _ hnode (by omega)).mono ?_;rintro e w2 ⟨rfl,hb2'⟩;go_wp2_with fail;go_ret;exact⟨by rw[HR.out,HR2.out];rfl,hB.trans (hb2'.mono hz)⟩
    · obtain rfl:i=l.length:=by omega
      have hi2: ¬ (l.length:Int)<1:=by have:=HLEN.out;omega
      have hi3: ¬ l.length<1:=by have:=HLEN.out;omega
      have HGL2:Hid (Jl l=true):=hid (by have:=HGL.out;rw[Qc]at this;exact this);clear HN IH HGL;go_wp2_with fail;go_ret;exact⟨by rw[HR.out,HGL2.out];rfl,hB⟩
theorem Z4d (k n:Int)(l:List TM)(lo hi:Nat)(A:Option Addr)(cap:Nat)(w:World)(h:Za w lo hi (.node k n l) A cap)(hhi:hi≤w.heap.size)(hk: ¬ Zbm k):
  Calls prog 38 #[.agg #[.int .i64 k,.int .i64 n,.slice A l.length cap]] w fun e w'=>e= .returned (.bool (Zg (.node k n l)))∧Below w.heap.size w w':=by
 have HR:Hid (Zg (.node k n l)=false):=hid (by
  rw[Zo];cases e:Zad k n l with
  | false=>rfl
  | true=>
   obtain⟨h1,h2,_⟩:=Jo e;exact(hk (by unfold Zbm;omega)).elim)
 unfold Zbm at hk;have e1:(k==1)=false:=by rw[beq_eq_false_iff_ne];omega
 have e2:(k==2)=false:=by rw[beq_eq_false_iff_ne];omega
 have e3:(k==3)=false:=by rw[beq_eq_false_iff_ne];omega
 have e4:(k==4)=false:=by rw[beq_eq_false_iff_ne];omega
 have e5:(k==5)=false:=by rw[beq_eq_false_iff_ne];omega
 have e6:(k==6)=false:=by rw[beq_eq_false_iff_ne];omega
 have e7:(k==7)=false:=by rw[beq_eq_false_iff_ne];omega
 have e8:(k==8)=false:=by rw[beq_eq_false_iff_ne];omega
 clear h hk;go_enter func38,ntmps38;go_wp2_with fail;go_ret;exact⟨by rw[HR.out];rfl,(Qg _ _).alloc Zdk _⟩
theorem Z0m:∀(t:TM) (lo hi:Nat) (A:Option Addr) (cap:Nat) (w:World),Za w lo hi t A cap→hi≤w.heap.size→
  Calls prog 38 #[Zc t A cap] w fun e w'=>e= .returned (.bool (Zg t))∧Below w.heap.size w w':=by
 intro t;induction t using TM.ind with
 | h k n l ih=>
  intro lo hi A cap w h hhi;rw[Jk];by_cases hk:Zbm k
  ·rcases hk with rfl|rfl|rfl|rfl|rfl|rfl|rfl|rfl
   ·exact Z35 n l ih lo hi A cap w h hhi
   ·exact Z36 n l ih lo hi A cap w h hhi
   ·exact Z37 n l ih lo hi A cap w h hhi
   ·exact Z38 n l ih lo hi A cap w h hhi
   ·exact Z39 n l ih lo hi A cap w h hhi
   ·exact Z4a n l ih lo hi A cap w h hhi
   ·exact Z4b n l ih lo hi A cap w h hhi
   ·exact Z4c n l ih lo hi A cap w h hhi
  ·exact Z4d k n l lo hi A cap w h hhi hk
theorem Zgk (t:TM)(lo hi:Nat)(A:Option Addr)(cap:Nat)(w:World)(h:Za w lo hi t A cap)(hhi:hi≤w.heap.size):
  Calls prog 22 #[Zc t A cap] w fun e w'=>e= .returned (.bool (Zb t))∧Below w.heap.size w w':=by
 have HF:=hid (Zsf t lo hi A cap);have HG:=hid (Z0m t lo hi A cap);unfold Zb Zso;obtain⟨r,hr⟩:∃r,Zg t=r:=⟨_,rfl⟩;rw[hr]at HG⊢;obtain⟨d,hd⟩:∃d,Znq t=d:=⟨_,rfl⟩;rw[hd]at HF⊢;clear hr hd;unfold Zc at HF HG⊢;by_cases hdd:d≤128
 ·have e:decide (d≤128)=true:=J9 hdd;have e2:(d:Int)≤128:=by omega
  rw[e,Qh];clear e hdd;go_enter func22,ntmps22;go_wp2_with fail;refine(HF.out _ (h.alloc hhi _) (by simp;omega)).mono ?_;rintro e w1 ⟨rfl,hb1⟩;have hz1:=hb1.size;simp at hz1;have hB1:=((Qg _ _).alloc Zdk _).trans (hb1.mono (by simp));have hcell:=fun p hp=>hb1.cell (p:=p) hp;go_wp2_with fail;refine(HG.out _ ((h.alloc hhi _).kept hb1 (by simp;omega)) (by omega)).mono ?_;rintro e w2 ⟨rfl,hb2⟩;go_wp2_with fail;go_ret;exact⟨rfl,hB1.trans (hb2.mono (by omega))⟩
 ·have e:decide (d≤128)=false:=Zaz hdd;have e2: ¬ (d:Int)≤128:=by omega
  rw[e,Bool.false_and];clear e hdd HG;go_enter func22,ntmps22;go_wp2_with fail;refine(HF.out _ (h.alloc hhi _) (by simp;omega)).mono ?_;rintro e w1 ⟨rfl,hb1⟩;go_wp2_with fail;go_ret;exact⟨rfl,((Qg _ _).alloc Zdk _).trans (hb1.mono (by simp))⟩
