import Derived.Test.YtinlmmaokphhbaaGreatDoorM4
import Derived.Test.YtinlmmaokphhbaaGreatDoorM2
import Derived.Deep.RegionHeld3
import Derived.Deep.QuietTactic
import Derived.BigQuiet
import Derived.Test.YtinlmmaokphhbaaGreatDoorTRGood
namespace Go.Proofs.YtinlmmaokphhbaaGreatDoor
set_option maxHeartbeats 4000000
set_option maxRecDepth 100000
open Go.RowKit
set_option linter.unusedVariables false
open Lib(hid)
open Go.Proofs.Tryz
open _root_.Bool renaming true_and→Qa,false_and→Qb,and_eq_true→Qc
open _root_.List renaming getElem_mem→Qd,getElem?_eq_getElem→Qe,length_cons→Qf
open Go.RowKit.Below renaming refl→Qg
open _root_.Nat renaming le_refl→Qh,lt_of_lt_of_le→Qi,le_trans→Qj,zero_le→Qk
theorem Zpq (Q:Nat→Bool):∀n,Zv Q (n+1)=(Q 0 && Zv (fun i=>Q (i+1)) n)
 | 0=>by simp[Zv]
 | n+1=>by
  have:=Zpq Q n;rw[Zv,this,Zv,Bool.and_assoc]
def Zcw (f:TM→TM→Bool)(l l':List TM)(i:Nat):Bool:=match l[i]?,l'[i]? with|some t,some u=>f t u|_,_=>true
theorem Zd0 (f:TM→TM→Bool){l l':List TM}{i:Nat}(h:i<l.length)(h':i<l'.length):Zcw f l l' i=f l[i] l'[i]:=by
 unfold Zcw;rw[Qe h,Qe h']
def Zci (f:TM→TM→Bool)(l l':List TM):Bool:=decide (l.length=l'.length) && Zv (Zcw f l l') l.length
theorem Zmp:∀l l':List TM,Zjo l l'=Zci Jw l l'
 | [],[]=>by rw[Zjo];rfl
 | [],_::_=>by rw[Zjo]<;>simp[Zci]
 | _::_,[]=>by rw[Zjo]<;>simp[Zci]
 | t::r,u::r'=>by
  rw[Zjo,Zmp r r'];unfold Zci;rw[Qf,Qf,Zpq];have e:(decide (r.length+1=r'.length+1))=decide (r.length=r'.length):=by congr 1;apply propext;omega
  rw[e];have e0:Zcw Jw (t::r) (u::r') 0=Jw t u:=rfl;have e1:(fun i=>Zcw Jw (t::r) (u::r') (i+1))=Zcw Jw r r':=rfl;rw[e0,e1];cases Jw t u<;>cases decide (r.length=r'.length)<;>rfl
theorem Zjb {f:TM→TM→Bool}{l l':List TM}(h: ¬ l.length=l'.length):Zci f l l'=false:=by unfold Zci;rw[decide_eq_false h];rfl
theorem Zgz {f:TM→TM→Bool}{l l':List TM}(h:l.length=l'.length):Zci f l l'=Zv (Zcw f l l') l.length:=by unfold Zci;rw[decide_eq_true h];rfl
theorem Zdj {Q:Nat→Bool}{n i:Nat}(hi:i<n)(h:Q i=false):Zv Q n=false:=by
 cases e:Zv Q n with
 | false=>rfl
 | true=>rw[Zay.1 e i hi]at h;cases h
theorem Ze3 (k n:Int)(l:List TM)(k' n':Int)(l':List TM):
  Jw (.node k n l) (.node k' n' l')=(decide (k=k') && (decide (n=n') && Zci Jw l l')):=by rw[Jw,Zmp]
def Zmn (w:World)(g:FuncId)(f:TM→TM→Bool)(l l':List TM):Prop:=
 ∀i (h:i<l.length) (h':i<l'.length) (lo hi lo' hi':Nat) (F F':Option Addr) (C C':Nat) (w':World),Below w.heap.size w w'→Za w' lo hi l[i] F C→Za w' lo' hi' l'[i] F' C'→hi≤w'.heap.size→hi'≤w'.heap.size→
  Calls prog g #[Zc l[i] F C,Zc l'[i] F' C'] w' fun e w''=>e= .returned (.bool (f l[i] l'[i]))∧Below w'.heap.size w' w''
theorem Zmn.kept {w w':World}{g:FuncId}{f:TM→TM→Bool}{l l':List TM}(h:Zmn w g f l l')(hb:Below w.heap.size w w'):Zmn w' g f l l':=
 fun i h1 h2 lo hi lo' hi' F F' C C' W hW=>h i h1 h2 lo hi lo' hi' F F' C C' W (hb.trans (hW.mono hb.size))
theorem Z1i (f:TM→TM→Bool)(l l':List TM)(A A':Option Addr)(cap cap' lo hi lo' hi':Nat)(w:World)(hl:l.length≤maxLen)(hl':l'.length≤maxLen)(hn:Zaf w lo hi A l)(hn':Zaf w lo' hi' A' l')(hhi:hi≤w.heap.size)(hhi':hi'≤w.heap.size)(ht:Zmn w 133 f l l'):
  Calls prog 112 #[.slice A l.length cap,.slice A' l'.length cap',.func (.func 133) #[] #[]] w fun e w'=>e= .returned (.bool (Zci f l l'))∧Below w.heap.size w w':=by
 have HN:=hid hn;have HN':=hid hn';have HT:=hid ht;unfold maxLen at hl hl';clear hn hn' ht;by_cases hlen:l.length=l'.length
 ·rw[Zgz hlen];have HLEN:=hid hlen;have t0:((l.length:Int) !=(l'.length:Int))=false:=by simp;omega
  clear hlen;go_enter func112,ntmps112;go_wp2_with fail;go_loopw [17] (fun iv wr=>∃i:Nat,i≤l.length∧iv= .int .i64 i∧Below w.heap.size w wr∧Hid (Zv (Zcw f l l') i=true)) (fun iv _=>l.length - (intOf iv).toNat)
  case atStart=>exact⟨0,Qk _,rfl,Qg _ _,hid rfl⟩
  case round=>
   obtain⟨i,hi1,rfl,hB,HQ⟩:=hrel;have hz:=hB.size;by_cases hil:i<l.length
   ·have hil':i<l'.length:=by have:=HLEN.out;omega
    obtain⟨b,o,F,C,rfl,hb1,hb2,hx,hnode⟩:=(HN.out i hil).kept hB hhi;obtain⟨x0,x1,x2⟩:=hx;obtain⟨b',o',F',C',rfl,hb1',hb2',hx',hnode'⟩:=(HN'.out i hil').kept hB hhi';obtain⟨y0,y1,y2⟩:=hx';have hlt:b<wr.heap.size:=by omega
    have hlt':b'<wr.heap.size:=by omega
    have HR:=hid (HT.out i hil hil' lo hi lo' hi' F F' C C');have hall:Hid (Zv (Zcw f l l') (i+1)=f l[i] l'[i]):=hid (by rw[Zv,HQ.out,Qa,Zd0 f hil hil']);have hno:Hid (f l[i] l'[i]=false→Zv (Zcw f l l') l.length=false):=hid (fun h=>Zdj hil (by rw[Zd0 f hil hil'];exact h));obtain⟨v,hv⟩:∃v,f l[i] l'[i]=v:=⟨_,rfl⟩;rw[hv]at HR hall hno;clear hv HT HN HN';have hi0':(i:Int)<(l.length:Int):=by omega
    have hi0'':(i:Int)<(l'.length:Int):=by omega
    go_wp2_with fail;refine(HR.out _ ((hB.alloc hz _).alloc (by simp;omega) _) ((hnode.alloc (by omega) _).alloc (by simp;omega) _) ((hnode'.alloc (by omega) _).alloc (by simp;omega) _) (by simp;omega) (by simp;omega)).mono ?_;rintro e w1 ⟨rfl,hb⟩;have HB1:=hid (((hB.alloc hz _).alloc (by simp;omega) _).trans (hb.mono (by simp;omega)));clear hb;cases v with
    | true=>
     go_wp2_with fail;go_roundw
     case rel=>exact⟨i+1,by omega,rfl,HB1.out,hall⟩
     case measure=>simp[intOf];omega
    | false=>
     have HN2:=hid (hno.out rfl);clear hno;go_wp2_with fail;go_ret;exact⟨by rw[HN2.out];rfl,HB1.out⟩
   ·obtain rfl:i=l.length:=by omega
    clear HT HN HN';go_wp2_with fail;go_ret;exact⟨by rw[HQ.out];rfl,hB⟩
 ·rw[Zjb hlen];have t0:((l.length:Int) !=(l'.length:Int))=true:=by simp;omega
  clear hlen HT HN HN';go_enter func112,ntmps112;go_wp2_with fail;go_ret;exact⟨rfl,Qg _ _⟩
theorem Zx0:∀(t u:TM) (lo hi lo' hi':Nat) (A A':Option Addr) (cap cap':Nat) (w:World),Za w lo hi t A cap→Za w lo' hi' u A' cap'→hi≤w.heap.size→hi'≤w.heap.size→
    Calls prog 133 #[Zc t A cap,Zc u A' cap'] w fun e w'=>e= .returned (.bool (Jw t u))∧Below w.heap.size w w':=by
  intro t;induction t using TM.ind with
  | h k n l ih=>
    rintro⟨k',n',l'⟩ lo hi lo' hi' A A' cap cap' w h h' hhi hhi';obtain⟨hl,hm⟩:=h.bounds;obtain⟨hl',hm'⟩:=h'.bounds;have HL:=hid (Qj hl hm);have HL':=hid (Qj hl' hm');have IH:=hid ih;have HN:Hid (Zaf w lo hi A l):=hid h.sub;have HN':Hid (Zaf w lo' hi' A' l'):=hid h'.sub;unfold maxLen at hm hm';clear ih h h';rw[Jk,Jk,Ze3];have hW2:∀o1 o2,Below w.heap.size w ((w.alloc o1).alloc o2):=fun o1 o2=>((Qg _ _).alloc (Qh _) _).alloc (by simp) _;have HW2:=hid hW2;clear hW2;by_cases hk:k=k'
    case neg=>
      rw[decide_eq_false hk,Qb];have t0:(k==k')=false:=by simpa using hk
      clear hk;go_enter func133,ntmps133;go_wp2_with fail;go_ret;exact⟨rfl,HW2.out _ _⟩
    rw[decide_eq_true hk,Qa];have t0:(k==k')=true:=by simpa using hk
    by_cases hn:n=n'
    case neg=>
      rw[decide_eq_false hn,Qb];have t2:(n==n')=false:=by simpa using hn
      clear hk hn;go_enter func133,ntmps133;go_wp2_with fail;go_ret;exact⟨rfl,HW2.out _ _⟩
    rw[decide_eq_true hn,Qa];have t2:(n==n')=true:=by simpa using hn
    clear hk hn;have HE:=hid (fun o1 o2=>Z1i Jw l l' A A' cap cap' lo hi lo' hi' ((w.alloc o1).alloc o2) HL.out HL'.out (HN.out.kept (HW2.out o1 o2) hhi) (HN'.out.kept (HW2.out o1 o2) hhi') (by simp;omega) (by simp;omega)
      (fun i h1 h2 lo1 hi1 lo2 hi2 F F' C C' W hW hx hy hh hh'=>IH.out l[i] (Qd h1) l'[i] lo1 hi1 lo2 hi2 F F' C C' W hx hy hh hh'))
    clear IH HN HN';go_enter func133,ntmps133;go_wp2_with fail;refine(HE.out _ _).mono ?_;rintro e w1 ⟨rfl,hb⟩;go_wp2_with fail;go_ret;exact⟨rfl,(HW2.out _ _).trans (hb.mono (by simp;omega))⟩
def Zfu (t u:TM):Bool:=Zb t && Jw t u
theorem Zmb (t u:TM)(lo hi lo' hi':Nat)(A A':Option Addr)(cap cap':Nat)(w:World)(h:Za w lo hi t A cap)(h':Za w lo' hi' u A' cap')(hhi:hi≤w.heap.size)(hhi':hi'≤w.heap.size)(hS:Zi w):
  Calls prog 111 #[Zc t A cap,Zc u A' cap'] w fun e w'=>e= .returned (.bool (Zfu t u))∧Below w.heap.size w w':=by
 have hf:=Za2 t lo hi A cap;have HA:=hid (Zx0 t u lo hi lo' hi' A A' cap cap');unfold Zfu;obtain⟨r,hr⟩:∃r,Jw t u=r:=⟨_,rfl⟩;obtain⟨x,hx⟩:∃x,Zb t=x:=⟨_,rfl⟩;rw[hr]at HA⊢;rw[hx]at hf⊢;have HF:=hid hf;clear hr hx hf;unfold Zc at HA HF⊢;have hW2:∀o1 o2,Below w.heap.size w ((w.alloc o1).alloc o2):=fun o1 o2=>((Qg _ _).alloc (Qh _) _).alloc (by simp) _;have HW2:=hid hW2;have HH:=hid (fun o1 o2=>h.kept (hW2 o1 o2) hhi);have HH':=hid (fun o1 o2=>h'.kept (hW2 o1 o2) hhi');have HS:=hid (fun o1 o2=>hS.kept (hW2 o1 o2));clear hW2 hS;cases x with
 | false=>
  go_enter func111,ntmps111;go_wp2_with fail;refine(HF.out _ (HH.out _ _) (by simp;omega) (HS.out _ _)).mono ?_;rintro e w1 ⟨rfl,hb⟩;go_wp2_with fail;go_ret;exact⟨rfl,(HW2.out _ _).trans (hb.mono (by simp;omega))⟩
 | true=>
  go_enter func111,ntmps111;go_wp2_with fail;refine(HF.out _ (HH.out _ _) (by simp;omega) (HS.out _ _)).mono ?_;rintro e w1 ⟨rfl,hb⟩;have hz1:=hb.size;simp at hz1;have hcell:=fun p hp=>hb.cell (p:=p) hp;have HB1:=hid ((HW2.out _ _).trans (hb.mono (by simp;omega)));have HN1:=hid ((HH.out _ _).kept hb (by simp;omega));have HN1':=hid ((HH'.out _ _).kept hb (by simp;omega));clear hb;go_wp2_with fail;refine(HA.out _ HN1.out HN1'.out (by omega) (by omega)).mono ?_;rintro e w2 ⟨rfl,hb2⟩;go_wp2_with fail;go_ret;exact⟨by simp,HB1.out.trans (hb2.mono (by omega))⟩
theorem Zni:∀(t u:TM) (lo hi lo' hi':Nat) (A A':Option Addr) (cap cap':Nat) (w:World),Za w lo hi t A cap→Za w lo' hi' u A' cap'→hi≤w.heap.size→hi'≤w.heap.size→
    Calls prog 14 #[Zc t A cap,Zc u A' cap'] w fun e w'=>e= .returned (.bool (Jw t u))∧Below w.heap.size w w':=by
  intro t;induction t using TM.ind with
  | h k n l ih=>
    rintro⟨k',n',l'⟩ lo hi lo' hi' A A' cap cap' w h h' hhi hhi';obtain⟨hl,hm⟩:=h.bounds;obtain⟨hl',hm'⟩:=h'.bounds;have IH:=hid ih;have HN:Hid (Zaf w lo hi A l):=hid h.sub;have HN':Hid (Zaf w lo' hi' A' l'):=hid h'.sub;unfold maxLen at hm hm';clear ih h h';rw[Jk,Jk,Ze3];have hW2:∀o1 o2,Below w.heap.size w ((w.alloc o1).alloc o2):=fun o1 o2=>((Qg _ _).alloc (Qh _) _).alloc (by simp) _;have HW2:=hid hW2;clear hW2;by_cases hk:k=k'
    case neg=>
      rw[decide_eq_false hk,Qb];have t0:(k !=k')=true:=by simpa using hk
      clear hk;go_enter func14,ntmps14;go_wp2_with fail;go_ret;exact⟨rfl,HW2.out _ _⟩
    rw[decide_eq_true hk,Qa];have t0:(k !=k')=false:=by simpa using hk
    by_cases hn:n=n'
    case neg=>
      rw[decide_eq_false hn,Qb];have t2:(n !=n')=true:=by simpa using hn
      clear hk hn;go_enter func14,ntmps14;go_wp2_with fail;go_ret;exact⟨rfl,HW2.out _ _⟩
    rw[decide_eq_true hn,Qa];have t2:(n !=n')=false:=by simpa using hn
    clear hk hn;by_cases hlen:l.length=l'.length
    case neg=>
      rw[Zjb hlen];have t3:((l.length:Int) !=(l'.length:Int))=true:=by simp;omega
      clear hlen IH HN HN';go_enter func14,ntmps14;go_wp2_with fail;go_ret;exact⟨rfl,HW2.out _ _⟩
    rw[Zgz hlen];have HLEN:=hid hlen;have t3:((l.length:Int) !=(l'.length:Int))=false:=by simp;omega
    clear hlen;go_enter func14,ntmps14;go_wp2_with fail;go_loopw [5] (fun iv wr=>∃i:Nat,i≤l.length∧iv= .int .i64 i∧Below w.heap.size w wr∧
        wr.cell? ⟨w.heap.size,2,none⟩=some (.slice A l.length cap)∧wr.cell? ⟨w.heap.size+1,2,none⟩=some (.slice A' l'.length cap')∧w.heap.size+1<wr.heap.size∧Hid (Zv (Zcw Jw l l') i=true))
      (fun iv _=>l.length - (intOf iv).toNat)
    case atStart=>exact⟨0,Qk _,rfl,HW2.out _ _,by simp,by simp,by simp,hid rfl⟩
    case round=>
      obtain⟨i,hi1,rfl,hB,z4,z4',hlt,HQ⟩:=hrel;have hz:=hB.size;by_cases hil:i<l.length
      · have hil':i<l'.length:=by have:=HLEN.out;omega
        obtain⟨b,o,F,C,hA,hb1,hb2,hx,hnode⟩:=(HN.out i hil).kept hB hhi;obtain⟨x0,x1,x2⟩:=hx;obtain⟨b',o',F',C',hA',hb1',hb2',hx',hnode'⟩:=(HN'.out i hil').kept hB hhi';obtain⟨y0,y1,y2⟩:=hx';subst hA;subst hA';have HNX:=hid (show Zv (Zcw Jw l l') (i+1)=Jw l[i] l'[i]by rw[Zv,HQ.out,Qa,Zd0 Jw hil hil']);have HNO:Hid (Jw l[i] l'[i]=false→Zv (Zcw Jw l l') l.length=false):=hid (fun h=>Zdj hil (by rw[Zd0 Jw hil hil'];exact h));have HIH:=hid (IH.out l[i] (Qd hil) l'[i] lo hi lo' hi' F F' C C');have hi0':(i:Int)<(l.length:Int):=by omega
        have hi0'':(i:Int)<(l'.length:Int):=by omega
        have hi00:(0:Int)≤(i:Int):=by omega
        have HB:=hid hB;clear hB;obtain⟨v,hv⟩:∃v,Jw l[i] l'[i]=v:=⟨_,rfl⟩;rw[hv]at HIH HNX HNO;clear hv;go_wp2_with fail;go_region_held3 (fun w'=>w'.cell? ⟨w.heap.size,2,none⟩=some (.slice (some ⟨b,o,none⟩) l.length cap)∧w'.cell? ⟨w.heap.size+1,2,none⟩=some (.slice (some ⟨b',o',none⟩) l'.length cap')∧
                w'.cell? ⟨b,o+i*3,none⟩=some (.int .i64 l[i].k)∧w'.cell? ⟨b,o+i*3+1,none⟩=some (.int .i64 l[i].n)∧w'.cell? ⟨b,o+i*3+2,none⟩=some (.slice F l[i].l.length C)∧
                w'.cell? ⟨b',o'+i*3,none⟩=some (.int .i64 l'[i].k)∧w'.cell? ⟨b',o'+i*3+1,none⟩=some (.int .i64 l'[i].n)∧w'.cell? ⟨b',o'+i*3+2,none⟩=some (.slice F' l'[i].l.length C'))
              (first|go_keep|(refine⟨?_, ?_, ?_, ?_, ?_, ?_, ?_, ?_⟩<;>((rw[hb3.cell (by show _<_;simp;omega)];assumption))))
              (first|(go_at_call 14;refine(HIH.out _ (hnode.kept ((Qg _ _).drew) (by omega)) (hnode'.kept ((Qg _ _).drew) (by omega)) (by simp;omega) (by simp;omega)).mono ?_;rintro e w3 ⟨rfl,hb3⟩))
        have hc3:∀g q,g<wr.heap.size→w3.cell? ⟨g,q,none⟩=wr.cell? ⟨g,q,none⟩:=fun g q hg=>hb3.cell (p:=⟨g,q,none⟩) hg;have HY:=hid ((hc3 w.heap.size 2 (by omega)).trans z4);have HY':=hid ((hc3 (w.heap.size+1) 2 (by omega)).trans z4');have HLT:=hid (Qi hlt hb3.size);have HB3:=hid (HB.out.drew.trans (hb3.mono hz));clear hc3 hb3;cases v with
        | true=>
          go_wp2_with fail;go_roundw
          case rel=>exact⟨i+1,by omega,rfl,HB3.out,HY.out,HY'.out,HLT.out,HNX⟩
          case measure=>simp[intOf];omega
        | false=>
          have HN2:=hid (HNO.out rfl);clear HNO;go_wp2_with fail;go_ret;exact⟨by rw[HN2.out];rfl,HB3.out⟩
      · obtain rfl:i=l.length:=by omega
        go_wp2_with fail;go_ret;exact⟨by rw[HQ.out];rfl,hB⟩
structure Z8 (W:World) (g:Nat) (k n:Int) (v:Value):Prop where
 c0:W.cell? ⟨g,0,none⟩=some (.int .i64 k)
 c1:W.cell? ⟨g,1,none⟩=some (.int .i64 n)
 c2:W.cell? ⟨g,2,none⟩=some v
 lt:g<W.heap.size
theorem Z8.of {W:World}{g:Nat}{e:TypeId}{k n:Int}{v:Value}(h:Bk W g e #[.int .i64 k,.int .i64 n,v]):Z8 W g k n v:=⟨h.cell 0,h.cell 1,h.cell 2,h.lt⟩
theorem Z8.kept {W W':World}{g B:Nat}{k n:Int}{v:Value}(h:Z8 W g k n v)(hb:Below B W W')(hg:g<B):Z8 W' g k n v:=
 ⟨(hb.cell (p:=⟨g,0,none⟩) hg).trans h.c0,(hb.cell (p:=⟨g,1,none⟩) hg).trans h.c1,(hb.cell (p:=⟨g,2,none⟩) hg).trans h.c2,Qi h.lt hb.size⟩
theorem Zyd:∀t u:TM,Jw t u=true↔t=u:=by
 intro t;induction t using TM.ind with
 | h k n l ih=>
  rintro⟨k',n',l'⟩;rw[Ze3];constructor
  ·intro h;simp only[Qc,decide_eq_true_eq]at h;obtain⟨rfl,rfl,h⟩:=h;have hl:l.length=l'.length:=by
    by_cases hl:l.length=l'.length
    ·exact hl
    ·rw[Zjb hl]at h;cases h
   rw[Zgz hl]at h;have e:l=l':=by
    refine List.ext_getElem hl fun i h1 h2=> ?_;have:=Zay.1 h i h1;rw[Zd0 Jw h1 h2]at this;exact(ih _ (Qd h1) _).1 this
   rw[e]
  ·intro h;have h3:k=k'∧n=n'∧l=l':=by injection h with h1 h2 h3;exact⟨h1,h2,h3⟩
   obtain⟨rfl,rfl,rfl⟩:=h3;simp only[Qc,decide_eq_true_eq];refine⟨trivial,trivial, ?_⟩;rw[Zgz rfl];refine Zay.2 fun i hi=> ?_;rw[Zd0 Jw hi hi];exact(ih _ (Qd hi) _).2 rfl
theorem Zt8 (t:TM):Jw t t=true:=(Zyd t t).2 rfl
