import Derived.Test.YtchllgkgjompgaaGreatDoorM4
import Derived.Test.YtchllgkgjompgaaGreatDoorM2
import Derived.Deep.RegionHeld3
import Derived.Deep.QuietTactic
import Derived.BigQuiet
import Derived.Test.YtchllgkgjompgaaGreatDoorTRGood
namespace Go.Proofs.YtchllgkgjompgaaGreatDoor
set_option maxHeartbeats 4000000
set_option maxRecDepth 100000
open Go.RowKit
set_option linter.unusedVariables false
open Lib(hid)
open Go.Proofs.Tryz
theorem allB_succM (Q:Nat→Bool):∀n,allB Q (n+1)=(Q 0 && allB (fun i=>Q (i+1)) n)
 | 0=>by simp[allB]
 | n+1=>by
  have:=allB_succM Q n;rw[allB,this,allB,Bool.and_assoc]
def pairTm (f:TM→TM→Bool) (l l':List TM) (i:Nat):Bool:=match l[i]?,l'[i]? with|some t,some u=>f t u|_,_=>true
theorem pairTm_of (f:TM→TM→Bool) {l l':List TM} {i:Nat} (h:i<l.length) (h':i<l'.length):pairTm f l l' i=f l[i] l'[i]:=by
 unfold pairTm;rw[List.getElem?_eq_getElem h,List.getElem?_eq_getElem h']
def pairsM (f:TM→TM→Bool) (l l':List TM):Bool:=decide (l.length=l'.length) && allB (pairTm f l l') l.length
theorem alikeM_pairs:∀l l':List TM,alikeM l l'=pairsM alikeT l l'
 | [],[]=>by rw[alikeM];rfl
 | [],_::_=>by rw[alikeM]<;>simp[pairsM]
 | _::_,[]=>by rw[alikeM]<;>simp[pairsM]
 | t::r,u::r'=>by
  rw[alikeM,alikeM_pairs r r'];unfold pairsM;rw[List.length_cons,List.length_cons,allB_succM];have e:(decide (r.length+1=r'.length+1))=decide (r.length=r'.length):=by congr 1;apply propext;omega
  rw[e];have e0:pairTm alikeT (t::r) (u::r') 0=alikeT t u:=rfl;have e1:(fun i=>pairTm alikeT (t::r) (u::r') (i+1))=pairTm alikeT r r':=rfl;rw[e0,e1];cases alikeT t u<;>cases decide (r.length=r'.length)<;>rfl
theorem pairsM_len {f:TM→TM→Bool} {l l':List TM} (h: ¬ l.length=l'.length):pairsM f l l'=false:=by unfold pairsM;rw[decide_eq_false h];rfl
theorem pairsM_eq {f:TM→TM→Bool} {l l':List TM} (h:l.length=l'.length):pairsM f l l'=allB (pairTm f l l') l.length:=by unfold pairsM;rw[decide_eq_true h];rfl
theorem allB_noM {Q:Nat→Bool} {n i:Nat} (hi:i<n) (h:Q i=false):allB Q n=false:=by
 cases e:allB Q n with
 | false=>rfl
 | true=>rw[allB_true.1 e i hi]at h;cases h
theorem alikeT_node (k n:Int) (l:List TM) (k' n':Int) (l':List TM):
  alikeT (.node k n l) (.node k' n' l')=(decide (k=k') && (decide (n=n') && pairsM alikeT l l')):=by rw[alikeT,alikeM_pairs]
def TestTT (w:World) (g:FuncId) (f:TM→TM→Bool) (l l':List TM):Prop:=
 ∀i (h:i<l.length) (h':i<l'.length) (lo hi lo' hi':Nat) (F F':Option Addr) (C C':Nat) (w':World),Below w.heap.size w w'→IsTerm w' lo hi l[i] F C→IsTerm w' lo' hi' l'[i] F' C'→hi≤w'.heap.size→hi'≤w'.heap.size→
  Calls prog g #[termV l[i] F C,termV l'[i] F' C'] w' fun e w''=>e= .returned (.bool (f l[i] l'[i]))∧Below w'.heap.size w' w''
theorem eqf_term (f:TM→TM→Bool) (l l':List TM) (A A':Option Addr) (cap cap' lo hi lo' hi':Nat) (w:World) (hl:l.length≤maxLen) (hl':l'.length≤maxLen) (hn:TermsAt w lo hi A l) (hn':TermsAt w lo' hi' A' l') (hhi:hi≤w.heap.size) (hhi':hi'≤w.heap.size) (ht:TestTT w 210 f l l'):
  Calls prog 192 #[.slice A l.length cap,.slice A' l'.length cap',.func (.func 210) #[] #[]] w fun e w'=>e= .returned (.bool (pairsM f l l'))∧Below w.heap.size w w':=by
 have HN:=hid hn;have HN':=hid hn';have HT:=hid ht;unfold maxLen at hl hl';clear hn hn' ht;by_cases hlen:l.length=l'.length
 ·rw[pairsM_eq hlen];have HLEN:=hid hlen;have t0:((l.length:Int) !=(l'.length:Int))=false:=by simp;omega
  clear hlen;go_enter func192,ntmps192;go_wp2_with fail;go_loopw [17] (fun iv wr=>∃i:Nat,i≤l.length∧iv= .int .i64 i∧Below w.heap.size w wr∧Hid (allB (pairTm f l l') i=true)) (fun iv _=>l.length - (intOf iv).toNat)
  case atStart=>exact⟨0,Nat.zero_le _,rfl,Below.refl _ _,hid rfl⟩
  case round=>
   obtain⟨i,hi1,rfl,hB,HQ⟩:=hrel;have hz:=hB.size;by_cases hil:i<l.length
   ·have hil':i<l'.length:=by have:=HLEN.out;omega
    obtain⟨b,o,F,C,rfl,hb1,hb2,hx,hnode⟩:=(HN.out i hil).kept hB hhi;obtain⟨x0,x1,x2⟩:=hx;obtain⟨b',o',F',C',rfl,hb1',hb2',hx',hnode'⟩:=(HN'.out i hil').kept hB hhi';obtain⟨y0,y1,y2⟩:=hx';have hlt:b<wr.heap.size:=by omega
    have hlt':b'<wr.heap.size:=by omega
    have HR:=hid (HT.out i hil hil' lo hi lo' hi' F F' C C');have hall:Hid (allB (pairTm f l l') (i+1)=f l[i] l'[i]):=hid (by rw[allB,HQ.out,Bool.true_and,pairTm_of f hil hil']);have hno:Hid (f l[i] l'[i]=false→allB (pairTm f l l') l.length=false):=hid (fun h=>allB_noM hil (by rw[pairTm_of f hil hil'];exact h));obtain⟨v,hv⟩:∃v,f l[i] l'[i]=v:=⟨_,rfl⟩;rw[hv]at HR hall hno;clear hv HT HN HN';have hi0':(i:Int)<(l.length:Int):=by omega
    have hi0'':(i:Int)<(l'.length:Int):=by omega
    go_wp2_with fail;refine(HR.out _ ((hB.alloc hz _).alloc (by simp;omega) _) ((hnode.alloc (by omega) _).alloc (by simp;omega) _) ((hnode'.alloc (by omega) _).alloc (by simp;omega) _) (by simp;omega) (by simp;omega)).mono ?_;rintro e w1 ⟨rfl,hb⟩;have HB1:=hid (((hB.alloc hz _).alloc (by simp;omega) _).trans (hb.mono (by simp;omega)));clear hb;cases v with
    | true=>
     go_wp2_with fail;go_roundw
     case rel=>exact⟨i+1,by omega,rfl,HB1.out,hall⟩
     case measure=>simp[intOf];omega
    | false=>
     have HN2:=hid (hno.out rfl);clear hno;go_wp2_with fail;go_ret;exact⟨by rw[HN2.out];rfl,HB1.out⟩
   ·obtain rfl:i=l.length:=by omega
    clear HT HN HN';go_wp2_with fail;go_ret;exact⟨by rw[HQ.out];rfl,hB⟩
 ·rw[pairsM_len hlen];have t0:((l.length:Int) !=(l'.length:Int))=true:=by simp;omega
  clear hlen HT HN HN';go_enter func192,ntmps192;go_wp2_with fail;go_ret;exact⟨rfl,Below.refl _ _⟩
theorem talike_any:∀(t u:TM) (lo hi lo' hi':Nat) (A A':Option Addr) (cap cap':Nat) (w:World),IsTerm w lo hi t A cap→IsTerm w lo' hi' u A' cap'→hi≤w.heap.size→hi'≤w.heap.size→
    Calls prog 210 #[termV t A cap,termV u A' cap'] w fun e w'=>e= .returned (.bool (alikeT t u))∧Below w.heap.size w w':=by
  intro t;induction t using TM.ind with
  | h k n l ih=>
    rintro⟨k',n',l'⟩ lo hi lo' hi' A A' cap cap' w h h' hhi hhi';obtain⟨hl,hm⟩:=h.bounds;obtain⟨hl',hm'⟩:=h'.bounds;have HL:=hid (Nat.le_trans hl hm);have HL':=hid (Nat.le_trans hl' hm');have IH:=hid ih;have HN:Hid (TermsAt w lo hi A l):=hid h.sub;have HN':Hid (TermsAt w lo' hi' A' l'):=hid h'.sub;unfold maxLen at hm hm';clear ih h h';rw[termV_node,termV_node,alikeT_node];have hW2:∀o1 o2,Below w.heap.size w ((w.alloc o1).alloc o2):=fun o1 o2=>((Below.refl _ _).alloc (Nat.le_refl _) _).alloc (by simp) _;have HW2:=hid hW2;clear hW2;by_cases hk:k=k'
    case neg=>
      rw[decide_eq_false hk,Bool.false_and];have t0:(k==k')=false:=by simpa using hk
      clear hk;go_enter func210,ntmps210;go_wp2_with fail;go_ret;exact⟨rfl,HW2.out _ _⟩
    rw[decide_eq_true hk,Bool.true_and];have t0:(k==k')=true:=by simpa using hk
    by_cases hn:n=n'
    case neg=>
      rw[decide_eq_false hn,Bool.false_and];have t2:(n==n')=false:=by simpa using hn
      clear hk hn;go_enter func210,ntmps210;go_wp2_with fail;go_ret;exact⟨rfl,HW2.out _ _⟩
    rw[decide_eq_true hn,Bool.true_and];have t2:(n==n')=true:=by simpa using hn
    clear hk hn;have HE:=hid (fun o1 o2=>eqf_term alikeT l l' A A' cap cap' lo hi lo' hi' ((w.alloc o1).alloc o2) HL.out HL'.out (HN.out.kept (HW2.out o1 o2) hhi) (HN'.out.kept (HW2.out o1 o2) hhi') (by simp;omega) (by simp;omega)
      (fun i h1 h2 lo1 hi1 lo2 hi2 F F' C C' W hW hx hy hh hh'=>IH.out l[i] (List.getElem_mem h1) l'[i] lo1 hi1 lo2 hi2 F F' C C' W hx hy hh hh'))
    clear IH HN HN';go_enter func210,ntmps210;go_wp2_with fail;refine(HE.out _ _).mono ?_;rintro e w1 ⟨rfl,hb⟩;go_wp2_with fail;go_ret;exact⟨rfl,(HW2.out _ _).trans (hb.mono (by simp;omega))⟩
def tsameB (t u:TM):Bool:=shapedB t && alikeT t u
theorem tmSame_any (t u:TM) (lo hi lo' hi':Nat) (A A':Option Addr) (cap cap':Nat) (w:World) (h:IsTerm w lo hi t A cap) (h':IsTerm w lo' hi' u A' cap') (hhi:hi≤w.heap.size) (hhi':hi'≤w.heap.size) (hS:ShapesM w):
  Calls prog 191 #[termV t A cap,termV u A' cap'] w fun e w'=>e= .returned (.bool (tsameB t u))∧Below w.heap.size w w':=by
 have hf:=shaped_any t lo hi A cap;have HA:=hid (talike_any t u lo hi lo' hi' A A' cap cap');unfold tsameB;obtain⟨r,hr⟩:∃r,alikeT t u=r:=⟨_,rfl⟩;obtain⟨x,hx⟩:∃x,shapedB t=x:=⟨_,rfl⟩;rw[hr]at HA⊢;rw[hx]at hf⊢;have HF:=hid hf;clear hr hx hf;unfold termV at HA HF⊢;have hW2:∀o1 o2,Below w.heap.size w ((w.alloc o1).alloc o2):=fun o1 o2=>((Below.refl _ _).alloc (Nat.le_refl _) _).alloc (by simp) _;have HW2:=hid hW2;have HH:=hid (fun o1 o2=>h.kept (hW2 o1 o2) hhi);have HH':=hid (fun o1 o2=>h'.kept (hW2 o1 o2) hhi');have HS:=hid (fun o1 o2=>hS.kept (hW2 o1 o2));clear hW2 hS;cases x with
 | false=>
  go_enter func191,ntmps191;go_wp2_with fail;refine(HF.out _ (HH.out _ _) (by simp;omega) (HS.out _ _)).mono ?_;rintro e w1 ⟨rfl,hb⟩;go_wp2_with fail;go_ret;exact⟨rfl,(HW2.out _ _).trans (hb.mono (by simp;omega))⟩
 | true=>
  go_enter func191,ntmps191;go_wp2_with fail;refine(HF.out _ (HH.out _ _) (by simp;omega) (HS.out _ _)).mono ?_;rintro e w1 ⟨rfl,hb⟩;have hz1:=hb.size;simp at hz1;have hcell:=fun p hp=>hb.cell (p:=p) hp;have HB1:=hid ((HW2.out _ _).trans (hb.mono (by simp;omega)));have HN1:=hid ((HH.out _ _).kept hb (by simp;omega));have HN1':=hid ((HH'.out _ _).kept hb (by simp;omega));clear hb;go_wp2_with fail;refine(HA.out _ HN1.out HN1'.out (by omega) (by omega)).mono ?_;rintro e w2 ⟨rfl,hb2⟩;go_wp2_with fail;go_ret;exact⟨by simp,HB1.out.trans (hb2.mono (by omega))⟩
theorem refEqual_any:∀(t u:TM) (lo hi lo' hi':Nat) (A A':Option Addr) (cap cap':Nat) (w:World),IsTerm w lo hi t A cap→IsTerm w lo' hi' u A' cap'→hi≤w.heap.size→hi'≤w.heap.size→
    Calls prog 31 #[termV t A cap,termV u A' cap'] w fun e w'=>e= .returned (.bool (alikeT t u))∧Below w.heap.size w w':=by
  intro t;induction t using TM.ind with
  | h k n l ih=>
    rintro⟨k',n',l'⟩ lo hi lo' hi' A A' cap cap' w h h' hhi hhi';obtain⟨hl,hm⟩:=h.bounds;obtain⟨hl',hm'⟩:=h'.bounds;have IH:=hid ih;have HN:Hid (TermsAt w lo hi A l):=hid h.sub;have HN':Hid (TermsAt w lo' hi' A' l'):=hid h'.sub;unfold maxLen at hm hm';clear ih h h';rw[termV_node,termV_node,alikeT_node];have hW2:∀o1 o2,Below w.heap.size w ((w.alloc o1).alloc o2):=fun o1 o2=>((Below.refl _ _).alloc (Nat.le_refl _) _).alloc (by simp) _;have HW2:=hid hW2;clear hW2;by_cases hk:k=k'
    case neg=>
      rw[decide_eq_false hk,Bool.false_and];have t0:(k !=k')=true:=by simpa using hk
      clear hk;go_enter func31,ntmps31;go_wp2_with fail;go_ret;exact⟨rfl,HW2.out _ _⟩
    rw[decide_eq_true hk,Bool.true_and];have t0:(k !=k')=false:=by simpa using hk
    by_cases hn:n=n'
    case neg=>
      rw[decide_eq_false hn,Bool.false_and];have t2:(n !=n')=true:=by simpa using hn
      clear hk hn;go_enter func31,ntmps31;go_wp2_with fail;go_ret;exact⟨rfl,HW2.out _ _⟩
    rw[decide_eq_true hn,Bool.true_and];have t2:(n !=n')=false:=by simpa using hn
    clear hk hn;by_cases hlen:l.length=l'.length
    case neg=>
      rw[pairsM_len hlen];have t3:((l.length:Int) !=(l'.length:Int))=true:=by simp;omega
      clear hlen IH HN HN';go_enter func31,ntmps31;go_wp2_with fail;go_ret;exact⟨rfl,HW2.out _ _⟩
    rw[pairsM_eq hlen];have HLEN:=hid hlen;have t3:((l.length:Int) !=(l'.length:Int))=false:=by simp;omega
    clear hlen;go_enter func31,ntmps31;go_wp2_with fail;go_loopw [5] (fun iv wr=>∃i:Nat,i≤l.length∧iv= .int .i64 i∧Below w.heap.size w wr∧
        wr.cell? ⟨w.heap.size,2,none⟩=some (.slice A l.length cap)∧wr.cell? ⟨w.heap.size+1,2,none⟩=some (.slice A' l'.length cap')∧w.heap.size+1<wr.heap.size∧Hid (allB (pairTm alikeT l l') i=true))
      (fun iv _=>l.length - (intOf iv).toNat)
    case atStart=>exact⟨0,Nat.zero_le _,rfl,HW2.out _ _,by simp,by simp,by simp,hid rfl⟩
    case round=>
      obtain⟨i,hi1,rfl,hB,z4,z4',hlt,HQ⟩:=hrel;have hz:=hB.size;by_cases hil:i<l.length
      · have hil':i<l'.length:=by have:=HLEN.out;omega
        obtain⟨b,o,F,C,hA,hb1,hb2,hx,hnode⟩:=(HN.out i hil).kept hB hhi;obtain⟨x0,x1,x2⟩:=hx;obtain⟨b',o',F',C',hA',hb1',hb2',hx',hnode'⟩:=(HN'.out i hil').kept hB hhi';obtain⟨y0,y1,y2⟩:=hx';subst hA;subst hA';have HNX:=hid (show allB (pairTm alikeT l l') (i+1)=alikeT l[i] l'[i]by rw[allB,HQ.out,Bool.true_and,pairTm_of alikeT hil hil']);have HNO:Hid (alikeT l[i] l'[i]=false→allB (pairTm alikeT l l') l.length=false):=hid (fun h=>allB_noM hil (by rw[pairTm_of alikeT hil hil'];exact h));have HIH:=hid (IH.out l[i] (List.getElem_mem hil) l'[i] lo hi lo' hi' F F' C C');have hi0':(i:Int)<(l.length:Int):=by omega
        have hi0'':(i:Int)<(l'.length:Int):=by omega
        have hi00:(0:Int)≤(i:Int):=by omega
        have HB:=hid hB;clear hB;obtain⟨v,hv⟩:∃v,alikeT l[i] l'[i]=v:=⟨_,rfl⟩;rw[hv]at HIH HNX HNO;clear hv;go_wp2_with fail;go_region_held3 (fun w'=>w'.cell? ⟨w.heap.size,2,none⟩=some (.slice (some ⟨b,o,none⟩) l.length cap)∧w'.cell? ⟨w.heap.size+1,2,none⟩=some (.slice (some ⟨b',o',none⟩) l'.length cap')∧
                w'.cell? ⟨b,o+i*3,none⟩=some (.int .i64 l[i].k)∧w'.cell? ⟨b,o+i*3+1,none⟩=some (.int .i64 l[i].n)∧w'.cell? ⟨b,o+i*3+2,none⟩=some (.slice F l[i].l.length C)∧
                w'.cell? ⟨b',o'+i*3,none⟩=some (.int .i64 l'[i].k)∧w'.cell? ⟨b',o'+i*3+1,none⟩=some (.int .i64 l'[i].n)∧w'.cell? ⟨b',o'+i*3+2,none⟩=some (.slice F' l'[i].l.length C'))
              (first|go_keep|(refine⟨?_, ?_, ?_, ?_, ?_, ?_, ?_, ?_⟩<;>((rw[hb3.cell (by show _<_;simp;omega)];assumption))))
              (first|(go_at_call 31;refine(HIH.out _ (hnode.kept ((Below.refl _ _).drew) (by omega)) (hnode'.kept ((Below.refl _ _).drew) (by omega)) (by simp;omega) (by simp;omega)).mono ?_;rintro e w3 ⟨rfl,hb3⟩))
        have hc3:∀g q,g<wr.heap.size→w3.cell? ⟨g,q,none⟩=wr.cell? ⟨g,q,none⟩:=fun g q hg=>hb3.cell (p:=⟨g,q,none⟩) hg;have HY:=hid ((hc3 w.heap.size 2 (by omega)).trans z4);have HY':=hid ((hc3 (w.heap.size+1) 2 (by omega)).trans z4');have HLT:=hid (Nat.lt_of_lt_of_le hlt hb3.size);have HB3:=hid (HB.out.drew.trans (hb3.mono hz));clear hc3 hb3;cases v with
        | true=>
          go_wp2_with fail;go_roundw
          case rel=>exact⟨i+1,by omega,rfl,HB3.out,HY.out,HY'.out,HLT.out,HNX⟩
          case measure=>simp[intOf];omega
        | false=>
          have HN2:=hid (HNO.out rfl);clear HNO;go_wp2_with fail;go_ret;exact⟨by rw[HN2.out];rfl,HB3.out⟩
      · obtain rfl:i=l.length:=by omega
        go_wp2_with fail;go_ret;exact⟨by rw[HQ.out];rfl,hB⟩
structure TBox (W:World) (g:Nat) (k n:Int) (v:Value):Prop where
 c0:W.cell? ⟨g,0,none⟩=some (.int .i64 k)
 c1:W.cell? ⟨g,1,none⟩=some (.int .i64 n)
 c2:W.cell? ⟨g,2,none⟩=some v
 lt:g<W.heap.size
theorem TBox.of {W:World} {g:Nat} {e:TypeId} {k n:Int} {v:Value} (h:Bk W g e #[.int .i64 k,.int .i64 n,v]):TBox W g k n v:=⟨h.cell 0,h.cell 1,h.cell 2,h.lt⟩
theorem TBox.kept {W W':World} {g B:Nat} {k n:Int} {v:Value} (h:TBox W g k n v) (hb:Below B W W') (hg:g<B):TBox W' g k n v:=
 ⟨(hb.cell (p:=⟨g,0,none⟩) hg).trans h.c0,(hb.cell (p:=⟨g,1,none⟩) hg).trans h.c1,(hb.cell (p:=⟨g,2,none⟩) hg).trans h.c2,Nat.lt_of_lt_of_le h.lt hb.size⟩
theorem alikeT_eq:∀t u:TM,alikeT t u=true↔t=u:=by
 intro t;induction t using TM.ind with
 | h k n l ih=>
  rintro⟨k',n',l'⟩;rw[alikeT_node];constructor
  ·intro h;simp only[Bool.and_eq_true,decide_eq_true_eq]at h;obtain⟨rfl,rfl,h⟩:=h;have hl:l.length=l'.length:=by
    by_cases hl:l.length=l'.length
    ·exact hl
    ·rw[pairsM_len hl]at h;cases h
   rw[pairsM_eq hl]at h;have e:l=l':=by
    refine List.ext_getElem hl fun i h1 h2=> ?_;have:=allB_true.1 h i h1;rw[pairTm_of alikeT h1 h2]at this;exact(ih _ (List.getElem_mem h1) _).1 this
   rw[e]
  ·intro h;have h3:k=k'∧n=n'∧l=l':=by injection h with h1 h2 h3;exact⟨h1,h2,h3⟩
   obtain⟨rfl,rfl,rfl⟩:=h3;simp only[Bool.and_eq_true,decide_eq_true_eq];refine⟨trivial,trivial, ?_⟩;rw[pairsM_eq rfl];refine allB_true.2 fun i hi=> ?_;rw[pairTm_of alikeT hi hi];exact(ih _ (List.getElem_mem hi) _).2 rfl
theorem alikeT_refl (t:TM):alikeT t t=true:=(alikeT_eq t t).2 rfl
end Go.Proofs.YtchllgkgjompgaaGreatDoor
