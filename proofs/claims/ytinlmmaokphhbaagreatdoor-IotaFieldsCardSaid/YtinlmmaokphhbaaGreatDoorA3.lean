import Derived.Test.YtinlmmaokphhbaaGreatDoorA1
import Derived.Below
import Derived.LoopTactic
import Derived.LoopN
import Derived.Lib.Hide
import Derived.RegionTactic
import Derived.Maps.OwnSet
import Derived.ProofKit
import Derived.Test.YtinlmmaokphhbaaGreatDoorA2
namespace Go.Proofs.YtinlmmaokphhbaaGreatDoor
open Go.RowKit Go.Maps Go.WideMaps
set_option linter.unusedVariables false
set_option maxRecDepth 100000
open Lib(hid)
open Go.Proofs.Tryz
open _root_.ByteArray renaming empty→Qa,ext→Qb
open _root_.List renaming getElem?_eq_getElem→Qc,getD→Qd,getElem_of_mem→Qe,contains_iff_mem→Qf
open Go.World renaming block_lt_of_cell?→Qg
open _root_.Nat renaming not_lt_zero→Qh,zero_le→Qi,lt_or_ge→Qj,le_refl→Qk
open _root_.Bool renaming and_eq_true→Ql,or_eq_true→Qm
open Go.ByteArray renaming toList_eq→Qn
open Go.RowKit.Below renaming refl→Qo
open Go.Maps renaming size→Qp,has→Qq
open _root_.Classical renaming propDecidable→Qr
def Ziy (s:ByteArray):Bool:=(s.toList==[100,97,116,97])||((s.toList==[114,101,99,111,114,100])||((s.toList==[100,101,102])||(s.toList==[83,101,116])))
theorem Zvu {s t:ByteArray}(h:s≠t):(s.toList==t.toList)=false:=by
 rw[beq_eq_false_iff_ne];intro e;apply h
 rw[Qn,Qn]at e;exact Qb (Array.toList_inj.1 e)
theorem Zvl {s t:ByteArray}(h:s=t):(s.toList==t.toList)=true:=by rw[h];simp
theorem Ze7 (s:ByteArray)(w:World):Calls prog 120 #[.string s] w fun e w'=>e= .returned (.bool (Ziy s))∧w=w':=by
 unfold Ziy;cases e0:(s.toList==[100,97,116,97])with
 | true=>
  go_enter func120,ntmps120;go_wp2_with fail;go_ret;exact⟨rfl,rfl⟩
 | false=>
  cases e1:(s.toList==[114,101,99,111,114,100])with
  | true=>
   go_enter func120,ntmps120;go_wp2_with fail;go_ret;exact⟨rfl,rfl⟩
  | false=>
   cases e2:(s.toList==[100,101,102])with
   | true=>
    go_enter func120,ntmps120;go_wp2_with fail;go_ret;exact⟨rfl,rfl⟩
   | false=>
    cases e3:(s.toList==[83,101,116])with
    | true=>
     go_enter func120,ntmps120;go_wp2_with fail;go_ret;exact⟨rfl,rfl⟩
    | false=>
     go_enter func120,ntmps120;go_wp2_with fail;go_ret;exact⟨rfl,rfl⟩
theorem Zf6 (s:ByteArray)(w:World):Calls prog 59 #[.string s] w fun e w'=>e= .returned (.bool (Ziy s))∧w=w':=by
 unfold Ziy;cases e0:(s.toList==[100,97,116,97])with
 | true=>
  go_enter func59,ntmps59;go_wp2_with fail;go_ret;exact⟨rfl,rfl⟩
 | false=>
  cases e1:(s.toList==[114,101,99,111,114,100])with
  | true=>
   go_enter func59,ntmps59;go_wp2_with fail;go_ret;exact⟨rfl,rfl⟩
  | false=>
   cases e2:(s.toList==[100,101,102])with
   | true=>
    go_enter func59,ntmps59;go_wp2_with fail;go_ret;exact⟨rfl,rfl⟩
   | false=>
    cases e3:(s.toList==[83,101,116])with
    | true=>
     go_enter func59,ntmps59;go_wp2_with fail;go_ret;exact⟨rfl,rfl⟩
    | false=>
     go_enter func59,ntmps59;go_wp2_with fail;go_ret;exact⟨rfl,rfl⟩
def Zf1 (p:Nat→Bool):Nat→Int
 | 0=> -1
 | n+1=>if p n then(n:Int)else Zf1 p n
theorem Zre {p:Nat→Bool}{n:Nat}(h:p n=true):Zf1 p (n+1)=n:=by rw[Zf1,h];rfl
theorem Ztd {p:Nat→Bool}{n:Nat}(h:p n=false):Zf1 p (n+1)=Zf1 p n:=by rw[Zf1,h];rfl
theorem Zp6 {p:Nat→Bool}{k:Nat}:∀{n:Nat},k<n→p k=true→(∀j,k<j→j<n→p j=false)→Zf1 p n=k
 | n+1,hk,h,hn=>by
  by_cases hkn:k=n
  ·subst hkn;exact Zre h
  ·rw[Ztd (hn n (by omega) (by omega))];exact Zp6 (by omega) h (fun j hj hjn=>hn j hj (by omega))
def Zix (ss:List ByteArray)(s:ByteArray)(j:Nat):Bool:=(ss.getD j Qa).toList==s.toList
theorem Zrd {ss:List ByteArray}{s:ByteArray}{j:Nat}:Zix ss s j=true↔ss.getD j Qa=s:=by
 unfold Zix;constructor
 ·intro h;by_cases e:ss.getD j Qa=s
  ·exact e
  ·rw[Zvu e]at h;cases h
 ·exact Zvl
def Znd (ss:List ByteArray)(s:ByteArray):Int:=Zf1 (Zix ss s) ss.length
structure Zjn (w:World) (a:Option Addr) (len:Nat) (ss:List ByteArray):Prop where
 length:ss.length=len
 max:len≤140737488355328
 size:∀s∈ss,s.size≤maxLen
 cells:len=0∨∃b off,a=some ⟨b,off,none⟩∧b<w.heap.size∧∀j,j<len→w.cell? ⟨b,off+j,none⟩=some (.string (ss.getD j Qa))
theorem Zjn.below {w w':World}{a:Option Addr}{len:Nat}{ss:List ByteArray}(h:Zjn w a len ss)(hb:Below w.heap.size w w'):Zjn w' a len ss:=by
 refine⟨h.length,h.max,h.size, ?_⟩;rcases h.cells with h0|⟨b,off,ha,hlt,hc⟩
 ·exact .inl h0
 ·have hs:=hb.size;exact .inr ⟨b,off,ha,by omega,fun j hj=>(hb.cell (p:=⟨b,off+j,none⟩) hlt).trans (hc j hj)⟩
theorem Znj (a:Option Addr)(len cap:Nat)(ss:List ByteArray)(s:ByteArray)(w:World)(h:Zjn w a len ss):
  Calls prog 29 #[.slice a len cap,.string s] w fun e w'=>e= .returned (.int .i64 (Znd ss s))∧w=w':=by
 have hm:=h.max;unfold Znd;rw[h.length];rcases h.cells with h0|⟨b,off,ha,hlt,hc⟩
 ·subst h0;clear h;have e0:Zf1 (Zix ss s) 0= -1:=rfl;rw[e0];clear e0;go_enter func29,ntmps29;go_wp2_with fail;refine wp_loop_rounds 1 ?_;rw[rounds_succ];go_wp2_with fail;go_ret;exact⟨rfl,rfl⟩
 ·subst ha;have HC:=hid hc;clear hc h;obtain⟨P,hP⟩:∃P,Zf1 (Zix ss s) len=P:=⟨_,rfl⟩;rw[hP];have HP:=hid hP;clear hP;go_enter func29,ntmps29;go_wp2_with fail;go_loop [5,6] (fun t i=>∃k:Nat,k≤len∧i= .int .i64 k∧∃q:Int,t= .int .i64 q∧Hid (q=Zf1 (Zix ss s) k)) (fun _ i=>len - (intOf i).toNat)
  case atStart=>exact⟨0,Qi _,rfl, -1,rfl,hid rfl⟩
  case round=>
   obtain⟨k,hk,rfl,q,rfl,HK⟩:=hrel;by_cases hlk:k<len
   ·have hcell:=HC.out k hlk;cases hi:Zix ss s k with
    | true=>
     have HK2:Hid ((k:Int)=Zf1 (Zix ss s) (k+1)):=hid (Zre hi).symm;unfold Zix at hi;obtain⟨x,hx⟩:∃x,ss.getD k Qa=x:=⟨_,rfl⟩;rw[hx]at hcell hi;clear hx HK;go_wp2_with fail;go_round
     case rel=>exact⟨k+1,by omega,by go_num,k,rfl,HK2⟩
     case measure=>simp[intOf];omega
    | false=>
     have HK2:Hid (q=Zf1 (Zix ss s) (k+1)):=hid (HK.out.trans (Ztd hi).symm);unfold Zix at hi;obtain⟨x,hx⟩:∃x,ss.getD k Qa=x:=⟨_,rfl⟩;rw[hx]at hcell hi;clear hx HK;go_wp2_with fail;go_round
     case rel=>exact⟨k+1,by omega,by go_num,q,rfl,HK2⟩
     case measure=>simp[intOf];omega
   ·have hq:q=P:=by
     have e:k=len:=by omega
     rw[HK.out,e];exact HP.out
    subst hq;go_wp2_with fail;go_ret;exact⟨rfl,rfl⟩
def Zfx (ss:List ByteArray):Bool:=decide (∀j,j<ss.length→Znd ss (ss.getD j Qa)=j)
theorem Zp9 (a:Option Addr)(len cap:Nat)(ss:List ByteArray)(w:World)(h:Zjn w a len ss):
  Calls prog 19 #[.slice a len cap] w fun e w'=>e= .returned (.bool (Zfx ss))∧w=w':=by
 have hm:=h.max;rcases h.cells with h0|⟨b,off,ha,hlt,hc⟩
 ·have hd:Zfx ss=true:=by
   unfold Zfx;rw[h.length,h0];exact decide_eq_true (fun j hj=>absurd hj (Qh j))
  rw[hd];subst h0;clear h;go_enter func19,ntmps19;go_wp2_with fail;refine wp_loop_rounds 1 ?_;rw[rounds_succ];go_wp2_with fail;go_ret;exact⟨rfl,rfl⟩
 ·subst ha;have HC:=hid hc;have HS:=hid h;obtain⟨D,hD⟩:∃D,Zfx ss=D:=⟨_,rfl⟩;rw[hD];have HD:=hid hD;clear hc h hD;go_enter func19,ntmps19;go_wp2_with fail;go_loop [3] (fun i=>∃k:Nat,k≤len∧i= .int .i64 k∧Hid (∀j,j<k→Znd ss (ss.getD j Qa)=j)) (fun i=>len - (intOf i).toNat)
  case atStart=>exact⟨0,Qi _,rfl,hid (fun j hj=>absurd hj (Qh j))⟩
  case round=>
   obtain⟨k,hk,rfl,HK⟩:=hrel;by_cases hlk:k<len
   ·have hcell:=HC.out k hlk;obtain⟨x,hx⟩:∃x,ss.getD k Qa=x:=⟨_,rfl⟩;rw[hx]at hcell;have HX:=hid hx;clear hx;obtain⟨q,hq⟩:∃q,Znd ss x=q:=⟨_,rfl⟩;have HQ:=hid hq;clear hq;by_cases he:q=(k:Int)
    ·subst he;go_wp2_with fail;refine(Znj _ _ _ _ _ _ HS.out).mono ?_;rintro e w1 ⟨rfl,rfl⟩;rw[HQ.out];go_wp2_with fail;go_round
     case rel=>
      refine⟨k+1,by omega,by go_num,hid (fun j hj=> ?_)⟩;by_cases hjk:j<k
      ·exact HK.out j hjk
      ·obtain rfl:j=k:=by omega
       rw[HX.out];exact HQ.out
     case measure=>simp[intOf];omega
    ·have hd:D=false:=by
      rw[←HD.out];refine decide_eq_false (fun hall=>he ?_);have:=hall k (by rw[HS.out.length];exact hlk);rw[HX.out,HQ.out]at this;exact this
     subst hd;have ne:(q !=(k:Int))=true:=by simpa using he
     have ne2:(q==(k:Int))=false:=by simpa using he
     go_wp2_with fail;refine(Znj _ _ _ _ _ _ HS.out).mono ?_;rintro e w1 ⟨rfl,rfl⟩;rw[HQ.out];go_wp2_with fail;go_ret;exact⟨rfl,rfl⟩
   ·have hd:D=true:=by
     rw[←HD.out];exact decide_eq_true (fun j hj=>HK.out j (by rw[HS.out.length]at hj;omega))
    subst hd;go_wp2_with fail;go_ret;exact⟨rfl,rfl⟩
def Zi7 (ss:List ByteArray)(k:Nat):Lit:= .string (ss.getD k Qa).data.toList
def Zo0 (ss:List ByteArray)(k:Nat):List Lit:=(ss.take k).map fun s=> .string s.data.toList
def Sn (ss:List ByteArray)(k:Nat):DataW Unit:=setOf (.agg []) (Zo0 ss k)
theorem Zy5 (ss:List ByteArray)(k:Nat)(hk:k<ss.length):Zo0 ss (k+1)=Zo0 ss k++[Zi7 ss k]:=by
 unfold Zo0 Zi7;rw[List.take_add_one,List.map_append];simp[Qd,Qc hk]
theorem Zql (ss:List ByteArray)(k:Nat)(hk:k<ss.length):Sn ss (k+1)=(Sn ss k).put (Zi7 ss k) (.agg []):=by
 unfold Sn;rw[Zy5 ss k hk,setOf_snoc]
theorem Zqm (ss:List ByteArray):Sn ss 0= .map []:=by simp[Sn,Zo0,setOf]
theorem Z8t:Keyed prog 9:=string_keyed Tryz.underlying9
theorem Z6y {s:ByteArray}(h:s.size≤maxLen):keyOf prog 9 (.string s)=some (.string s.data.toList):=keyOf_string_mk Tryz.underlying9 h
def Znx (w:World)(B n:Nat)(ss:List ByteArray):Prop:=w.ownsMap prog 9 (unitElem (H:=Unit)) B n (Sn ss ss.length)
theorem Zr9 {w w':World}{P:Program}{k:TypeId}{R:Value→Option (DataW Unit×List MemPlace)}{B n:Nat}{D:DataW Unit}(h:w.ownsMap P k R B n D)(hb:Below w.heap.size w w'):w'.ownsMap P k R B n D:=by
 obtain⟨es,clock,he,r⟩:=h;have hlt:B<w.heap.size:=by
  rcases Qj B w.heap.size with h|h
  ·exact h
  ·rw[Array.getElem?_eq_none h]at he;cases he
 exact⟨es,clock,(hb.block B hlt).trans he,r⟩
theorem Znx.below {w w':World}{B n:Nat}{ss:List ByteArray}(h:Znx w B n ss)(hb:Below w.heap.size w w'):Znx w' B n ss:=Zr9 h hb
theorem Zvq (ss:List ByteArray)(k:Nat):∀x∈Zo0 ss k,WideAt.IsKeyLit x:=by
 intro x hx;obtain⟨_,_,rfl⟩:=List.mem_map.1 hx;trivial
theorem Zur (s t:ByteArray):(Lit.string s.data.toList).sameKey (.string t.data.toList)=(s.toList==t.toList):=by
 rw[Qn,Qn];rfl
theorem Zv2 (ss:List ByteArray)(k:Nat):Tidy (Sn ss k):=tidy_setOf _ _ (Zvq ss k)
theorem Zpe (n:Int)(w:World):(Instr.makeMap 107 (some (.int .i64 n))).run prog w= .ok (.map (some w.heap.size)) (w.alloc (.map #[] 0)):=by
 simp[Instr.makeMap,run_underlying Tryz.underlying107,asInt,asIntOf,Result.andThen]
theorem Z6m (ss:List ByteArray)(k:Nat)(s:ByteArray):Qq (Sn ss k) (.string s.data.toList)=(ss.take k).any fun x=>x.toList==s.toList:=by
 unfold Sn;rw[has_setOf _ _ _ (Zvq ss k)];unfold Zo0;rw[List.any_map];congr 1
 funext x
 exact Zur x s
theorem Zqb (ss:List ByteArray):∀k,k≤ss.length→Qp (Sn ss k)≤k
 | 0,_=>by rw[Zqm];exact Qk _
 | k+1,h=>by
  have ih:=Zqb ss k (by omega);rw[Zql ss k (by omega),size_put (Zv2 ss k)];show(if Qq (Sn ss k) (Zi7 ss k)=true then Qp (Sn ss k)else Qp (Sn ss k)+1)≤k+1
  split<;>omega
theorem Zv1 (ss:List ByteArray):∀k,k≤ss.length→(Qp (Sn ss k)=k↔∀j,j<k→∀i,i<j→ss.getD i Qa≠ss.getD j Qa)
 | 0,_=>by rw[Zqm];exact⟨fun _ j hj=>absurd hj (Qh j),fun _=>rfl⟩
 | k+1,h=>by
  have ih:=Zv1 ss k (by omega);have hle:=Zqb ss k (by omega);have hs:Qp (Sn ss (k+1))=if Qq (Sn ss k) (Zi7 ss k)=true then Qp (Sn ss k)else Qp (Sn ss k)+1:=by
   rw[Zql ss k (by omega),size_put (Zv2 ss k)]
  have hh:Qq (Sn ss k) (Zi7 ss k)=true↔∃i,i<k∧ss.getD i Qa=ss.getD k Qa:=by
   unfold Zi7;rw[Z6m,List.any_eq_true];constructor
   ·rintro⟨x,hx,he⟩;obtain⟨i,hi,rfl⟩:=Qe hx;have hik:i<k:=by rw[List.length_take]at hi;omega
    refine⟨i,hik, ?_⟩;by_cases e:ss.getD i Qa=ss.getD k Qa
    ·exact e
    ·have:=Zvu e;rw[List.getElem_take]at he;rw[Qd,Qc (by omega:i<ss.length)]at this;rw[Option.getD_some]at this;rw[this]at he;cases he
   ·rintro⟨i,hi,he⟩;refine⟨ss.getD i Qa, ?_,Zvl he⟩;rw[Qd,Qc (by omega:i<ss.length)];exact List.mem_take_iff_getElem.2 ⟨i,by omega,rfl⟩
  rw[hs];by_cases hc:Qq (Sn ss k) (Zi7 ss k)=true
  ·rw[if_pos hc];constructor
   ·intro e;omega
   ·intro hall;obtain⟨i,hi,he⟩:=hh.1 hc;exact absurd he (hall k (by omega) i hi)
  ·rw[if_neg hc];constructor
   ·intro e j hj i hi;by_cases hjk:j<k
    ·exact(ih.1 (by omega)) j hjk i hi
    ·obtain rfl:j=k:=by omega
     exact fun he=>hc (hh.2 ⟨i,hi,he⟩)
   ·intro hall;have:=ih.2 (fun j hj=>hall j (by omega));omega
theorem Z1b (ss:List ByteArray):Zfx ss=true↔∀j,j<ss.length→∀i,i<j→ss.getD i Qa≠ss.getD j Qa:=by
 unfold Zfx;rw[decide_eq_true_eq];constructor
 ·intro h j hj i hi e;have h1:=h i (by omega);rw[e,h j hj]at h1;omega
 ·intro h j hj;refine Zp6 hj (Zrd.2 rfl) (fun k hk hkl=> ?_);cases hc:Zix ss (ss.getD j Qa) k with
  | false=>rfl
  | true=>exact absurd (Zrd.1 hc).symm (h k hkl j hk)
def Zfe (n:Int):Bool:=decide (n=9)||(decide (n=10)||(decide (n=13)||decide (n=32)))
def Zah (n:Int):Bool:=decide (48≤n) && decide (n≤57)
def Zsn:List Int:=[40,41,123,125,58,61,46,44,59,124,92,955,8594,45,62]
def Zfc (n:Int):Bool:=Zsn.contains n
def Zbt (n:Int):Bool:=decide (127<n) && (decide (n≠160) && ((decide (n<8192)||decide (8303<n)) && Zx n))
def Ze0 (n:Int):Bool:=(decide (97≤n) && decide (n≤122))||(decide (65≤n) && decide (n≤90))
def Z5 (n:Int):Bool:=Ze0 n||(Zbt n && !Zfc n)
def Zda (n:Int):Int:=if Zfe n then 1 else if Zah n then 2 else if Zfc n then 3 else if Z5 n then 4 else 0
theorem Zj1 (n:Int)(w:World):Calls prog 161 #[.int .i64 n] w fun e w'=>e= .returned (.bool (Zbt n))∧w=w':=by
 by_cases h1:127<n
 ·by_cases h2:n=160
  ·subst h2;go_enter func161,ntmps161;go_wp2
   go_ret;exact⟨rfl,rfl⟩
  ·by_cases h3:n<8192
   ·have hb:Zbt n=Zx n:=by simp[Zbt,h1,h2,h3]
    have h4: ¬ 8303<n:=by omega
    rw[hb];clear hb;have e2:(n==160)=false:=by simpa using h2
    have e3:(n !=160)=true:=by simpa using h2
    go_enter func161,ntmps161;go_wp2_with fail;refine(Zb9 _ _).mono ?_;rintro e w' ⟨rfl,rfl⟩;go_wp2_with fail;go_ret;exact⟨rfl,rfl⟩
   ·by_cases h4:8303<n
    ·have hb:Zbt n=Zx n:=by simp[Zbt,h1,h2,h4]
     rw[hb];clear hb;have e2:(n==160)=false:=by simpa using h2
     have e3:(n !=160)=true:=by simpa using h2
     go_enter func161,ntmps161;go_wp2_with fail;refine(Zb9 _ _).mono ?_;rintro e w' ⟨rfl,rfl⟩;go_wp2_with fail;go_ret;exact⟨rfl,rfl⟩
    ·have hb:Zbt n=false:=by simp[Zbt,h3,h4]
     rw[hb];clear hb;have e2:(n==160)=false:=by simpa using h2
     have e3:(n !=160)=true:=by simpa using h2
     go_enter func161,ntmps161;go_wp2_with fail;go_ret;exact⟨rfl,rfl⟩
 ·have hb:Zbt n=false:=by simp[Zbt,h1]
  rw[hb];clear hb;go_enter func161,ntmps161;go_wp2_with fail;go_ret;exact⟨rfl,rfl⟩
theorem Z6z (w:World):Calls prog 153 #[.int .i64 9] w fun e w'=>e= .returned (.int .i64 1)∧w=w':=by
 go_enter func153,ntmps153;go_wp2
 go_ret;exact⟨rfl,rfl⟩
theorem Z4i (w:World):Calls prog 153 #[.int .i64 10] w fun e w'=>e= .returned (.int .i64 1)∧w=w':=by
 go_enter func153,ntmps153;go_wp2
 go_ret;exact⟨rfl,rfl⟩
theorem Z4j (w:World):Calls prog 153 #[.int .i64 13] w fun e w'=>e= .returned (.int .i64 1)∧w=w':=by
 go_enter func153,ntmps153;go_wp2
 go_ret;exact⟨rfl,rfl⟩
theorem Z4k (w:World):Calls prog 153 #[.int .i64 32] w fun e w'=>e= .returned (.int .i64 1)∧w=w':=by
 go_enter func153,ntmps153;go_wp2
 go_ret;exact⟨rfl,rfl⟩
theorem Z4l (w:World):Calls prog 153 #[.int .i64 40] w fun e w'=>e= .returned (.int .i64 3)∧w=w':=by
 go_enter func153,ntmps153;go_wp2
 go_ret;exact⟨rfl,rfl⟩
theorem Z4m (w:World):Calls prog 153 #[.int .i64 41] w fun e w'=>e= .returned (.int .i64 3)∧w=w':=by
 go_enter func153,ntmps153;go_wp2
 go_ret;exact⟨rfl,rfl⟩
theorem Z1w (w:World):Calls prog 153 #[.int .i64 123] w fun e w'=>e= .returned (.int .i64 3)∧w=w':=by
 go_enter func153,ntmps153;go_wp2
 go_ret;exact⟨rfl,rfl⟩
theorem Z1y (w:World):Calls prog 153 #[.int .i64 125] w fun e w'=>e= .returned (.int .i64 3)∧w=w':=by
 go_enter func153,ntmps153;go_wp2
 go_ret;exact⟨rfl,rfl⟩
theorem Z4q (w:World):Calls prog 153 #[.int .i64 58] w fun e w'=>e= .returned (.int .i64 3)∧w=w':=by
 go_enter func153,ntmps153;go_wp2
 go_ret;exact⟨rfl,rfl⟩
theorem Z4s (w:World):Calls prog 153 #[.int .i64 61] w fun e w'=>e= .returned (.int .i64 3)∧w=w':=by
 go_enter func153,ntmps153;go_wp2
 go_ret;exact⟨rfl,rfl⟩
theorem Z4p (w:World):Calls prog 153 #[.int .i64 46] w fun e w'=>e= .returned (.int .i64 3)∧w=w':=by
 go_enter func153,ntmps153;go_wp2
 go_ret;exact⟨rfl,rfl⟩
theorem Z4n (w:World):Calls prog 153 #[.int .i64 44] w fun e w'=>e= .returned (.int .i64 3)∧w=w':=by
 go_enter func153,ntmps153;go_wp2
 go_ret;exact⟨rfl,rfl⟩
theorem Z4r (w:World):Calls prog 153 #[.int .i64 59] w fun e w'=>e= .returned (.int .i64 3)∧w=w':=by
 go_enter func153,ntmps153;go_wp2
 go_ret;exact⟨rfl,rfl⟩
theorem Z1x (w:World):Calls prog 153 #[.int .i64 124] w fun e w'=>e= .returned (.int .i64 3)∧w=w':=by
 go_enter func153,ntmps153;go_wp2
 go_ret;exact⟨rfl,rfl⟩
theorem Z4u (w:World):Calls prog 153 #[.int .i64 92] w fun e w'=>e= .returned (.int .i64 3)∧w=w':=by
 go_enter func153,ntmps153;go_wp2
 go_ret;exact⟨rfl,rfl⟩
theorem Z4o (w:World):Calls prog 153 #[.int .i64 45] w fun e w'=>e= .returned (.int .i64 3)∧w=w':=by
 go_enter func153,ntmps153;go_wp2
 go_ret;exact⟨rfl,rfl⟩
theorem Z4t (w:World):Calls prog 153 #[.int .i64 62] w fun e w'=>e= .returned (.int .i64 3)∧w=w':=by
 go_enter func153,ntmps153;go_wp2
 go_ret;exact⟨rfl,rfl⟩
theorem Z1z (w:World):Calls prog 153 #[.int .i64 955] w fun e w'=>e= .returned (.int .i64 3)∧w=w':=by
 go_enter func153,ntmps153;go_wp2
 go_ret;exact⟨rfl,rfl⟩
theorem Zy6 (w:World):Calls prog 153 #[.int .i64 8594] w fun e w'=>e= .returned (.int .i64 3)∧w=w':=by
 go_enter func153,ntmps153;go_wp2
 go_ret;exact⟨rfl,rfl⟩
theorem Zw0 (n:Int)(w:World)(e9:(n==9)=false)(e10:(n==10)=false)(e13:(n==13)=false)(e32:(n==32)=false)(e40:(n==40)=false)(e41:(n==41)=false)(e123:(n==123)=false)(e125:(n==125)=false)(e58:(n==58)=false)(e61:(n==61)=false)(e46:(n==46)=false)(e44:(n==44)=false)(e59:(n==59)=false)(e124:(n==124)=false)(e92:(n==92)=false)(e45:(n==45)=false)(e62:(n==62)=false)(e955:(n==955)=false)(e8594:(n==8594)=false)(a:48≤n)(b:n≤57):Calls prog 153 #[.int .i64 n] w fun e w'=>e= .returned (.int .i64 2)∧w=w':=by
 go_enter func153,ntmps153;go_wp2_with fail;go_ret;exact⟨rfl,rfl⟩
theorem Zw2 (n:Int)(w:World)(e9:(n==9)=false)(e10:(n==10)=false)(e13:(n==13)=false)(e32:(n==32)=false)(e40:(n==40)=false)(e41:(n==41)=false)(e123:(n==123)=false)(e125:(n==125)=false)(e58:(n==58)=false)(e61:(n==61)=false)(e46:(n==46)=false)(e44:(n==44)=false)(e59:(n==59)=false)(e124:(n==124)=false)(e92:(n==92)=false)(e45:(n==45)=false)(e62:(n==62)=false)(e955:(n==955)=false)(e8594:(n==8594)=false)(a:65≤n)(b:n≤90):Calls prog 153 #[.int .i64 n] w fun e w'=>e= .returned (.int .i64 4)∧w=w':=by
 go_enter func153,ntmps153;go_wp2_with fail;go_ret;exact⟨rfl,rfl⟩
theorem Zw1 (n:Int)(w:World)(e9:(n==9)=false)(e10:(n==10)=false)(e13:(n==13)=false)(e32:(n==32)=false)(e40:(n==40)=false)(e41:(n==41)=false)(e123:(n==123)=false)(e125:(n==125)=false)(e58:(n==58)=false)(e61:(n==61)=false)(e46:(n==46)=false)(e44:(n==44)=false)(e59:(n==59)=false)(e124:(n==124)=false)(e92:(n==92)=false)(e45:(n==45)=false)(e62:(n==62)=false)(e955:(n==955)=false)(e8594:(n==8594)=false)(a:97≤n)(b:n≤122):Calls prog 153 #[.int .i64 n] w fun e w'=>e= .returned (.int .i64 4)∧w=w':=by
 go_enter func153,ntmps153;go_wp2_with fail;go_ret;exact⟨rfl,rfl⟩
theorem Z4v (n:Int)(w:World)(e9:(n==9)=false)(e10:(n==10)=false)(e13:(n==13)=false)(e32:(n==32)=false)(e40:(n==40)=false)(e41:(n==41)=false)(e123:(n==123)=false)(e125:(n==125)=false)(e58:(n==58)=false)(e61:(n==61)=false)(e46:(n==46)=false)(e44:(n==44)=false)(e59:(n==59)=false)(e124:(n==124)=false)(e92:(n==92)=false)(e45:(n==45)=false)(e62:(n==62)=false)(e955:(n==955)=false)(e8594:(n==8594)=false)(a:n<48)(hw:Zbt n=false):Calls prog 153 #[.int .i64 n] w fun e w'=>e= .returned (.int .i64 0)∧w=w':=by
 go_enter func153,ntmps153;go_wp2_with fail;refine(Zj1 _ _).mono ?_;rintro e w' ⟨rfl,rfl⟩;rw[hw];go_wp2_with fail;go_ret;exact⟨rfl,rfl⟩
theorem Z4w (n:Int)(w:World)(e9:(n==9)=false)(e10:(n==10)=false)(e13:(n==13)=false)(e32:(n==32)=false)(e40:(n==40)=false)(e41:(n==41)=false)(e123:(n==123)=false)(e125:(n==125)=false)(e58:(n==58)=false)(e61:(n==61)=false)(e46:(n==46)=false)(e44:(n==44)=false)(e59:(n==59)=false)(e124:(n==124)=false)(e92:(n==92)=false)(e45:(n==45)=false)(e62:(n==62)=false)(e955:(n==955)=false)(e8594:(n==8594)=false)(a:57<n)(b:n<65)(hw:Zbt n=false):Calls prog 153 #[.int .i64 n] w fun e w'=>e= .returned (.int .i64 0)∧w=w':=by
 go_enter func153,ntmps153;go_wp2_with fail;refine(Zj1 _ _).mono ?_;rintro e w' ⟨rfl,rfl⟩;rw[hw];go_wp2_with fail;go_ret;exact⟨rfl,rfl⟩
theorem Z4x (n:Int)(w:World)(e9:(n==9)=false)(e10:(n==10)=false)(e13:(n==13)=false)(e32:(n==32)=false)(e40:(n==40)=false)(e41:(n==41)=false)(e123:(n==123)=false)(e125:(n==125)=false)(e58:(n==58)=false)(e61:(n==61)=false)(e46:(n==46)=false)(e44:(n==44)=false)(e59:(n==59)=false)(e124:(n==124)=false)(e92:(n==92)=false)(e45:(n==45)=false)(e62:(n==62)=false)(e955:(n==955)=false)(e8594:(n==8594)=false)(a:90<n)(b:n<97)(hw:Zbt n=false):Calls prog 153 #[.int .i64 n] w fun e w'=>e= .returned (.int .i64 0)∧w=w':=by
 go_enter func153,ntmps153;go_wp2_with fail;refine(Zj1 _ _).mono ?_;rintro e w' ⟨rfl,rfl⟩;rw[hw];go_wp2_with fail;go_ret;exact⟨rfl,rfl⟩
theorem Z4y (n:Int)(w:World)(e9:(n==9)=false)(e10:(n==10)=false)(e13:(n==13)=false)(e32:(n==32)=false)(e40:(n==40)=false)(e41:(n==41)=false)(e123:(n==123)=false)(e125:(n==125)=false)(e58:(n==58)=false)(e61:(n==61)=false)(e46:(n==46)=false)(e44:(n==44)=false)(e59:(n==59)=false)(e124:(n==124)=false)(e92:(n==92)=false)(e45:(n==45)=false)(e62:(n==62)=false)(e955:(n==955)=false)(e8594:(n==8594)=false)(a:122<n)(hw:Zbt n=false):Calls prog 153 #[.int .i64 n] w fun e w'=>e= .returned (.int .i64 0)∧w=w':=by
 go_enter func153,ntmps153;go_wp2_with fail;refine(Zj1 _ _).mono ?_;rintro e w' ⟨rfl,rfl⟩;rw[hw];go_wp2_with fail;go_ret;exact⟨rfl,rfl⟩
theorem Z4z (n:Int)(w:World)(e9:(n==9)=false)(e10:(n==10)=false)(e13:(n==13)=false)(e32:(n==32)=false)(e40:(n==40)=false)(e41:(n==41)=false)(e123:(n==123)=false)(e125:(n==125)=false)(e58:(n==58)=false)(e61:(n==61)=false)(e46:(n==46)=false)(e44:(n==44)=false)(e59:(n==59)=false)(e124:(n==124)=false)(e92:(n==92)=false)(e45:(n==45)=false)(e62:(n==62)=false)(e955:(n==955)=false)(e8594:(n==8594)=false)(a:122<n)(hw:Zbt n=true):Calls prog 153 #[.int .i64 n] w fun e w'=>e= .returned (.int .i64 4)∧w=w':=by
 go_enter func153,ntmps153;go_wp2_with fail;refine(Zj1 _ _).mono ?_;rintro e w' ⟨rfl,rfl⟩;rw[hw];go_wp2_with fail;go_ret;exact⟨rfl,rfl⟩
theorem Zly (n:Int)(w:World):Calls prog 153 #[.int .i64 n] w fun e w'=>e= .returned (.int .i64 (Zda n))∧w=w':=by
 by_cases h9:n=9
 ·subst h9;exact Z6z w
 by_cases h10:n=10
 ·subst h10;exact Z4i w
 by_cases h13:n=13
 ·subst h13;exact Z4j w
 by_cases h32:n=32
 ·subst h32;exact Z4k w
 by_cases h40:n=40
 ·subst h40;exact Z4l w
 by_cases h41:n=41
 ·subst h41;exact Z4m w
 by_cases h123:n=123
 ·subst h123;exact Z1w w
 by_cases h125:n=125
 ·subst h125;exact Z1y w
 by_cases h58:n=58
 ·subst h58;exact Z4q w
 by_cases h61:n=61
 ·subst h61;exact Z4s w
 by_cases h46:n=46
 ·subst h46;exact Z4p w
 by_cases h44:n=44
 ·subst h44;exact Z4n w
 by_cases h59:n=59
 ·subst h59;exact Z4r w
 by_cases h124:n=124
 ·subst h124;exact Z1x w
 by_cases h92:n=92
 ·subst h92;exact Z4u w
 by_cases h45:n=45
 ·subst h45;exact Z4o w
 by_cases h62:n=62
 ·subst h62;exact Z4t w
 by_cases h955:n=955
 ·subst h955;exact Z1z w
 by_cases h8594:n=8594
 ·subst h8594;exact Zy6 w
 have e9:(n==9)=false:=by simpa using h9
 have e10:(n==10)=false:=by simpa using h10
 have e13:(n==13)=false:=by simpa using h13
 have e32:(n==32)=false:=by simpa using h32
 have e40:(n==40)=false:=by simpa using h40
 have e41:(n==41)=false:=by simpa using h41
 have e123:(n==123)=false:=by simpa using h123
 have e125:(n==125)=false:=by simpa using h125
 have e58:(n==58)=false:=by simpa using h58
 have e61:(n==61)=false:=by simpa using h61
 have e46:(n==46)=false:=by simpa using h46
 have e44:(n==44)=false:=by simpa using h44
 have e59:(n==59)=false:=by simpa using h59
 have e124:(n==124)=false:=by simpa using h124
 have e92:(n==92)=false:=by simpa using h92
 have e45:(n==45)=false:=by simpa using h45
 have e62:(n==62)=false:=by simpa using h62
 have e955:(n==955)=false:=by simpa using h955
 have e8594:(n==8594)=false:=by simpa using h8594
 have nb:Zfe n=false:=by simp[Zfe,h9,h10,h13,h32]
 have nm:Zfc n=false:=by simp[Zfc,Zsn,h40,h41,h123,h125,h58,h61,h46,h44,h59,h124,h92,h45,h62,h955,h8594]
 clear h9 h10 h13 h32 h40 h41 h123 h125 h58 h61 h46 h44 h59 h124 h92 h45 h62 h955 h8594;by_cases d:48≤n∧n≤57
 ·have hk:Zda n=2:=by simp[Zda,nb,Zah,d]
  rw[hk];exact Zw0 n w e9 e10 e13 e32 e40 e41 e123 e125 e58 e61 e46 e44 e59 e124 e92 e45 e62 e955 e8594 d.1 d.2
 have nd:Zah n=false:=by simp[Zah];omega
 by_cases u:65≤n∧n≤90
 ·have hk:Zda n=4:=by simp[Zda,nb,nd,nm,Z5,Ze0,u]
  rw[hk];exact Zw2 n w e9 e10 e13 e32 e40 e41 e123 e125 e58 e61 e46 e44 e59 e124 e92 e45 e62 e955 e8594 u.1 u.2
 by_cases l:97≤n∧n≤122
 ·have hk:Zda n=4:=by simp[Zda,nb,nd,nm,Z5,Ze0,l]
  rw[hk];exact Zw1 n w e9 e10 e13 e32 e40 e41 e123 e125 e58 e61 e46 e44 e59 e124 e92 e45 e62 e955 e8594 l.1 l.2
 have np:Ze0 n=false:=by
  cases hp:Ze0 n with
  | false=>rfl
  | true=>simp only[Ze0,Qm,Ql,decide_eq_true_eq]at hp;omega
 have hk:Zda n=if Zbt n then 4 else 0:=by simp[Zda,nb,nd,nm,Z5,np]
 rw[hk];clear hk nb nd np nm;cases hw:Zbt n with
 | true=>
  have:127<n:=by
   simp only[Zbt,Ql,decide_eq_true_eq]at hw;exact hw.1
  exact Z4z n w e9 e10 e13 e32 e40 e41 e123 e125 e58 e61 e46 e44 e59 e124 e92 e45 e62 e955 e8594 (by omega) hw
 | false=>
  by_cases r1:n<48
  ·exact Z4v n w e9 e10 e13 e32 e40 e41 e123 e125 e58 e61 e46 e44 e59 e124 e92 e45 e62 e955 e8594 r1 hw
  ·by_cases r2:n<65
   ·exact Z4w n w e9 e10 e13 e32 e40 e41 e123 e125 e58 e61 e46 e44 e59 e124 e92 e45 e62 e955 e8594 (by omega) r2 hw
   ·by_cases r3:n<97
    ·exact Z4x n w e9 e10 e13 e32 e40 e41 e123 e125 e58 e61 e46 e44 e59 e124 e92 e45 e62 e955 e8594 (by omega) r3 hw
    ·exact Z4y n w e9 e10 e13 e32 e40 e41 e123 e125 e58 e61 e46 e44 e59 e124 e92 e45 e62 e955 e8594 (by omega) hw
theorem Zn9 {n:Int}(h:Zfe n=true):n=9∨n=10∨n=13∨n=32:=by
 simpa [Zfe]using h
theorem Zw5 {n:Int}(h:Zfc n=true):n=40∨n=41∨n=123∨n=125∨n=58∨n=61∨n=46∨n=44∨n=59∨n=124∨n=92∨n=955∨n=8594∨n=45∨n=62:=by
 simpa [Zfc,Zsn]using h
theorem Zod {n:Int}:Zah n=true↔48≤n∧n≤57:=by simp[Zah]
theorem Zjw {n:Int}(h:Z5 n=true):(97≤n∧n≤122)∨(65≤n∧n≤90)∨(127<n∧Zfc n=false):=by
 simp only[Z5,Ze0,Zbt,Qm,Ql,decide_eq_true_eq,Bool.not_eq_true']at h;rcases h with (h|h)|⟨⟨h,_⟩,h2⟩
 ·exact .inl h
 ·exact .inr (.inl h)
 ·exact .inr (.inr ⟨h,h2⟩)
theorem Zpy {n:Int}(h:Zah n=true):Zfe n=false:=by
 cases hb:Zfe n with
 | false=>rfl
 | true=>have:=Zod.1 h;rcases Zn9 hb with h|h|h|h<;>omega
theorem Zw4 {n:Int}(h:Z5 n=true):Zfe n=false∧Zah n=false∧Zfc n=false:=by
 refine⟨?_, ?_, ?_⟩
 ·cases hb:Zfe n with
  | false=>rfl
  | true=>have:=Zn9 hb;have:=Zjw h;omega
 ·cases hb:Zah n with
  | false=>rfl
  | true=>have:=Zod.1 hb;have:=Zjw h;omega
 ·cases hb:Zfc n with
  | false=>rfl
  | true=>
   have h1:=Zw5 hb;rcases Zjw h with h|h|⟨_,h⟩
   ·omega
   ·omega
   ·rw[hb]at h;cases h
theorem Zoh {n:Int}:(Zda n=2)↔Zah n=true:=by
 constructor
 ·unfold Zda;cases Zfe n<;>cases Zah n<;>cases Zfc n<;>cases Z5 n<;>simp
 ·intro h;simp[Zda,Zpy h,h]
theorem Zoi {n:Int}:(Zda n=4)↔Z5 n=true:=by
 constructor
 ·unfold Zda;cases Zfe n<;>cases Zah n<;>cases Zfc n<;>cases Z5 n<;>simp
 ·intro h;obtain⟨a,b,c⟩:=Zw4 h;simp[Zda,a,b,c,h]
theorem Zq7 (n:Int)(w:World):Calls prog 139 #[.int .i64 n] w fun e w'=>e= .returned (.bool (Zah n))∧w=w':=by
 cases hb:Zah n with
 | true=>
  have hk:Zda n=2:=Zoh.2 hb;clear hb;go_enter func139,ntmps139;go_wp2_with fail;refine(Zly _ _).mono ?_;rintro e w' ⟨rfl,rfl⟩;rw[hk];go_wp2_with fail;go_ret;exact⟨rfl,rfl⟩
 | false=>
  have hk:(Zda n==2)=false:=by
   rw[beq_eq_false_iff_ne];intro e;rw[Zoh.1 e]at hb;cases hb
  clear hb;go_enter func139,ntmps139;go_wp2_with fail;refine(Zly _ _).mono ?_;rintro e w' ⟨rfl,rfl⟩;go_wp2_with fail;go_ret;exact⟨rfl,rfl⟩
theorem Zhc (n:Int)(w:World):Calls prog 138 #[.int .i64 n] w fun e w'=>e= .returned (.bool (Z5 n))∧w=w':=by
 cases hb:Z5 n with
 | true=>
  have hk:Zda n=4:=Zoi.2 hb;clear hb;go_enter func138,ntmps138;go_wp2_with fail;refine(Zly _ _).mono ?_;rintro e w' ⟨rfl,rfl⟩;rw[hk];go_wp2_with fail;go_ret;exact⟨rfl,rfl⟩
 | false=>
  have hk:(Zda n==4)=false:=by
   rw[beq_eq_false_iff_ne];intro e;rw[Zoi.1 e]at hb;cases hb
  clear hb;go_enter func138,ntmps138;go_wp2_with fail;refine(Zly _ _).mono ?_;rintro e w' ⟨rfl,rfl⟩;go_wp2_with fail;go_ret;exact⟨rfl,rfl⟩
theorem Zfp (n:Int)(w:World):Calls prog 61 #[.int .i64 n] w fun e w'=>e= .returned (.bool (Zah n))∧w=w':=by
 by_cases h1:48≤n
 ·by_cases h2:n≤57
  ·have hb:Zah n=true:=by simp[Zah,h1,h2]
   rw[hb];clear hb;go_enter func61,ntmps61;go_wp2
   go_ret;exact⟨rfl,rfl⟩
  ·have hb:Zah n=false:=by simp[Zah,h2]
   rw[hb];clear hb;go_enter func61,ntmps61;go_wp2
   go_ret;exact⟨rfl,rfl⟩
 ·have hb:Zah n=false:=by simp[Zah,h1]
  rw[hb];clear hb;go_enter func61,ntmps61;go_wp2
  go_ret;exact⟨rfl,rfl⟩
theorem Z6w (xs:List Int)(b len cap:Nat)(n:Int)(w:World)(r:Bool)(hr:xs.contains n=r)(hl:xs.length=len)(hm:len≤9223372036854775807)
    (hc:∀i,i<len→w.cell? ⟨b,i,none⟩=some (.int .i64 (xs.getD i 0))):
    Calls prog 114 #[.slice (some ⟨b,0,none⟩) len cap,.int .i64 n] w fun e w'=>e= .returned (.bool r)∧w=w':=by
  have HR:=hid hr;clear hr;have HC:=hid hc;have HL:=hid hl;clear hc hl;go_enter func114,ntmps114;go_wp2_with fail;go_loop [5] (fun i=>∃j:Nat,j≤len∧i= .int .i64 j∧Hid (∀k,k<j→xs.getD k 0≠n)) (fun i=>len - (intOf i).toNat)
  case atStart=>exact⟨0,Qi _,rfl,hid (fun k hk=>absurd hk (Qh k))⟩
  case round=>
    obtain⟨j,hj,rfl,HA⟩:=hrel;by_cases hlt:j<len
    · have hcell:=HC.out j hlt;obtain⟨x,hx⟩:∃x,xs.getD j 0=x:=⟨_,rfl⟩;rw[hx]at hcell;have HX:=hid hx;clear hx;by_cases he:x=n
      · subst he;have hin:xs.contains x=true:=by
          have hjl:j<xs.length:=by rw[HL.out];exact hlt
          have:xs[j]=x:=by have:=HX.out;rwa [Qd,Qc hjl]at this
          rw[Qf];exact this ▸ List.getElem_mem hjl
        obtain rfl:r=true:=HR.out.symm.trans hin;clear hin;go_wp2_with fail;go_ret;exact⟨rfl,rfl⟩
      · have ne:(x==n)=false:=by simpa using he
        go_wp2_with fail;go_round
        case rel=>
          refine⟨j+1,by omega,by go_num,hid (fun k hk=> ?_)⟩;by_cases hkj:k<j
          · exact HA.out k hkj
          · obtain rfl:k=j:=by omega
            rw[HX.out];exact he
        case measure=>simp[intOf];omega
    · have hin:xs.contains n=false:=by
        rw[←Bool.not_eq_true,Qf];intro hmem;obtain⟨k,hk,hk2⟩:=Qe hmem;have hkl:k<len:=by rw[←HL.out];exact hk
        apply HA.out k (by omega)
        rw[Qd,Qc hk];exact hk2
      obtain rfl:r=false:=HR.out.symm.trans hin;clear hin;go_wp2_with fail;go_ret;exact⟨rfl,rfl⟩
theorem Zgg (n:Int)(w:World):Calls prog 93 #[.int .i64 n] w fun e w'=>e= .returned (.bool (Zfc n))∧Below w.heap.size w w':=by
 obtain⟨r,hr⟩:∃r,Zfc n=r:=⟨_,rfl⟩;rw[hr];have HR:=hid hr;clear hr;go_enter func93,ntmps93;go_wp2_with fail;refine(Z6w Zsn _ _ _ _ _ r HR.out rfl (by decide) ?_).mono ?_
 ·intro i hi;rw[World.cell?_alloc_mark]
  match i,hi with
  | 0,_=>rfl|1,_=>rfl|2,_=>rfl|3,_=>rfl|4,_=>rfl|5,_=>rfl|6,_=>rfl|7,_=>rfl
  | 8,_=>rfl|9,_=>rfl|10,_=>rfl|11,_=>rfl|12,_=>rfl|13,_=>rfl|14,_=>rfl
 rintro e w' ⟨rfl,rfl⟩;go_wp2_with fail;go_ret;exact⟨rfl,(Qo _ _).alloc (Qk _) _⟩
theorem Za9 (n:Int)(w:World):Calls prog 60 #[.int .i64 n] w fun e w'=>e= .returned (.bool (Z5 n))∧Below w.heap.size w w':=by
 by_cases l:97≤n∧n≤122
 ·obtain⟨l1,l2⟩:=l;have hb:Z5 n=true:=by simp[Z5,Ze0,l1,l2]
  rw[hb];clear hb;go_enter func60,ntmps60;go_wp2_with fail;go_ret;exact⟨rfl,Qo _ _⟩
 by_cases u:65≤n∧n≤90
 ·obtain⟨u1,u2⟩:=u;have hb:Z5 n=true:=by simp[Z5,Ze0,u1,u2]
  rw[hb];clear hb l;go_enter func60,ntmps60;go_wp2_with fail;go_ret;exact⟨rfl,Qo _ _⟩
 have np:Ze0 n=false:=by
  cases hp:Ze0 n with
  | false=>rfl
  | true=>simp only[Ze0,Qm,Ql,decide_eq_true_eq]at hp;omega
 by_cases g:128≤n
 ·clear l u;have g1:127<n:=by omega
  have g2:122<n:=by omega
  cases hr:Zx n with
  | false=>
   have hb:Z5 n=false:=by simp[Z5,np,Zbt,hr]
   rw[hb];clear hb np;go_enter func60,ntmps60;go_wp2_with fail;refine(Jp _ _).mono ?_;rintro e w' ⟨rfl,rfl⟩;rw[hr];go_wp2_with fail;go_ret;exact⟨rfl,Qo _ _⟩
  | true=>
   cases hm:Zfc n with
   | true=>
    have hb:Z5 n=false:=by simp[Z5,np,hm]
    rw[hb];clear hb np;go_enter func60,ntmps60;go_wp2_with fail;refine(Jp _ _).mono ?_;rintro e w' ⟨rfl,rfl⟩;rw[hr];go_wp2_with fail;refine(Zgg _ _).mono ?_;rintro e w1 ⟨rfl,hb1⟩;rw[hm];go_wp2_with fail;go_ret;exact⟨rfl,hb1⟩
   | false=>
    by_cases h160:n=160
    ·have hb:Z5 n=false:=by subst h160;decide
     rw[hb];clear hb np;subst h160;go_enter func60,ntmps60;go_wp2_with fail;refine(Jp _ _).mono ?_;rintro e w' ⟨rfl,rfl⟩;rw[hr];go_wp2_with fail;refine(Zgg _ _).mono ?_;rintro e w1 ⟨rfl,hb1⟩;rw[hm];go_wp2_with fail;go_ret;exact⟨rfl,hb1⟩
    ·have e160:(n==160)=false:=by simpa using h160
     have f160:(n !=160)=true:=by simpa using h160
     by_cases h3:8192≤n
     ·by_cases h4:n≤8303
      ·have hb:Z5 n=false:=by simp[Z5,np,Zbt,hm];omega
       rw[hb];clear hb np h160;have d4:decide (n≤8303)=true:=by simpa using h4
       go_enter func60,ntmps60;go_wp2_with fail;refine(Jp _ _).mono ?_;rintro e w' ⟨rfl,rfl⟩;rw[hr];go_wp2_with fail;refine(Zgg _ _).mono ?_;rintro e w1 ⟨rfl,hb1⟩;rw[hm];go_wp2_with fail;go_ret;exact⟨rfl,hb1⟩
      ·have hb:Z5 n=true:=by simp[Z5,np,Zbt,hm,hr,h160];omega
       rw[hb];clear hb np h160;have d4:decide (n≤8303)=false:=decide_eq_false h4;go_enter func60,ntmps60;go_wp2_with fail;refine(Jp _ _).mono ?_;rintro e w' ⟨rfl,rfl⟩;rw[hr];go_wp2_with fail;refine(Zgg _ _).mono ?_;rintro e w1 ⟨rfl,hb1⟩;rw[hm];go_wp2_with fail;go_ret;exact⟨rfl,hb1⟩
     ·have hb:Z5 n=true:=by simp[Z5,np,Zbt,hm,hr,h160];omega
      rw[hb];clear hb np h160;go_enter func60,ntmps60;go_wp2_with fail;refine(Jp _ _).mono ?_;rintro e w' ⟨rfl,rfl⟩;rw[hr];go_wp2_with fail;refine(Zgg _ _).mono ?_;rintro e w1 ⟨rfl,hb1⟩;rw[hm];go_wp2_with fail;go_ret;exact⟨rfl,hb1⟩
 ·have hb:Z5 n=false:=by simp[Z5,np,Zbt];omega
  rw[hb];clear hb np;by_cases a1:97≤n
  ·have a2: ¬ n≤122:=by omega
   have a3: ¬ n≤90:=by omega
   have a4:65≤n:=by omega
   clear l u;go_enter func60,ntmps60;go_wp2_with fail;go_ret;exact⟨rfl,Qo _ _⟩
  ·by_cases a3:65≤n
   ·have a4: ¬ n≤90:=by omega
    clear l u;go_enter func60,ntmps60;go_wp2_with fail;go_ret;exact⟨rfl,Qo _ _⟩
   ·clear l u;go_enter func60,ntmps60;go_wp2_with fail;go_ret;exact⟨rfl,Qo _ _⟩
def Zdi (n:Int):Bool:=decide (n=95)||(decide (n=39)||(Zah n||Z5 n))
theorem Zmf (n:Int)(w:World):Calls prog 123 #[.int .i64 n] w fun e w'=>e= .returned (.bool (Zdi n))∧w=w':=by
 by_cases h1:n=95
 ·subst h1;go_enter func123,ntmps123;go_wp2_with fail;go_ret;exact⟨rfl,rfl⟩
 by_cases h2:n=39
 ·subst h2;go_enter func123,ntmps123;go_wp2_with fail;go_ret;exact⟨rfl,rfl⟩
 have e1:(n==95)=false:=by simpa using h1
 have e2:(n==39)=false:=by simpa using h2
 have hb:Zdi n=(Zah n||Z5 n):=by simp[Zdi,h1,h2]
 rw[hb];clear hb h1 h2;cases hd:Zah n with
 | true=>
  go_enter func123,ntmps123;go_wp2_with fail;refine(Zq7 _ _).mono ?_;rintro e w' ⟨rfl,rfl⟩;rw[hd];go_wp2_with fail;go_ret;exact⟨rfl,rfl⟩
 | false=>
  go_enter func123,ntmps123;go_wp2_with fail;refine(Zq7 _ _).mono ?_;rintro e w' ⟨rfl,rfl⟩;rw[hd];go_wp2_with fail;refine(Zhc _ _).mono ?_;rintro e w' ⟨rfl,rfl⟩;go_wp2_with fail;go_ret;exact⟨by simp,rfl⟩
def Zwh:List Int→Bool
 | []=>false
 | n::r=>Z5 n||(decide (n=95) && decide (0<r.length))
structure Zdr (s:ByteArray) (ns:List Int):Prop where
 parse:Zc0 (Zm s) ns []
 size:s.size≤40
 key:Ziy s=false
 beg:Zwh ns=true
 all:ns.all Zdi=true
theorem Zhf {w:World}{base:Nat}{v:Value}{n:Nat}{xs:List Int}(h:w.ownsRow base 3 1 v n (xs.map (Value.int .i64)))(hx:xs.length=n)(hn:0<n):
  ∃g cap,v= .slice (some ⟨g,0,none⟩) n cap∧g<w.heap.size∧∀i,i<n→w.cell? ⟨g,i,none⟩=some (.int .i64 (xs.getD i 0)):=by
 obtain⟨g,cap,hv,hlt,hc⟩:=Zzu h hx hn;exact⟨g,cap,hv,hlt,fun i hi=>by have:=hc i hi;rwa [Nat.zero_add]at this⟩
theorem Zsx (a:Option Addr)(c:Nat)(w:World):Calls prog 122 #[.slice a 0 c] w fun e w'=>e= .returned (.bool false)∧w=w':=by
 go_enter func122,ntmps122;go_wp2_with fail;go_ret;exact⟨rfl,rfl⟩
theorem Zlg (b len cap:Nat)(x:Int)(w:World)(r:Bool)(h0:0<len)(hm:len≤140737488355328)(hc:w.cell? ⟨b,0,none⟩=some (.int .i64 x))(hr:(Z5 x||(decide (x=95) && decide (1<len)))=r):
  Calls prog 122 #[.slice (some ⟨b,0,none⟩) len cap] w fun e w'=>e= .returned (.bool r)∧w=w':=by
 have e0:((len:Int)==0)=false:=by rw[beq_eq_false_iff_ne];omega
 cases hl:Z5 x with
 | true=>
  obtain rfl:r=true:=by rw[←hr,hl];rfl
  clear hr;go_enter func122,ntmps122;go_wp2_with fail;refine(Zhc _ _).mono ?_;rintro e w' ⟨rfl,rfl⟩;rw[hl];go_wp2_with fail;go_ret;exact⟨rfl,rfl⟩
 | false=>
  by_cases h95:x=95
  ·by_cases h1:1<len
   ·obtain rfl:r=true:=by rw[←hr,hl];simp[h95,h1]
    clear hr;subst h95;have d1:decide ((1:Int)<(len:Int))=true:=decide_eq_true (by omega);go_enter func122,ntmps122;go_wp2_with fail;refine(Zhc _ _).mono ?_;rintro e w' ⟨rfl,rfl⟩;rw[hl];go_wp2_with fail;go_ret;exact⟨rfl,rfl⟩
   ·obtain rfl:r=false:=by rw[←hr,hl];simp[h1]
    clear hr;subst h95;obtain rfl:len=1:=by omega
    go_enter func122,ntmps122;go_wp2_with fail;refine(Zhc _ _).mono ?_;rintro e w' ⟨rfl,rfl⟩;rw[hl];go_wp2_with fail;go_ret;exact⟨rfl,rfl⟩
  ·obtain rfl:r=false:=by rw[←hr,hl];simp[h95]
   clear hr;have e95:(x==95)=false:=by simpa using h95
   clear h95;go_enter func122,ntmps122;go_wp2_with fail;refine(Zhc _ _).mono ?_;rintro e w' ⟨rfl,rfl⟩;rw[hl];go_wp2_with fail;go_ret;exact⟨rfl,rfl⟩
theorem Zkx {ns:List Int}(h:0<ns.length):(Z5 (ns.getD 0 0)||(decide (ns.getD 0 0=95) && decide (1<ns.length)))=Zwh ns:=by
 match ns,h with
 | n::r,_=>simp[Zwh]
theorem Zpr {ns:List Int}:ns.all Zdi=true↔∀j,j<ns.length→Zdi (ns.getD j 0)=true:=by
 rw[List.all_eq_true];constructor
 ·exact fun h j hj=>h _ (Zs9 hj)
 ·intro h x hx;obtain⟨i,hi,rfl⟩:=Qe hx;have:=h i hi
  rwa [Qd,Qc hi]at this
theorem Zz6 (s:ByteArray)(ns:List Int)(w:World)(h:Zdr s ns):
  Calls prog 104 #[.string s] w fun e w'=>e= .returned (.bool true)∧Below w.heap.size w w':=by
 obtain⟨hp,h40,hk,hb,hall⟩:=h;have hpos:0<ns.length:=by
  match ns,hb with
  | n::r,_=>simp
 have hlen:ns.length≤s.size:=by have:=Zb7 hp;rw[Jf]at this;have:=Za8 ns;simp at*;omega
 have HK:=hid hk;have HB:=hid ((Zkx hpos).trans hb);have HA:=hid (Zpr.1 hall);have HP:=hid hp;have hd:decide ((40:Int)<(s.size:Int))=false:=decide_eq_false (by omega);clear hk hb hall hp;go_enter func104,ntmps104;go_wp2_with fail;refine(Ze7 _ _).mono ?_;rintro e w1 ⟨rfl,rfl⟩;rw[HK.out];go_wp2_with fail;refine(Zps s ns _ (by omega) HP.out).mono ?_;rintro e w1 ⟨v,rfl,hown,hb1⟩;obtain⟨n,hn⟩:∃n,ns.length=n:=⟨_,rfl⟩;rw[hn]at hown hpos hlen HA;obtain⟨g,cap,rfl,hlt,hc⟩:=Zhf hown hn hpos;clear hown;have hc0:=hc 0 hpos;have HC:=hid hc;have HN:=hid hn;clear hc hn;go_wp2_with fail;refine(Zlg _ _ _ _ _ true hpos (by omega) hc0 (by rw[←HN.out];exact HB.out)).mono ?_;rintro e w2 ⟨rfl,rfl⟩;go_wp2_with fail;go_loop [30] (fun i=>∃k:Nat,k≤n∧i= .int .i64 k) (fun i=>n - (intOf i).toNat)
 case atStart=>exact⟨0,Qi _,rfl⟩
 case round=>
  obtain⟨k,hk,rfl⟩:=hrel;by_cases hlk:k<n
  ·have hcell:=HC.out k hlk;have hw:=HA.out k hlk;obtain⟨x,hx⟩:∃x,ns.getD k 0=x:=⟨_,rfl⟩;rw[hx]at hcell hw;clear hx;go_wp2_with fail;refine(Zmf _ _).mono ?_;rintro e w2 ⟨rfl,rfl⟩;rw[hw];go_wp2_with fail;go_round
   case rel=>exact⟨k+1,by omega,by go_num⟩
   case measure=>simp[intOf];omega
  ·go_wp2_with fail;go_ret;exact⟨rfl,hb1⟩
theorem Z2q (s:ByteArray)(w:World)(hs:s.size≤9223372036854775807)(h: ¬ ∃ns,Zdr s ns):
  Calls prog 104 #[.string s] w fun e w'=>e= .returned (.bool false)∧Below w.heap.size w w':=by
 by_cases h40:40<s.size
 ·clear h;go_enter func104,ntmps104;go_wp2_with fail;go_ret;exact⟨rfl,Qo _ _⟩
 have hd:decide ((40:Int)<(s.size:Int))=false:=decide_eq_false (by omega);cases hk:Ziy s with
 | true=>
  clear h;go_enter func104,ntmps104;go_wp2_with fail;refine(Ze7 _ _).mono ?_;rintro e w1 ⟨rfl,rfl⟩;rw[hk];go_wp2_with fail;go_ret;exact⟨rfl,Qo _ _⟩
 | false=>
  obtain⟨ns,r,hp⟩:=Zrn s;by_cases hr:r=[]
  ·subst hr;have hlen:ns.length≤s.size:=by have:=Zb7 hp;rw[Jf]at this;have:=Za8 ns;simp at*;omega
   by_cases h0:ns.length=0
   ·clear h;go_enter func104,ntmps104;go_wp2_with fail;refine(Ze7 _ _).mono ?_;rintro e w1 ⟨rfl,rfl⟩;rw[hk];go_wp2_with fail;refine(Zps s ns _ (by omega) hp).mono ?_;rintro e w1 ⟨v,rfl,hown,hb1⟩;rw[h0]at hown;obtain⟨a,cap,rfl⟩:=Zij hown;clear hown h0;go_wp2_with fail;refine(Zsx _ _ _).mono ?_;rintro e w2 ⟨rfl,rfl⟩;go_wp2_with fail;go_ret;exact⟨rfl,hb1⟩
   ·have hpos:0<ns.length:=by omega
    clear h0;cases hb:Zwh ns with
    | false=>
     have HB:=hid ((Zkx hpos).trans hb);clear h hb;go_enter func104,ntmps104;go_wp2_with fail;refine(Ze7 _ _).mono ?_;rintro e w1 ⟨rfl,rfl⟩;rw[hk];go_wp2_with fail;refine(Zps s ns _ (by omega) hp).mono ?_;rintro e w1 ⟨v,rfl,hown,hb1⟩;obtain⟨n,hn⟩:∃n,ns.length=n:=⟨_,rfl⟩;rw[hn]at hown hpos hlen;obtain⟨g,cap,rfl,hlt,hc⟩:=Zhf hown hn hpos;have hc0:=hc 0 hpos;have HN:=hid hn;clear hc hn hown;go_wp2_with fail;refine(Zlg _ _ _ _ _ false hpos (by omega) hc0 (by rw[←HN.out];exact HB.out)).mono ?_;rintro e w2 ⟨rfl,rfl⟩;go_wp2_with fail;go_ret;exact⟨rfl,hb1⟩
    | true=>
     have hall: ¬ ∀j,j<ns.length→Zdi (ns.getD j 0)=true:=fun hh=>h ⟨ns,hp,by omega,hk,hb,Zpr.2 hh⟩;have HB:=hid ((Zkx hpos).trans hb);have HP:=hid hp;have HK:=hid hk;have HA:=hid hall;clear h hb hp hk hall;go_enter func104,ntmps104;go_wp2_with fail;refine(Ze7 _ _).mono ?_;rintro e w1 ⟨rfl,rfl⟩;rw[HK.out];go_wp2_with fail;refine(Zps s ns _ (by omega) HP.out).mono ?_;rintro e w1 ⟨v,rfl,hown,hb1⟩;obtain⟨n,hn⟩:∃n,ns.length=n:=⟨_,rfl⟩;rw[hn]at hown hpos hlen HA;obtain⟨g,cap,rfl,hlt,hc⟩:=Zhf hown hn hpos;clear hown;have hc0:=hc 0 hpos;have HC:=hid hc;have HN:=hid hn;clear hc hn;go_wp2_with fail;refine(Zlg _ _ _ _ _ true hpos (by omega) hc0 (by rw[←HN.out];exact HB.out)).mono ?_;rintro e w2 ⟨rfl,rfl⟩;go_wp2_with fail;go_loop [30] (fun i=>∃k:Nat,k≤n∧i= .int .i64 k∧Hid (∀j,j<k→Zdi (ns.getD j 0)=true)) (fun i=>n - (intOf i).toNat)
     case atStart=>exact⟨0,Qi _,rfl,hid (fun j hj=>absurd hj (Qh j))⟩
     case round=>
      obtain⟨k,hk,rfl,HW⟩:=hrel;have hlk:k<n:=by
       rcases Qj k n with h|h
       ·exact h
       ·exact absurd (fun j hj=>HW.out j (by omega)) HA.out
      have hcell:=HC.out k hlk;obtain⟨x,hx⟩:∃x,ns.getD k 0=x:=⟨_,rfl⟩;rw[hx]at hcell;have HX:=hid hx;clear hx;cases hw:Zdi x with
      | true=>
       go_wp2_with fail;refine(Zmf _ _).mono ?_;rintro e w2 ⟨rfl,rfl⟩;rw[hw];go_wp2_with fail;go_round
       case rel=>
        refine⟨k+1,by omega,by go_num,hid (fun j hj=> ?_)⟩;by_cases hjk:j<k
        ·exact HW.out j hjk
        ·obtain rfl:j=k:=by omega
         rw[HX.out];exact hw
       case measure=>simp[intOf];omega
      | false=>
       go_wp2_with fail;refine(Zmf _ _).mono ?_;rintro e w2 ⟨rfl,rfl⟩;rw[hw];go_wp2_with fail;go_ret;exact⟨rfl,hb1⟩
  ·clear h;go_enter func104,ntmps104;go_wp2_with fail;refine(Ze7 _ _).mono ?_;rintro e w1 ⟨rfl,rfl⟩;rw[hk];go_wp2_with fail;refine(Z3t s ns r _ (by omega) hp hr).mono ?_;rintro e w1 ⟨rfl,hb1⟩;go_wp2_with fail;go_ret;exact⟨rfl,hb1⟩
def Zm8 (x:Int)(j:Nat):Prop:=Z5 x=true∨x=95∨(j≠0∧(Zah x=true∨x=39))
theorem Zun {x:Int}{j:Nat}(h:Zm8 x j):Zdi x=true:=by
 unfold Zdi;rcases h with h|h|⟨_,h|h⟩<;>simp[h]
theorem Z5m {x:Int}{j:Nat}(h:Zdi x=true)(hj:j≠0):Zm8 x j:=by
 unfold Zdi at h;simp only[Qm,decide_eq_true_eq]at h;rcases h with h|h|h|h
 ·exact .inr (.inl h)
 ·exact .inr (.inr ⟨hj,.inr h⟩)
 ·exact .inr (.inr ⟨hj,.inl h⟩)
 ·exact .inl h
theorem Zt0 {s:ByteArray}(h:s.toList=[95]):Zm s=[95]:=by
 rw[Qn]at h;unfold Zm;rw[h];rfl
theorem Zs0 {s:ByteArray}(h:Zm s=[95]):s.toList=[95]:=by
 have e:s=⟨#[95]⟩:=Zpu h;rw[e,Qn]
theorem Zrg {s:ByteArray}{ns:List Int}(hp:Zc0 (Zm s) ns []):s.toList=[95]↔ns=[95]:=by
 constructor
 ·intro h;have hb:=Zt0 h;rw[hb]at hp;exact(Znb hp (Zkh (ns:=[95]) (by intro n hn;simp at hn;subst hn;decide))).1
 ·rintro rfl;exact Zs0 (by have:=hp.eq;rw[List.append_nil]at this;exact this)
theorem Z48 {s:ByteArray}{ns:List Int}(h:Zdr s ns):(s.toList==[95])=false∧0<ns.length∧∀j,j<ns.length→Zm8 (ns.getD j 0) j:=by
 obtain⟨hp,h40,hk,hb,hall⟩:=h;have hpos:0<ns.length:=by
  match ns,hb with
  | n::r,_=>simp
 refine⟨?_,hpos,fun j hj=> ?_⟩
 ·rw[beq_eq_false_iff_ne];intro e;rw[(Zrg hp).1 e]at hb;exact absurd hb (by decide)
 ·by_cases hj0:j=0
  ·subst hj0;have:=(Zkx hpos).trans hb;simp only[Qm,Ql,decide_eq_true_eq]at this;rcases this with h|⟨h,_⟩
   ·exact .inl h
   ·exact .inr (.inl h)
  ·exact Z5m (Zpr.1 hall j hj) hj0
theorem Z5n {s:ByteArray}{ns:List Int}(hp:Zc0 (Zm s) ns [])(h40:s.size≤40)(hk:Ziy s=false)(h95:(s.toList==[95])=false)(hpos:0<ns.length)(hall:∀j,j<ns.length→Zm8 (ns.getD j 0) j):Zdr s ns:=by
 refine⟨hp,h40,hk, ?_,Zpr.2 fun j hj=>Zun (hall j hj)⟩;rw[←Zkx hpos];rcases hall 0 hpos with h|h|⟨h,_⟩
 ·rw[h];rfl
 ·have h1:1<ns.length:=by
   rcases Qj 1 ns.length with h1|h1
   ·exact h1
   ·exfalso
    rw[beq_eq_false_iff_ne]at h95;apply h95
    rw[Zrg hp]
    match ns,hpos,h1,h with
    | [n],_,_,h=>
     have:n=95:=h;rw[this]
  rw[decide_eq_true h,decide_eq_true h1];simp
 ·exact absurd rfl h
theorem Ztp (s:ByteArray)(ns:List Int)(w:World)(h:Zdr s ns):
  Calls prog 30 #[.string s] w fun e w'=>e= .returned (.bool true)∧Below w.heap.size w w':=by
 obtain⟨h95,hpos,hok⟩:=Z48 h;obtain⟨hp,h40,hk,hb,hall⟩:=h;have hlen:ns.length≤s.size:=by have:=Zb7 hp;rw[Jf]at this;have:=Za8 ns;simp at*;omega
 have HK:=hid hk;have HA:=hid hok;have HP:=hid hp;have hd:decide ((40:Int)<(s.size:Int))=false:=decide_eq_false (by omega);have e0:((s.size:Int)==0)=false:=by rw[beq_eq_false_iff_ne];omega
 clear hk hb hall hp hok;go_enter func30,ntmps30;go_wp2_with fail;refine(Zg1 s ns _ (by omega) HP.out).mono ?_;rintro e w1 ⟨v,rfl,hown,hb1⟩;obtain⟨n,hn⟩:∃n,ns.length=n:=⟨_,rfl⟩;rw[hn]at hown hpos hlen HA;obtain⟨g,cap,rfl,hlt,hc⟩:=Zhf hown hn hpos;clear hown;have HC:=hid hc;clear hc hn;go_wp2_with fail;refine(Zf6 _ _).mono ?_;rintro e w2 ⟨rfl,rfl⟩;rw[HK.out];go_wp2_with fail;go_loopw [6] (fun i wr=>∃k:Nat,k≤n∧i= .int .i64 k∧Below w1.heap.size w1 wr) (fun i _=>n - (intOf i).toNat)
 case atStart=>exact⟨0,Qi _,rfl,Qo _ _⟩
 case round=>
  obtain⟨k,hk,rfl,hB⟩:=hrel;by_cases hlk:k<n
  ·have hcell:=(hB.cell (p:=⟨g,k,none⟩) hlt).trans (HC.out k hlk);have hszw:=hB.size;have hx0:=HA.out k hlk;obtain⟨x,hx⟩:∃x,ns.getD k 0=x:=⟨_,rfl⟩;rw[hx]at hcell hx0;clear hx;have HX:=hid hx0;clear hx0;cases hl:Z5 x with
   | true=>
    go_wp2_with fail;refine(Za9 _ _).mono ?_;rintro e w2 ⟨rfl,hb2⟩;rw[hl];have hB2:=hB.trans (hb2.mono hszw);go_wp2_with fail;go_roundw
    case rel=>exact⟨k+1,by omega,by go_num,hB2⟩
    case measure=>simp[intOf];omega
   | false=>
    by_cases h95x:x=95
    ·subst h95x;go_wp2_with fail;refine(Za9 _ _).mono ?_;rintro e w2 ⟨rfl,hb2⟩;rw[hl];have hB2:=hB.trans (hb2.mono hszw);have hcell2:=(hb2.cell (Qg _ _ hcell)).trans hcell;go_wp2_with fail;go_roundw
     case rel=>exact⟨k+1,by omega,by go_num,hB2⟩
     case measure=>simp[intOf];omega
    ·have hk0:k≠0∧(Zah x=true∨x=39):=by
      rcases HX.out with h|h|h
      ·rw[hl]at h;cases h
      ·exact absurd h h95x
      ·exact h
     have ek0:((k:Int)==0)=false:=by rw[beq_eq_false_iff_ne];omega
     have e95:(x !=95)=true:=by simpa using h95x
     have e95':(x==95)=false:=by simpa using h95x
     clear h95x;cases hd2:Zah x with
     | true=>
      clear hk0;go_wp2_with fail;refine(Za9 _ _).mono ?_;rintro e w2 ⟨rfl,hb2⟩;rw[hl];have hB2:=hB.trans (hb2.mono hszw);have hcell2:=(hb2.cell (Qg _ _ hcell)).trans hcell;go_wp2_with fail;refine(Zfp _ _).mono ?_;rintro e w3 ⟨rfl,rfl⟩;rw[hd2];go_wp2_with fail;go_roundw
      case rel=>exact⟨k+1,by omega,by go_num,hB2⟩
      case measure=>simp[intOf];omega
     | false=>
      have h39:x=39:=by
       rcases hk0.2 with h|h
       ·rw[hd2]at h;cases h
       ·exact h
      clear hk0;subst h39;go_wp2_with fail;refine(Za9 _ _).mono ?_;rintro e w2 ⟨rfl,hb2⟩;rw[hl];have hB2:=hB.trans (hb2.mono hszw);have hcell2:=(hb2.cell (Qg _ _ hcell)).trans hcell;go_wp2_with fail;refine(Zfp _ _).mono ?_;rintro e w3 ⟨rfl,rfl⟩;rw[hd2];go_wp2_with fail;go_roundw
      case rel=>exact⟨k+1,by omega,by go_num,hB2⟩
      case measure=>simp[intOf];omega
  ·go_wp2_with fail;go_ret;exact⟨rfl,hb1.trans (hB.mono hb1.size)⟩
theorem Zto (s:ByteArray)(ns:List Int)(w:World)(hp:Zc0 (Zm s) ns [])(h40:s.size≤40)(hk:Ziy s=false)(h95:(s.toList==[95])=false)(hpos:0<ns.length)
    (hbad: ¬ ∀j,j<ns.length→Zm8 (ns.getD j 0) j):
    Calls prog 30 #[.string s] w fun e w'=>e= .returned (.bool false)∧Below w.heap.size w w':=by
  have hlen:ns.length≤s.size:=by have:=Zb7 hp;rw[Jf]at this;have:=Za8 ns;simp at*;omega
  have HK:=hid hk;have HA:=hid hbad;have HP:=hid hp;have hd:decide ((40:Int)<(s.size:Int))=false:=decide_eq_false (by omega);have e0:((s.size:Int)==0)=false:=by rw[beq_eq_false_iff_ne];omega
  clear hk hp hbad;go_enter func30,ntmps30;go_wp2_with fail;refine(Zg1 s ns _ (by omega) HP.out).mono ?_;rintro e w1 ⟨v,rfl,hown,hb1⟩;obtain⟨n,hn⟩:∃n,ns.length=n:=⟨_,rfl⟩;rw[hn]at hown hpos hlen HA;obtain⟨g,cap,rfl,hlt,hc⟩:=Zhf hown hn hpos;clear hown;have HC:=hid hc;clear hc hn;go_wp2_with fail;refine(Zf6 _ _).mono ?_;rintro e w2 ⟨rfl,rfl⟩;rw[HK.out];go_wp2_with fail;go_loopw [6] (fun i wr=>∃k:Nat,k≤n∧i= .int .i64 k∧Hid (∀j,j<k→Zm8 (ns.getD j 0) j)∧Below w1.heap.size w1 wr) (fun i _=>n - (intOf i).toNat)
  case atStart=>exact⟨0,Qi _,rfl,hid (fun j hj=>absurd hj (Qh j)),Qo _ _⟩
  case round=>
    obtain⟨k,hk,rfl,HW,hB⟩:=hrel;have hlk:k<n:=by
      rcases Qj k n with h|h
      · exact h
      · exact absurd (fun j hj=>HW.out j (by omega)) HA.out
    have hcell:=(hB.cell (p:=⟨g,k,none⟩) hlt).trans (HC.out k hlk);have hszw:=hB.size;obtain⟨x,hx⟩:∃x,ns.getD k 0=x:=⟨_,rfl⟩;rw[hx]at hcell;have HX:=hid hx;clear hx;have HS:Zm8 x k→Hid (∀j,j<k+1→Zm8 (ns.getD j 0) j):=fun hx0=>hid (fun j hj=>by
      by_cases hjk:j<k
      · exact HW.out j hjk
      · obtain rfl:j=k:=by omega
        rw[HX.out];exact hx0)
    have HSS:=hid HS;clear HS;have hfin:=hb1.trans (hB.mono hb1.size);cases hl:Z5 x with
    | true=>
      have HN:=HSS.out (.inl hl);go_wp2_with fail;refine(Za9 _ _).mono ?_;rintro e w2 ⟨rfl,hb2⟩;rw[hl];have hB2:=hB.trans (hb2.mono hszw);go_wp2_with fail;go_roundw
      case rel=>exact⟨k+1,by omega,by go_num,HN,hB2⟩
      case measure=>simp[intOf];omega
    | false=>
      by_cases h95x:x=95
      · have HN:=HSS.out (.inr (.inl h95x));subst h95x;go_wp2_with fail;refine(Za9 _ _).mono ?_;rintro e w2 ⟨rfl,hb2⟩;rw[hl];have hB2:=hB.trans (hb2.mono hszw);have hcell2:=(hb2.cell (Qg _ _ hcell)).trans hcell;go_wp2_with fail;go_roundw
        case rel=>exact⟨k+1,by omega,by go_num,HN,hB2⟩
        case measure=>simp[intOf];omega
      · have e95:(x !=95)=true:=by simpa using h95x
        have e95':(x==95)=false:=by simpa using h95x
        clear h95x;by_cases hk0:k=0
        · subst hk0;go_wp2_with fail;refine(Za9 _ _).mono ?_;rintro e w2 ⟨rfl,hb2⟩;rw[hl];have hB2:=hB.trans (hb2.mono hszw);have hcell2:=(hb2.cell (Qg _ _ hcell)).trans hcell;go_wp2_with fail;go_ret;exact⟨rfl,hb1.trans (hB2.mono hb1.size)⟩
        · have ek0:((k:Int)==0)=false:=by rw[beq_eq_false_iff_ne];omega
          cases hd2:Zah x with
          | true=>
            have HN:=HSS.out (.inr (.inr ⟨hk0,.inl hd2⟩));clear hk0;go_wp2_with fail;refine(Za9 _ _).mono ?_;rintro e w2 ⟨rfl,hb2⟩;rw[hl];have hB2:=hB.trans (hb2.mono hszw);have hcell2:=(hb2.cell (Qg _ _ hcell)).trans hcell;go_wp2_with fail;refine(Zfp _ _).mono ?_;rintro e w3 ⟨rfl,rfl⟩;rw[hd2];go_wp2_with fail;go_roundw
            case rel=>exact⟨k+1,by omega,by go_num,HN,hB2⟩
            case measure=>simp[intOf];omega
          | false=>
            by_cases h39:x=39
            · have HN:=HSS.out (.inr (.inr ⟨hk0,.inr h39⟩));clear hk0;subst h39;go_wp2_with fail;refine(Za9 _ _).mono ?_;rintro e w2 ⟨rfl,hb2⟩;rw[hl];have hB2:=hB.trans (hb2.mono hszw);have hcell2:=(hb2.cell (Qg _ _ hcell)).trans hcell;go_wp2_with fail;refine(Zfp _ _).mono ?_;rintro e w3 ⟨rfl,rfl⟩;rw[hd2];go_wp2_with fail;go_roundw
              case rel=>exact⟨k+1,by omega,by go_num,HN,hB2⟩
              case measure=>simp[intOf];omega
            · have e39:(x !=39)=true:=by simpa using h39
              have e39':(x==39)=false:=by simpa using h39
              clear h39 hk0;go_wp2_with fail;refine(Za9 _ _).mono ?_;rintro e w2 ⟨rfl,hb2⟩;rw[hl];have hB2:=hB.trans (hb2.mono hszw);have hcell2:=(hb2.cell (Qg _ _ hcell)).trans hcell;go_wp2_with fail;refine(Zfp _ _).mono ?_;rintro e w3 ⟨rfl,rfl⟩;rw[hd2];go_wp2_with fail;go_ret;exact⟨rfl,hb1.trans (hB2.mono hb1.size)⟩
theorem Zup (s:ByteArray)(w:World)(hs:s.size≤9223372036854775807)(h: ¬ ∃ns,Zdr s ns):
  Calls prog 30 #[.string s] w fun e w'=>e= .returned (.bool false)∧Below w.heap.size w w':=by
 by_cases hbig:65535<s.size
 ·clear h;go_enter func30,ntmps30;go_wp2_with fail;refine(Zuo s _ hbig).mono ?_;rintro e w1 ⟨rfl,hb1⟩;go_wp2_with fail;go_ret;exact⟨rfl,hb1⟩
 obtain⟨ns,r,hp⟩:=Zrn s;by_cases hr:r=[]
 ·subst hr;have hl0:=Zb7 hp;rw[Jf]at hl0;have hlen:ns.length≤s.size:=by have:=Za8 ns;simp at*;omega
  by_cases h0:s.size=0
  ·clear h hl0 hlen;have e0:((s.size:Int)==0)=true:=by rw[beq_iff_eq];omega
   go_enter func30,ntmps30;go_wp2_with fail;refine(Zg1 s ns _ (by omega) hp).mono ?_;rintro e w1 ⟨v,rfl,hown,hb1⟩;obtain⟨a,cap,rfl⟩:=Zij hown;clear hown h0;go_wp2_with fail;go_ret;exact⟨rfl,hb1⟩
  have e0:((s.size:Int)==0)=false:=by rw[beq_eq_false_iff_ne];omega
  by_cases h40:40<s.size
  ·clear h hl0 hlen;have hd:decide ((40:Int)<(s.size:Int))=true:=decide_eq_true (by omega);go_enter func30,ntmps30;go_wp2_with fail;refine(Zg1 s ns _ (by omega) hp).mono ?_;rintro e w1 ⟨v,rfl,hown,hb1⟩;obtain⟨a,cap,rfl⟩:=Zij hown;clear hown h0;go_wp2_with fail;go_ret;exact⟨rfl,hb1⟩
  have hd:decide ((40:Int)<(s.size:Int))=false:=decide_eq_false (by omega);cases hk:Ziy s with
  | true=>
   clear h hl0 hlen;go_enter func30,ntmps30;go_wp2_with fail;refine(Zg1 s ns _ (by omega) hp).mono ?_;rintro e w1 ⟨v,rfl,hown,hb1⟩;obtain⟨a,cap,rfl⟩:=Zij hown;clear hown h0;go_wp2_with fail;refine(Zf6 _ _).mono ?_;rintro e w2 ⟨rfl,rfl⟩;rw[hk];go_wp2_with fail;go_ret;exact⟨rfl,hb1⟩
  | false=>
   cases h95:(s.toList==[95])with
   | true=>
    clear h hl0 hlen;go_enter func30,ntmps30;go_wp2_with fail;refine(Zg1 s ns _ (by omega) hp).mono ?_;rintro e w1 ⟨v,rfl,hown,hb1⟩;obtain⟨a,cap,rfl⟩:=Zij hown;clear hown h0;go_wp2_with fail;refine(Zf6 _ _).mono ?_;rintro e w2 ⟨rfl,rfl⟩;rw[hk];go_wp2_with fail;go_ret;exact⟨rfl,hb1⟩
   | false=>
    have hpos:0<ns.length:=by
     rcases Nat.eq_zero_or_pos ns.length with e|e
     ·exfalso
      have:ns=[]:=List.eq_nil_of_length_eq_zero e;rw[this]at hl0;exact h0 hl0
     ·exact e
    exact Zto s ns w hp (by omega) hk h95 hpos (fun hall=>h ⟨ns,Z5n hp (by omega) hk h95 hpos hall⟩)
 ·clear h;go_enter func30,ntmps30;go_wp2_with fail;refine(Zxl s ns r _ (by omega) hp hr).mono ?_;rintro e w1 ⟨rfl,hb1⟩;go_wp2_with fail;go_ret;exact⟨rfl,hb1⟩
noncomputable def nmB (s:ByteArray):Bool:= @decide (∃ns,Zdr s ns) (Qr _)
theorem Zk7 {s:ByteArray}{ns:List Int}(h:Zdr s ns):nmB s=true:= @decide_eq_true _ (Qr _) ⟨ns,h⟩
theorem Zzk {s:ByteArray}(h: ¬ ∃ns,Zdr s ns):nmB s=false:= @decide_eq_false _ (Qr _) h
theorem Zr8 (s:ByteArray)(w:World)(hs:s.size≤9223372036854775807):
  Calls prog 104 #[.string s] w fun e w'=>e= .returned (.bool (nmB s))∧Below w.heap.size w w':=by
 rcases Classical.em (∃ns,Zdr s ns)with ⟨ns,h⟩|h
 ·rw[Zk7 h];exact Zz6 s ns w h
 ·rw[Zzk h];exact Z2q s w hs h
theorem Zpc (s:ByteArray)(w:World)(hs:s.size≤9223372036854775807):
  Calls prog 30 #[.string s] w fun e w'=>e= .returned (.bool (nmB s))∧Below w.heap.size w w':=by
 rcases Classical.em (∃ns,Zdr s ns)with ⟨ns,h⟩|h
 ·rw[Zk7 h];exact Ztp s ns w h
 ·rw[Zzk h];exact Zup s w hs h
