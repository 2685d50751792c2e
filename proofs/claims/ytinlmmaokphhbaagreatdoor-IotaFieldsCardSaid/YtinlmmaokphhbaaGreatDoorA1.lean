import Derived.Test.YtinlmmaokphhbaaGreatDoorRows
import Derived.WalkKit
import Derived.ProofKit
import Derived.WalkLawsBesides
import Derived.Laws.BitsAllLaws
import Derived.LoopN
import Derived.Laws.BytesArg
import Derived.Laws.IdiomStrings
import Derived.Laws.Strings
namespace Go.Proofs.YtinlmmaokphhbaaGreatDoor
open Go.RowKit
open Go.Proofs.Tryz
open _root_.List renaming append_assoc→Qa,length_append→Qb,take_append_drop→Qc,getD→Qd,mem_cons_self→Qe,take_succ_eq_append_getElem→Qf,drop_eq_getElem_cons→Qg,getElem?_eq_none→Qh,mem_cons_of_mem→Qi,append_nil→Qj
open _root_.Bool renaming and_eq_true→Qk,and_self→Ql
open _root_.Option.some renaming inj→Qm
open _root_.Int renaming eq_ofNat_of_zero_le→Qn
def Zx (n:Int):Bool:=decide (0≤n) && decide (n≤1114111) && (decide (n<55296)||decide (57343<n))
theorem Jz {n:Int}:Zx n=true↔(0≤n∧n≤1114111∧(n<55296∨57343<n)):=by
 simp[Zx,and_assoc]
theorem Znk {n:Int}:Zx n=false↔ ¬ (0≤n∧n≤1114111∧(n<55296∨57343<n)):=by
 rw[←Jz];simp
theorem Zb9 (n:Int)(w:World):Calls prog 151 #[.int .i64 n] w fun e w'=>e= .returned (.bool (Zx n))∧w=w':=by
 cases hb:Zx n with
 | true=>
  obtain⟨h0,h1,h2⟩:=Jz.1 hb;clear hb;by_cases h3:n<55296
  ·clear h2;go_enter func151,ntmps151;go_wp2
   go_ret;exact⟨rfl,rfl⟩
  ·have h4:57343<n:=by omega
   clear h2;go_enter func151,ntmps151;go_wp2
   go_ret;exact⟨rfl,rfl⟩
 | false=>
  have hn:=Znk.1 hb;clear hb;by_cases h0:0≤n
  ·by_cases h1:n≤1114111
   ·have h2: ¬ n<55296:=by omega
    have h3: ¬ 57343<n:=by omega
    clear hn;go_enter func151,ntmps151;go_wp2
    go_ret;exact⟨rfl,rfl⟩
   ·clear hn;go_enter func151,ntmps151;go_wp2
    go_ret;exact⟨rfl,rfl⟩
  ·clear hn;go_enter func151,ntmps151;go_wp2
   go_ret;exact⟨rfl,rfl⟩
theorem Jp (n:Int)(w:World):Calls prog 92 #[.int .i64 n] w fun e w'=>e= .returned (.bool (Zx n))∧w=w':=by
 cases hb:Zx n with
 | true=>
  obtain⟨h0,h1,h2⟩:=Jz.1 hb;clear hb;by_cases h3:n<55296
  ·clear h2;go_enter func92,ntmps92;go_wp2
   go_ret;exact⟨rfl,rfl⟩
  ·have h4:57343<n:=by omega
   clear h2;go_enter func92,ntmps92;go_wp2
   go_ret;exact⟨rfl,rfl⟩
 | false=>
  have hn:=Znk.1 hb;clear hb;by_cases h0:0≤n
  ·by_cases h1:n≤1114111
   ·have h2: ¬ n<55296:=by omega
    have h3: ¬ 57343<n:=by omega
    clear hn;go_enter func92,ntmps92;go_wp2
    go_ret;exact⟨rfl,rfl⟩
   ·clear hn;go_enter func92,ntmps92;go_wp2
    go_ret;exact⟨rfl,rfl⟩
  ·clear hn;go_enter func92,ntmps92;go_wp2
   go_ret;exact⟨rfl,rfl⟩
def wid (n:Int):Nat:=if n≤127 then 1 else if n≤2047 then 2 else if n≤65535 then 3 else 4
theorem Zfv (n:Int)(w:World):Calls prog 152 #[.int .i64 n] w fun e w'=>e= .returned (.int .i64 (wid n))∧w=w':=by
 by_cases h0:n≤127
 ·have hb:wid n=1:=by simp[wid,h0]
  rw[hb];clear hb;have h1:n≤2047:=by omega
  have h2:n≤65535:=by omega
  go_enter func152,ntmps152;go_wp2
  go_ret;exact⟨rfl,rfl⟩
 ·by_cases h1:n≤2047
  ·have hb:wid n=2:=by simp[wid,h0,h1]
   rw[hb];clear hb;have h2:n≤65535:=by omega
   go_enter func152,ntmps152;go_wp2
   go_ret;exact⟨rfl,rfl⟩
  ·by_cases h2:n≤65535
   ·have hb:wid n=3:=by simp[wid,h0,h1,h2]
    rw[hb];clear hb;go_enter func152,ntmps152;go_wp2
    go_ret;exact⟨rfl,rfl⟩
   ·have hb:wid n=4:=by simp[wid,h0,h1,h2]
    rw[hb];clear hb;go_enter func152,ntmps152;go_wp2
    go_ret;exact⟨rfl,rfl⟩
def Zww (k:Int):Int:=if k=4 then 240 else if k=3 then 224 else if k=2 then 192 else 0
theorem Zlv (k:Int)(w:World):Calls prog 160 #[.int .i64 k] w fun e w'=>e= .returned (.int .i64 (Zww k))∧w=w':=by
 by_cases h4:k=4
 ·subst h4;go_enter func160,ntmps160;go_wp2
  go_ret;exact⟨rfl,rfl⟩
 ·by_cases h3:k=3
  ·subst h3;go_enter func160,ntmps160;go_wp2
   go_ret;exact⟨rfl,rfl⟩
  ·by_cases h2:k=2
   ·subst h2;go_enter func160,ntmps160;go_wp2
    go_ret;exact⟨rfl,rfl⟩
   ·have hb:Zww k=0:=by simp[Zww,h4,h3,h2]
    rw[hb];clear hb;have e4:(k==4)=false:=by simpa using h4
    have e3:(k==3)=false:=by simpa using h3
    have e2:(k==2)=false:=by simpa using h2
    clear h4 h3 h2;go_enter func160,ntmps160;go_wp2
    go_ret;exact⟨rfl,rfl⟩
theorem Z6n (w:World):Calls prog 160 #[.int .i64 1] w fun e w'=>e= .returned (.int .i64 0)∧w=w':=Zlv 1 w
theorem Z6o (w:World):Calls prog 160 #[.int .i64 2] w fun e w'=>e= .returned (.int .i64 192)∧w=w':=Zlv 2 w
theorem Z6p (w:World):Calls prog 160 #[.int .i64 3] w fun e w'=>e= .returned (.int .i64 224)∧w=w':=Zlv 3 w
theorem Z6q (w:World):Calls prog 160 #[.int .i64 4] w fun e w'=>e= .returned (.int .i64 240)∧w=w':=Zlv 4 w
def Zy (b:Int):Int:=if b<128 then b else if b<192∨248≤b then 0 else if 240≤b then b - 240 else if 224≤b then b - 224 else b - 192
def Z9 (b:Int):Nat:=if b<128 then 1 else if b<192∨248≤b then 0 else if 240≤b then 4 else if 224≤b then 3 else 2
theorem Zaa (b:Int)(w:World)(hb0:0≤b)(hb1:b≤255):Calls prog 149 #[.int .u8 b] w fun e w'=>e= .returned (.tuple #[.int .i64 (Zy b),.int .i64 (Z9 b)])∧w=w':=by
 by_cases h0:b<128
 ·have e1:Zy b=b:=by simp[Zy,h0]
  have e2:Z9 b=1:=by simp[Z9,h0]
  rw[e1,e2];clear e1 e2;go_enter func149,ntmps149;go_wp2_with (go_at_call 160;refine(Z6n _).mono ?_;rintro e w' ⟨rfl,rfl⟩)
  go_ret2;exact⟨rfl,rfl⟩
 ·by_cases h1:b<192
  ·have e1:Zy b=0:=by simp[Zy,h0,h1]
   have e2:Z9 b=0:=by simp[Z9,h0,h1]
   rw[e1,e2];clear e1 e2;go_enter func149,ntmps149;go_wp2
   go_ret2;exact⟨rfl,rfl⟩
  ·by_cases h2:248≤b
   ·have e1:Zy b=0:=by simp[Zy,h0,h2]
    have e2:Z9 b=0:=by simp[Z9,h0,h2]
    rw[e1,e2];clear e1 e2;go_enter func149,ntmps149;go_wp2
    go_ret2;exact⟨rfl,rfl⟩
   ·by_cases h3:240≤b
    ·have e1:Zy b=b - 240:=by simp[Zy,h0,h1,h2,h3]
     have e2:Z9 b=4:=by simp[Z9,h0,h1,h2,h3]
     rw[e1,e2];clear e1 e2;go_enter func149,ntmps149;go_wp2_with (go_at_call 160;refine(Z6q _).mono ?_;rintro e w' ⟨rfl,rfl⟩)
     go_ret2;exact⟨rfl,rfl⟩
    ·by_cases h4:224≤b
     ·have e1:Zy b=b - 224:=by simp[Zy,h0,h1,h2,h3,h4]
      have e2:Z9 b=3:=by simp[Z9,h0,h1,h2,h3,h4]
      rw[e1,e2];clear e1 e2;go_enter func149,ntmps149;go_wp2_with (go_at_call 160;refine(Z6p _).mono ?_;rintro e w' ⟨rfl,rfl⟩)
      go_ret2;exact⟨rfl,rfl⟩
     ·have e1:Zy b=b - 192:=by simp[Zy,h0,h1,h2,h3,h4]
      have e2:Z9 b=2:=by simp[Z9,h0,h1,h2,h3,h4]
      rw[e1,e2];clear e1 e2;go_enter func149,ntmps149;go_wp2_with (go_at_call 160;refine(Z6o _).mono ?_;rintro e w' ⟨rfl,rfl⟩)
      go_ret2;exact⟨rfl,rfl⟩
def Zf (b:Int):Bool:=decide (128≤b) && decide (b<192)
theorem Z0 (b:Int)(w:World):Calls prog 150 #[.int .u8 b] w fun e w'=>e= .returned (.bool (Zf b))∧w=w':=by
 by_cases h0:128≤b
 ·by_cases h1:b<192
  ·have e1:Zf b=true:=by simp[Zf,h0,h1]
   rw[e1];clear e1;go_enter func150,ntmps150;go_wp2
   go_ret;exact⟨rfl,rfl⟩
  ·have e1:Zf b=false:=by simp[Zf,h0,h1]
   rw[e1];clear e1;go_enter func150,ntmps150;go_wp2
   go_ret;exact⟨rfl,rfl⟩
 ·have e1:Zf b=false:=by simp[Zf,h0]
  rw[e1];clear e1;go_enter func150,ntmps150;go_wp2
  go_ret;exact⟨rfl,rfl⟩
theorem Zvv (a:Nat)(ha:a<18446744073709551616):(BitVec.ofInt 64 (a:Int)).toNat=a:=by
 rw[BitVec.ofInt_natCast,BitVec.toNat_ofNat];exact Nat.mod_eq_of_lt (by omega)
theorem Zt6 (n:Int)(h0:0≤n)(h1:n<9223372036854775808):IntKind.i64.wrap n=n:=by
 simp[IntKind.wrap,IntKind.bits,IntKind.signed];omega
theorem Zwx (a b:Nat)(ha:a<9223372036854775808)(hb:b<9223372036854775808):bits .or .i64 (a:Int) (b:Int)=((a|||b:Nat):Int):=by
 have hx:a|||b<2 ^ 63:=Nat.or_lt_two_pow (by omega) (by omega)
 show IntKind.i64.wrap ((BitVec.ofInt 64 (a:Int)|||BitVec.ofInt 64 (b:Int)).toNat:Int)=_
 rw[BitVec.toNat_or,Zvv a (by omega),Zvv b (by omega),Zt6 _ (by omega) (by omega)]
theorem Jd (n:Int)(h0:0≤n)(h1:n≤255):bits .and .u8 n 63=n % 64:=by
 obtain⟨m,rfl⟩:=Qn h0;have h:=u8_and_nat m 63 (by omega) (by omega);have e:m &&& 63=m % 64:=by simpa using Nat.and_two_pow_sub_one_eq_mod m 6
 rw[e]at h;simpa using h
theorem Z5p (i:Nat)(a b:Int)(h0:0≤a)(h1:a≤9223372036854775807)(h2:0≤b)(h3:b<(2 ^ i:Nat))(h4:a % (2 ^ i:Nat)=0)(h5:b≤9223372036854775807):bits .or .i64 a b=a+b:=by
 obtain⟨x,rfl⟩:=Qn h0;obtain⟨y,rfl⟩:=Qn h2;have h:=Zwx x y (by omega) (by omega);have e:=nat_join i x y (by exact_mod_cast h4) (by exact_mod_cast h3);rw[e]at h;rw[h];simp
theorem Zap (a b:Int)(h0:0≤a)(h1:a≤1000000000)(h2:0≤b)(h3:b<64):bits .or .i64 (a*64) b=a*64+b:=
 Z5p 6 (a*64) b (by omega) (by omega) h2 (by simpa using h3) (by simp) (by omega)
theorem Z1a (w:World)(C:Array Value)(T:TypeId)(fr:Nat×Nat)(xs:List Int)(n cap:Nat)(hn:xs.length=n)(h:∀i,i<n→C[i]? =some (.int .u8 (xs.getD i 0))):
    (convert 149 9 (.slice (some ⟨w.heap.size,0,none⟩) n cap)).run prog (w.alloc (.cells C T fr))= .ok (.string (strOfNums xs)) (w.alloc (.cells C T fr)):=
  run_convert_bytes_arg (P:=prog) (w.alloc (.cells C T fr)) 149 5 Tryz.underlying149 Tryz.underlying5 w.heap.size 0 n cap xs hn
    (fun i hi=>by rw[Nat.zero_add,World.cell?_alloc_mark];exact h i hi) 9 Tryz.underlying9
def Za0 (n:Int):List Int:=
 if n≤127 then[n]else if n≤2047 then[192+n/64,128+n % 64]
 else if n≤65535 then[224+n/64/64,128+n/64 % 64,128+n % 64]
 else[240+n/64/64/64,128+n/64/64 % 64,128+n/64 % 64,128+n % 64]
def enc (n:Int):ByteArray:=strOfNums (Za0 n)
theorem Zmu {n:Int}(h:n≤127):Za0 n=[n]:=if_pos h
theorem Zmv {n:Int}(h0:128≤n)(h1:n≤2047):Za0 n=[192+n/64,128+n % 64]:=by
 unfold Za0;rw[if_neg (by omega),if_pos h1]
theorem Zmw {n:Int}(h0:2048≤n)(h1:n≤65535):Za0 n=[224+n/64/64,128+n/64 % 64,128+n % 64]:=by
 unfold Za0;rw[if_neg (by omega),if_neg (by omega),if_pos h1]
theorem Zmx {n:Int}(h0:65536≤n):Za0 n=[240+n/64/64/64,128+n/64/64 % 64,128+n/64 % 64,128+n % 64]:=by
 unfold Za0;rw[if_neg (by omega),if_neg (by omega),if_neg (by omega)]
theorem Ze6 (n:Int):(Za0 n).length=wid n:=by
 unfold Za0 wid;(repeat' split)<;>rfl
def Zm (s:ByteArray):List Int:=s.data.toList.map fun b=>(b.toNat:Int)
theorem Jf (s:ByteArray):(Zm s).length=s.size:=by simp[Zm]
theorem Zwi (s:ByteArray)(i:Nat)(h:i<s.size):(Zm s)[i]? =some ((s[i].toNat:Int)):=by
 simp[Zm];exact⟨s[i],by rw[Array.getElem?_eq_getElem (by simpa using h)];rfl,rfl⟩
def byt (s:ByteArray)(i:Nat):Int:=(Zm s).getD i 0
theorem Zds (s:ByteArray)(i:Nat)(h:i<s.size):(s[i].toNat:Int)=byt s i:=by
 unfold byt;simp[Qd,Zwi s i h]
theorem Zcg (s:ByteArray)(i:Nat):0≤byt s i:=by
 by_cases h:i<s.size
 ·rw[←Zds s i h];omega
 ·unfold byt;rw[Qd,Qh (by rw[Jf];omega)];simp
theorem Zcr (s:ByteArray)(i:Nat):byt s i≤255:=by
 by_cases h:i<s.size
 ·rw[←Zds s i h];have:=s[i].toNat_lt;omega
 ·unfold byt;rw[Qd,Qh (by rw[Jf];omega)];simp
theorem Zfi (s:ByteArray)(i:Nat)(h:i<s.size):(Zm s).drop i=byt s i::(Zm s).drop (i+1):=by
 rw[Qg (by rw[Jf];exact h)];unfold byt;rw[Qd,List.getElem?_eq_getElem (by rw[Jf];exact h)];rfl
theorem Z1c (s:ByteArray)(i:Nat)(h:s.size≤i):(Zm s).drop i=[]:=List.drop_eq_nil_of_le (by rw[Jf];exact h)
def okB (k:Nat)(n:Int):Bool:=Zx n && decide (wid n=k)
def Zox (b:Int):List Int→Option Int
 | c1::c2::c3::_=>if Zf c1 && (Zf c2 && (Zf c3 && okB 4 ((((b - 240)*64+c1 % 64)*64+c2 % 64)*64+c3 % 64)))then some ((((b - 240)*64+c1 % 64)*64+c2 % 64)*64+c3 % 64)else none
 | _=>none
def Zow (b:Int):List Int→Option Int
 | c1::c2::_=>if Zf c1 && (Zf c2 && okB 3 (((b - 224)*64+c1 % 64)*64+c2 % 64))then some (((b - 224)*64+c1 % 64)*64+c2 % 64)else none
 | _=>none
def Zov (b:Int):List Int→Option Int
 | c1::_=>if Zf c1 && okB 2 ((b - 192)*64+c1 % 64)then some ((b - 192)*64+c1 % 64)else none
 | _=>none
def dec:List Int→Option Int
 | []=>none
 | b::t=>if b<128 then some b else if b<192∨248≤b then none else if 240≤b then Zox b t else if 224≤b then Zow b t else Zov b t
theorem Zjr (b:Int)(t:List Int):dec (b::t)=if b<128 then some b else if b<192∨248≤b then none else if 240≤b then Zox b t else if 224≤b then Zow b t else Zov b t:=rfl
theorem Z3c {b:Int}{t:List Int}(h:b<128):dec (b::t)=some b:=if_pos h
theorem Z79 {b:Int}{t:List Int}(h:(128≤b∧b<192)∨248≤b):dec (b::t)=none:=by rw[Zjr,if_neg (by omega),if_pos (by omega)]
theorem Z3f {b:Int}{t:List Int}(h:240≤b)(k:b<248):dec (b::t)=Zox b t:=by rw[Zjr,if_neg (by omega),if_neg (by omega),if_pos h]
theorem Z3e {b:Int}{t:List Int}(h:224≤b)(k:b<240):dec (b::t)=Zow b t:=by rw[Zjr,if_neg (by omega),if_neg (by omega),if_neg (by omega),if_pos h]
theorem Z3d {b:Int}{t:List Int}(h:192≤b)(k:b<224):dec (b::t)=Zov b t:=by rw[Zjr,if_neg (by omega),if_neg (by omega),if_neg (by omega),if_neg (by omega)]
def Zee (l:List Int)(n:Int):Prop:=Zx n=true∧∃t,l=Za0 n++t
theorem Zxu {l:List Int}{n:Int}(h:Zee l n):0≤n∧n≤1114111∧(n<55296∨57343<n)∧∃t,
    (n≤127∧l=n::t)∨(128≤n∧n≤2047∧l=(192+n/64)::(128+n % 64)::t)∨
    (2048≤n∧n≤65535∧l=(224+n/64/64)::(128+n/64 % 64)::(128+n % 64)::t)∨
    (65536≤n∧l=(240+n/64/64/64)::(128+n/64/64 % 64)::(128+n/64 % 64)::(128+n % 64)::t):=by
  obtain⟨hr,t,rfl⟩:=h;obtain⟨h0,h1,h2⟩:=Jz.1 hr;refine⟨h0,h1,h2,t, ?_⟩;by_cases a1:n≤127
  · exact .inl ⟨a1,by rw[Zmu a1];rfl⟩
  · by_cases a2:n≤2047
    · exact .inr (.inl ⟨by omega,a2,by rw[Zmv (by omega) a2];rfl⟩)
    · by_cases a3:n≤65535
      · exact .inr (.inr (.inl ⟨by omega,a3,by rw[Zmw (by omega) a3];rfl⟩))
      · exact .inr (.inr (.inr ⟨by omega,by rw[Zmx (by omega)];rfl⟩))
theorem Zhs {k:Nat}{n:Int}:okB k n=true↔Zx n=true∧wid n=k:=by simp[okB]
theorem Z3i {n:Int}(h:n≤127):wid n=1:=if_pos h
theorem Z8m {n:Int}(h0:128≤n)(h:n≤2047):wid n=2:=by unfold wid;rw[if_neg (by omega),if_pos h]
theorem Z8n {n:Int}(h0:2048≤n)(h:n≤65535):wid n=3:=by unfold wid;rw[if_neg (by omega),if_neg (by omega),if_pos h]
theorem Z8o {n:Int}(h0:65536≤n):wid n=4:=by unfold wid;rw[if_neg (by omega),if_neg (by omega),if_neg (by omega)]
theorem Z2f {n:Int}(h:wid n=2):128≤n∧n≤2047:=by
 unfold wid at h;(repeat' split at h)<;>omega
theorem Z2g {n:Int}(h:wid n=3):2048≤n∧n≤65535:=by
 unfold wid at h;(repeat' split at h)<;>omega
theorem Z2h {n:Int}(h:wid n=4):65536≤n:=by
 unfold wid at h;(repeat' split at h)<;>omega
theorem Zb2 {b:Int}:Zf b=true↔128≤b∧b<192:=by simp[Zf]
theorem Ze5 {l:List Int}{n:Int}(h:Zee l n):dec l=some n:=by
 have hr:=h.1;obtain⟨h0,h1,h2,t,h⟩:=Zxu h;rcases h with ⟨a,rfl⟩|⟨a,b,rfl⟩|⟨a,b,rfl⟩|⟨a,rfl⟩
 ·exact Z3c (by omega)
 ·have e:(192+n/64 - 192)*64+(128+n % 64) % 64=n:=by omega
  have f1:Zf (128+n % 64)=true:=Zb2.2 (by omega);have f2:okB 2 n=true:=Zhs.2 ⟨hr,Z8m a b⟩;rw[Z3d (by omega) (by omega)];simp only[Zov,e,f1,f2,Ql,if_true]
 ·have e:((224+n/64/64 - 224)*64+(128+n/64 % 64) % 64)*64+(128+n % 64) % 64=n:=by omega
  have f1:Zf (128+n % 64)=true:=Zb2.2 (by omega);have f2:Zf (128+n/64 % 64)=true:=Zb2.2 (by omega);have f3:okB 3 n=true:=Zhs.2 ⟨hr,Z8n a b⟩;rw[Z3e (by omega) (by omega)];simp only[Zow,e,f1,f2,f3,Ql,if_true]
 ·have e:(((240+n/64/64/64 - 240)*64+(128+n/64/64 % 64) % 64)*64+(128+n/64 % 64) % 64)*64+(128+n % 64) % 64=n:=by omega
  have f1:Zf (128+n % 64)=true:=Zb2.2 (by omega);have f2:Zf (128+n/64 % 64)=true:=Zb2.2 (by omega);have f3:Zf (128+n/64/64 % 64)=true:=Zb2.2 (by omega);have f4:okB 4 n=true:=Zhs.2 ⟨hr,Z8o a⟩;rw[Z3f (by omega) (by omega)];simp only[Zox,e,f1,f2,f3,f4,Ql,if_true]
theorem Zon {l:List Int}{n:Int}(hl:∀b,l.head? =some b→0≤b)(h:dec l=some n):Zee l n:=by
 match l,hl,h with
 | b::t,hl,h=>
  have hb:=hl b rfl;rw[Zjr]at h;split at h
  ·obtain rfl:=Qm h;exact⟨Jz.2 (by omega),t,by rw[Zmu (by omega)];rfl⟩
  ·split at h
   ·cases h
   ·split at h
    ·unfold Zox at h;split at h
     ·rename_i c1 c2 c3 u
      split at h
      ·rename_i hc
       simp only[Qk]at hc;obtain⟨f1,f2,f3,f4⟩:=hc;rw[Zb2]at f1 f2 f3;obtain⟨g1,g2⟩:=Zhs.1 f4;have e:=Qm h;rw[e]at g1 g2;have g3:=Z2h g2;refine⟨g1,u, ?_⟩;rw[Zmx g3];have e1:b=240+n/64/64/64:=by omega
       have e2:c1=128+n/64/64 % 64:=by omega
       have e3:c2=128+n/64 % 64:=by omega
       have e4:c3=128+n % 64:=by omega
       rw[←e1,←e2,←e3,←e4];rfl
      ·cases h
     ·cases h
    ·split at h
     ·unfold Zow at h;split at h
      ·rename_i c1 c2 u
       split at h
       ·rename_i hc
        simp only[Qk]at hc;obtain⟨f1,f2,f4⟩:=hc;rw[Zb2]at f1 f2;obtain⟨g1,g2⟩:=Zhs.1 f4;have e:=Qm h;rw[e]at g1 g2;have g3:=Z2g g2;refine⟨g1,u, ?_⟩;rw[Zmw g3.1 g3.2];have e1:b=224+n/64/64:=by omega
        have e3:c1=128+n/64 % 64:=by omega
        have e4:c2=128+n % 64:=by omega
        rw[←e1,←e3,←e4];rfl
       ·cases h
      ·cases h
     ·unfold Zov at h;split at h
      ·rename_i c1 u
       split at h
       ·rename_i hc
        simp only[Qk]at hc;obtain⟨f1,f4⟩:=hc;rw[Zb2]at f1;obtain⟨g1,g2⟩:=Zhs.1 f4;have e:=Qm h;rw[e]at g1 g2;have g3:=Z2f g2;refine⟨g1,u, ?_⟩;rw[Zmv g3.1 g3.2];have e1:b=192+n/64:=by omega
        have e4:c1=128+n % 64:=by omega
        rw[←e1,←e4];rfl
       ·cases h
      ·cases h
theorem Zoo {l:List Int}{n m:Int}(h:Zee l n)(k:Zee l m):n=m:=
 Qm ((Ze5 h).symm.trans (Ze5 k))
theorem Zpu {a b:ByteArray}(h:Zm a=Zm b):a=b:=by
 have h2:a.data.toList=b.data.toList:=by
  unfold Zm at h;exact List.map_inj_right (f:=fun b:UInt8=>(b.toNat:Int)) (fun x y hxy=>UInt8.toNat_inj.1 (by exact_mod_cast hxy))|>.1 h
 apply ByteArray.ext
 exact Array.toList_inj.1 h2
theorem Zh5 {a b:ByteArray}(h:Zm a=Zm b):(a.toList==b.toList)=true:=by
 rw[Zpu h];simp
theorem Zhi {a b:ByteArray}(h:Zm a≠Zm b):(a.toList==b.toList)=false:=by
 rw[beq_eq_false_iff_ne];intro e;apply h
 rw[ByteArray.toList_eq,ByteArray.toList_eq]at e;unfold Zm;rw[e]
theorem Zot (l:List Int)(h:∀x∈l,0≤x∧x≤255):Zm (strOfNums l)=l:=by
 unfold Zm;rw[strOfNums_data,List.map_map]
 conv=>rhs;rw[←List.map_id l]
 apply List.map_congr_left
 intro x hx;obtain⟨h0,h1⟩:=h x hx;simp;omega
theorem Zwp {n:Int}(h0:0≤n)(h1:n≤1114111):∀x∈Za0 n,0≤x∧x≤255:=by
 intro x hx;by_cases a1:n≤127
 ·rw[Zmu a1]at hx;simp at hx;omega
 ·by_cases a2:n≤2047
  ·rw[Zmv (by omega) a2]at hx;simp at hx;omega
  ·by_cases a3:n≤65535
   ·rw[Zmw (by omega) a3]at hx;simp at hx;omega
   ·rw[Zmx (by omega)]at hx;simp at hx;omega
theorem Zdt {n:Int}(h:Zx n=true):Zm (enc n)=Za0 n:=
 Zot _ (Zwp (Jz.1 h).1 (Jz.1 h).2.1)
theorem Zqp (s:ByteArray)(a b:Nat):Zm (s.extract a b)=((Zm s).drop a).take (b - a):=by
 unfold Zm;have h:(s.extract a b).data.toList=(s.data.toList.drop a).take (b - a):=by simp[List.extract_eq_take_drop]
 rw[h];simp[List.map_take,List.map_drop]
def fin (N:Int)(l:List Int):Int:=if Zx N && decide (Za0 N=l)then N else -1
def Zbg:List Int→Int
 | [b0]=>fin b0 [b0]
 | [b0,c1]=>if b0 - 192<0 then -1 else fin ((b0 - 192)*64+c1 - 128) [b0,c1]
 | [b0,c1,c2]=>if b0 - 224<0 then -1 else fin (((b0 - 224)*64+c1 - 128)*64+c2 - 128) [b0,c1,c2]
 | [b0,c1,c2,c3]=>if b0 - 240<0 then -1 else fin ((((b0 - 240)*64+c1 - 128)*64+c2 - 128)*64+c3 - 128) [b0,c1,c2,c3]
 | _=> -1
theorem Zzl (b0:Int):Zbg [b0]=fin b0 [b0]:=rfl
theorem Zzm (b0 c1:Int):Zbg [b0,c1]=if b0 - 192<0 then -1 else fin ((b0 - 192)*64+c1 - 128) [b0,c1]:=rfl
theorem Zzn (b0 c1 c2:Int):Zbg [b0,c1,c2]=if b0 - 224<0 then -1 else fin (((b0 - 224)*64+c1 - 128)*64+c2 - 128) [b0,c1,c2]:=rfl
theorem Zzo (b0 c1 c2 c3:Int):Zbg [b0,c1,c2,c3]=if b0 - 240<0 then -1 else fin ((((b0 - 240)*64+c1 - 128)*64+c2 - 128)*64+c3 - 128) [b0,c1,c2,c3]:=rfl
theorem Zgx {N:Int}{l:List Int}(h:Zx N=true)(k:Za0 N=l):fin N l=N:=by
 unfold fin;rw[h,k];simp
theorem Zpz {N:Int}{l:List Int}(h:Zx N=false):fin N l= -1:=by
 unfold fin;rw[h];simp
theorem Zkd {N:Int}{l:List Int}(h:Za0 N≠l):fin N l= -1:=by
 unfold fin;rw[decide_eq_false h];simp
theorem Zzq {n:Int}(h:Zx n=true):Zbg (Za0 n)=n:=by
 obtain⟨h0,h1,h2⟩:=Jz.1 h;by_cases a1:n≤127
 ·have e:=Zmu a1;rw[e,Zzl,Zgx h e]
 ·by_cases a2:n≤2047
  ·have e:=Zmv (by omega) a2;have e2:(192+n/64 - 192)*64+(128+n % 64) - 128=n:=by omega
   rw[e,Zzm,if_neg (by omega),e2,Zgx h e]
  ·by_cases a3:n≤65535
   ·have e:=Zmw (by omega) a3;have e2:((224+n/64/64 - 224)*64+(128+n/64 % 64) - 128)*64+(128+n % 64) - 128=n:=by omega
    rw[e,Zzn,if_neg (by omega),e2,Zgx h e]
   ·have e:=Zmx (n:=n) (by omega);have e2:(((240+n/64/64/64 - 240)*64+(128+n/64/64 % 64) - 128)*64+(128+n/64 % 64) - 128)*64+(128+n % 64) - 128=n:=by omega
    rw[e,Zzo,if_neg (by omega),e2,Zgx h e]
theorem Zkc (N:Int)(l:List Int):fin N l= -1∨(Zx N=true∧Za0 N=l∧fin N l=N):=by
 by_cases h:(Zx N && decide (Za0 N=l))=true
 ·right
  have h2:fin N l=N:=if_pos h;simp only[Qk,decide_eq_true_eq]at h;exact⟨h.1,h.2,h2⟩
 ·left;exact if_neg h
theorem Zp7 (l:List Int):Zbg l= -1∨∃n,Zx n=true∧Za0 n=l∧Zbg l=n:=by
 unfold Zbg;split
 ·rcases Zkc _ _ with h|⟨h1,h2,h3⟩
  ·exact .inl h
  ·exact .inr ⟨_,h1,h2,h3⟩
 ·split
  ·exact .inl rfl
  ·rcases Zkc _ _ with h|⟨h1,h2,h3⟩
   ·exact .inl h
   ·exact .inr ⟨_,h1,h2,h3⟩
 ·split
  ·exact .inl rfl
  ·rcases Zkc _ _ with h|⟨h1,h2,h3⟩
   ·exact .inl h
   ·exact .inr ⟨_,h1,h2,h3⟩
 ·split
  ·exact .inl rfl
  ·rcases Zkc _ _ with h|⟨h1,h2,h3⟩
   ·exact .inl h
   ·exact .inr ⟨_,h1,h2,h3⟩
 ·exact .inl rfl
theorem Zzp {l:List Int}(h:dec l=none)(m:Nat):Zbg (l.take m)= -1:=by
 rcases Zp7 (l.take m)with e|⟨n,h1,h2,_⟩
 ·exact e
 ·have:Zee l n:=⟨h1,l.drop m,by rw[h2,Qc]⟩;rw[Ze5 this]at h;cases h
theorem Zxe {l:List Int}{n:Int}(h:Zee l n)(m:Nat)(hm:m<wid n):Zbg (l.take m)= -1:=by
 rcases Zp7 (l.take m)with e|⟨n',h1,h2,_⟩
 ·exact e
 ·have hs:Zee l n':=⟨h1,l.drop m,by rw[h2,Qc]⟩;have:=Zoo hs h;subst this;have h3:=Ze6 n';rw[h2,List.length_take]at h3;omega
theorem Z5k {l:List Int}{n:Int}(h:Zee l n):Zbg (l.take (wid n))=n:=by
 obtain⟨hr,t,rfl⟩:=h;rw[←Ze6,List.take_left];exact Zzq hr
def Zw:List Int→List Int
 | []=>[]
 | n::ns=>Za0 n++Zw ns
theorem Zit (a b:List Int):Zw (a++b)=Zw a++Zw b:=by
 induction a with
 | nil=>rfl
 | cons n a ih=>show Za0 n++Zw (a++b)=(Za0 n++Zw a)++Zw b;rw[ih,Qa]
structure Zc0 (l ns r:List Int):Prop where
 eq:l=Zw ns++r
 right:∀n∈ns,Zx n=true
 stop:dec r=none
theorem Zna:∀(k:Nat) (l:List Int),l.length≤k→(∀x∈l,0≤x)→∃ns r,Zc0 l ns r
 | 0,l,h,_=>by
  have:l=[]:=List.eq_nil_of_length_eq_zero (by omega);subst this;exact⟨[],[],rfl,by simp,rfl⟩
 | k+1,l,h,hp=>by
  cases hd:dec l with
  | none=>exact⟨[],l,rfl,by simp,hd⟩
  | some n=>
   have hs:Zee l n:=Zon (fun b hb=>hp b (List.mem_of_mem_head? hb)) hd;obtain⟨hr,t,rfl⟩:=hs;have hw:=(Ze6 n);have hw1:1≤wid n:=by unfold wid;(repeat' split)<;>omega
   obtain⟨ns,r,e1,e2,e3⟩:=Zna k t (by rw[Qb]at h;omega) (fun x hx=>hp x (List.mem_append_right _ hx));refine⟨n::ns,r, ?_, ?_,e3⟩
   ·show _=(Za0 n++Zw ns)++r
    rw[Qa,←e1]
   ·intro m hm;rcases List.mem_cons.1 hm with rfl|hm
    ·exact hr
    ·exact e2 m hm
theorem Znb:∀{ns l r ms q:List Int},Zc0 l ns r→Zc0 l ms q→ns=ms∧r=q
 | [],l,r,[],q,h,k=>⟨rfl,h.eq.symm.trans k.eq⟩
 | [],l,r,m::ms,q,h,k=>by
  have hs:Zee l m:=⟨k.right m (Qe ..),Zw ms++q,by rw[k.eq];show(Za0 m++Zw ms)++q=_;rw[Qa]⟩;have hl:l=r:=h.eq;have:=Ze5 hs;rw[hl,h.stop]at this;cases this
 | n::ns,l,r,[],q,h,k=>by
  have hs:Zee l n:=⟨h.right n (Qe ..),Zw ns++r,by rw[h.eq];show(Za0 n++Zw ns)++r=_;rw[Qa]⟩;have hl:l=q:=k.eq;have:=Ze5 hs;rw[hl,k.stop]at this;cases this
 | n::ns,l,r,m::ms,q,h,k=>by
  have h1:l=Za0 n++(Zw ns++r):=by rw[h.eq];show(Za0 n++Zw ns)++r=_;rw[Qa]
  have k1:l=Za0 m++(Zw ms++q):=by rw[k.eq];show(Za0 m++Zw ms)++q=_;rw[Qa]
  have e:n=m:=Zoo ⟨h.right n (Qe ..),_,h1⟩ ⟨k.right m (Qe ..),_,k1⟩;subst e;have e2:Zw ns++r=Zw ms++q:=List.append_cancel_left (h1.symm.trans k1);obtain⟨a,b⟩:=Znb (l:=Zw ns++r) ⟨rfl,fun x hx=>h.right x (Qi _ hx),h.stop⟩ ⟨e2,fun x hx=>k.right x (Qi _ hx),k.stop⟩;exact⟨by rw[a],b⟩
theorem Zkh {ns:List Int}(h:∀n∈ns,Zx n=true):Zc0 (Zw ns) ns []:=⟨(Qj _).symm,h,rfl⟩
def Zco (ns:List Int)(j:Nat):Nat:=(Zw (ns.take j)).length
theorem Zp8 (ns:List Int):Zco ns 0=0:=by simp[Zco,Zw]
theorem Zii (ns:List Int)(j:Nat)(h:j<ns.length):Zco ns (j+1)=Zco ns j+wid (ns.getD j 0):=by
 unfold Zco;rw[Qf h,Zit,Qb];show _+(Za0 _++[]).length=_
 rw[Qj,Ze6];simp[Qd,h]
theorem Zl5 (ns:List Int):Zco ns ns.length=(Zw ns).length:=by unfold Zco;rw[List.take_length]
theorem Zrj {l ns r:List Int}(h:Zc0 l ns r)(j:Nat):l.drop (Zco ns j)=Zw (ns.drop j)++r:=by
 have e:Zw ns=Zw (ns.take j)++Zw (ns.drop j):=by rw[←Zit,Qc]
 rw[h.eq,e,Qa];exact List.drop_left
theorem Z5l (ns:List Int)(j:Nat):Zco ns j≤(Zw ns).length:=by
 have e:Zw ns=Zw (ns.take j)++Zw (ns.drop j):=by rw[←Zit,Qc]
 rw[e,Qb];unfold Zco;omega
theorem Z32 {ns:List Int}{j:Nat}(h:j<ns.length):ns.drop j=ns.getD j 0::ns.drop (j+1):=by
 rw[Qg h];simp[Qd,h]
theorem Zs9 {ns:List Int}{j:Nat}(h:j<ns.length):ns.getD j 0∈ns:=by
 have:ns.getD j 0=ns[j]:=by simp[Qd,h]
 rw[this];exact List.getElem_mem h
theorem Zpx {l ns r:List Int}(h:Zc0 l ns r){j:Nat}(hj:j<ns.length):dec (l.drop (Zco ns j))=some (ns.getD j 0):=by
 apply Ze5
 refine⟨h.right _ (Zs9 hj),Zw (ns.drop (j+1))++r, ?_⟩;rw[Zrj h,Z32 hj];show(Za0 _++Zw _)++r=_
 rw[Qa]
theorem Zvk {l ns r:List Int}(h:Zc0 l ns r):dec (l.drop (Zco ns ns.length))=none:=by
 rw[Zrj h,List.drop_length];exact h.stop
theorem Za8:∀(ns:List Int),ns.length≤(Zw ns).length
 | []=>Nat.le_refl _
 | n::ns=>by
  have h1:=Za8 ns;have h2:=Ze6 n;have h3:1≤wid n:=by unfold wid;(repeat' split)<;>omega
  show ns.length+1≤(Za0 n++Zw ns).length
  rw[Qb];omega
theorem Zb7 {l ns r:List Int}(h:Zc0 l ns r):l.length=(Zw ns).length+r.length:=by rw[h.eq,Qb]
theorem Zn3 {ns:List Int}{j:Nat}(hj:j<ns.length):Zco ns j+wid (ns.getD j 0)≤(Zw ns).length:=by
 rw[←Zii ns j hj];exact Z5l _ _
theorem Zr1 (s:ByteArray):∀x∈Zm s,0≤x:=by
 intro x hx;unfold Zm at hx;obtain⟨b,_,rfl⟩:=List.mem_map.1 hx;omega
theorem Zrn (s:ByteArray):∃ns r,Zc0 (Zm s) ns r:=Zna _ _ (Nat.le_refl _) (Zr1 s)
theorem Zjg {ns:List Int}{j:Nat}(h:j<ns.length):ns.take (j+1)=ns.take j++[ns.getD j 0]:=by
 rw[Qf h];simp[Qd,h]
