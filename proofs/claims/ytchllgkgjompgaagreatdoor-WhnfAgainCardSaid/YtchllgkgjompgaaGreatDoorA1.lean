import Derived.Test.YtchllgkgjompgaaGreatDoorRows
import Derived.WalkKit
import Derived.ProofKit
import Derived.WalkLawsBesides
import Derived.Laws.BitsAllLaws
import Derived.LoopN
import Derived.Laws.BytesArg
import Derived.Laws.IdiomStrings
import Derived.Laws.Strings
namespace Go.Proofs.YtchllgkgjompgaaGreatDoor
open Go.RowKit
open Go.Proofs.Tryz
def rightB (n:Int):Bool:=decide (0≤n) && decide (n≤1114111) && (decide (n<55296)||decide (57343<n))
theorem rightB_true {n:Int}:rightB n=true↔(0≤n∧n≤1114111∧(n<55296∨57343<n)):=by
 simp[rightB,and_assoc]
theorem rightB_false {n:Int}:rightB n=false↔ ¬ (0≤n∧n≤1114111∧(n<55296∨57343<n)):=by
 rw[←rightB_true];simp
theorem right_any (n:Int) (w:World):Calls prog 227 #[.int .i64 n] w fun e w'=>e= .returned (.bool (rightB n))∧w=w':=by
 cases hb:rightB n with
 | true=>
  obtain⟨h0,h1,h2⟩:=rightB_true.1 hb;clear hb;by_cases h3:n<55296
  ·clear h2;go_enter func227,ntmps227;go_wp2
   go_ret;exact⟨rfl,rfl⟩
  ·have h4:57343<n:=by omega
   clear h2;go_enter func227,ntmps227;go_wp2
   go_ret;exact⟨rfl,rfl⟩
 | false=>
  have hn:=rightB_false.1 hb;clear hb;by_cases h0:0≤n
  ·by_cases h1:n≤1114111
   ·have h2: ¬ n<55296:=by omega
    have h3: ¬ 57343<n:=by omega
    clear hn;go_enter func227,ntmps227;go_wp2
    go_ret;exact⟨rfl,rfl⟩
   ·clear hn;go_enter func227,ntmps227;go_wp2
    go_ret;exact⟨rfl,rfl⟩
  ·clear hn;go_enter func227,ntmps227;go_wp2
   go_ret;exact⟨rfl,rfl⟩
def wid (n:Int):Nat:=if n≤127 then 1 else if n≤2047 then 2 else if n≤65535 then 3 else 4
theorem width_any (n:Int) (w:World):Calls prog 228 #[.int .i64 n] w fun e w'=>e= .returned (.int .i64 (wid n))∧w=w':=by
 by_cases h0:n≤127
 ·have hb:wid n=1:=by simp[wid,h0]
  rw[hb];clear hb;have h1:n≤2047:=by omega
  have h2:n≤65535:=by omega
  go_enter func228,ntmps228;go_wp2
  go_ret;exact⟨rfl,rfl⟩
 ·by_cases h1:n≤2047
  ·have hb:wid n=2:=by simp[wid,h0,h1]
   rw[hb];clear hb;have h2:n≤65535:=by omega
   go_enter func228,ntmps228;go_wp2
   go_ret;exact⟨rfl,rfl⟩
  ·by_cases h2:n≤65535
   ·have hb:wid n=3:=by simp[wid,h0,h1,h2]
    rw[hb];clear hb;go_enter func228,ntmps228;go_wp2
    go_ret;exact⟨rfl,rfl⟩
   ·have hb:wid n=4:=by simp[wid,h0,h1,h2]
    rw[hb];clear hb;go_enter func228,ntmps228;go_wp2
    go_ret;exact⟨rfl,rfl⟩
def headI (k:Int):Int:=if k=4 then 240 else if k=3 then 224 else if k=2 then 192 else 0
theorem head_any (k:Int) (w:World):Calls prog 233 #[.int .i64 k] w fun e w'=>e= .returned (.int .i64 (headI k))∧w=w':=by
 by_cases h4:k=4
 ·subst h4;go_enter func233,ntmps233;go_wp2
  go_ret;exact⟨rfl,rfl⟩
 ·by_cases h3:k=3
  ·subst h3;go_enter func233,ntmps233;go_wp2
   go_ret;exact⟨rfl,rfl⟩
  ·by_cases h2:k=2
   ·subst h2;go_enter func233,ntmps233;go_wp2
    go_ret;exact⟨rfl,rfl⟩
   ·have hb:headI k=0:=by simp[headI,h4,h3,h2]
    rw[hb];clear hb;have e4:(k==4)=false:=by simpa using h4
    have e3:(k==3)=false:=by simpa using h3
    have e2:(k==2)=false:=by simpa using h2
    clear h4 h3 h2;go_enter func233,ntmps233;go_wp2
    go_ret;exact⟨rfl,rfl⟩
theorem head_1 (w:World):Calls prog 233 #[.int .i64 1] w fun e w'=>e= .returned (.int .i64 0)∧w=w':=head_any 1 w
theorem head_2 (w:World):Calls prog 233 #[.int .i64 2] w fun e w'=>e= .returned (.int .i64 192)∧w=w':=head_any 2 w
theorem head_3 (w:World):Calls prog 233 #[.int .i64 3] w fun e w'=>e= .returned (.int .i64 224)∧w=w':=head_any 3 w
theorem head_4 (w:World):Calls prog 233 #[.int .i64 4] w fun e w'=>e= .returned (.int .i64 240)∧w=w':=head_any 4 w
def shareI (b:Int):Int:=if b<128 then b else if b<192∨248≤b then 0 else if 240≤b then b - 240 else if 224≤b then b - 224 else b - 192
def sizeI (b:Int):Nat:=if b<128 then 1 else if b<192∨248≤b then 0 else if 240≤b then 4 else if 224≤b then 3 else 2
theorem first_any (b:Int) (w:World) (hb0:0≤b) (hb1:b≤255):Calls prog 225 #[.int .u8 b] w fun e w'=>e= .returned (.tuple #[.int .i64 (shareI b),.int .i64 (sizeI b)])∧w=w':=by
 by_cases h0:b<128
 ·have e1:shareI b=b:=by simp[shareI,h0]
  have e2:sizeI b=1:=by simp[sizeI,h0]
  rw[e1,e2];clear e1 e2;go_enter func225,ntmps225;go_wp2_with (go_at_call 233;refine(head_1 _).mono ?_;rintro e w' ⟨rfl,rfl⟩)
  go_ret2;exact⟨rfl,rfl⟩
 ·by_cases h1:b<192
  ·have e1:shareI b=0:=by simp[shareI,h0,h1]
   have e2:sizeI b=0:=by simp[sizeI,h0,h1]
   rw[e1,e2];clear e1 e2;go_enter func225,ntmps225;go_wp2
   go_ret2;exact⟨rfl,rfl⟩
  ·by_cases h2:248≤b
   ·have e1:shareI b=0:=by simp[shareI,h0,h2]
    have e2:sizeI b=0:=by simp[sizeI,h0,h2]
    rw[e1,e2];clear e1 e2;go_enter func225,ntmps225;go_wp2
    go_ret2;exact⟨rfl,rfl⟩
   ·by_cases h3:240≤b
    ·have e1:shareI b=b - 240:=by simp[shareI,h0,h1,h2,h3]
     have e2:sizeI b=4:=by simp[sizeI,h0,h1,h2,h3]
     rw[e1,e2];clear e1 e2;go_enter func225,ntmps225;go_wp2_with (go_at_call 233;refine(head_4 _).mono ?_;rintro e w' ⟨rfl,rfl⟩)
     go_ret2;exact⟨rfl,rfl⟩
    ·by_cases h4:224≤b
     ·have e1:shareI b=b - 224:=by simp[shareI,h0,h1,h2,h3,h4]
      have e2:sizeI b=3:=by simp[sizeI,h0,h1,h2,h3,h4]
      rw[e1,e2];clear e1 e2;go_enter func225,ntmps225;go_wp2_with (go_at_call 233;refine(head_3 _).mono ?_;rintro e w' ⟨rfl,rfl⟩)
      go_ret2;exact⟨rfl,rfl⟩
     ·have e1:shareI b=b - 192:=by simp[shareI,h0,h1,h2,h3,h4]
      have e2:sizeI b=2:=by simp[sizeI,h0,h1,h2,h3,h4]
      rw[e1,e2];clear e1 e2;go_enter func225,ntmps225;go_wp2_with (go_at_call 233;refine(head_2 _).mono ?_;rintro e w' ⟨rfl,rfl⟩)
      go_ret2;exact⟨rfl,rfl⟩
def followsB (b:Int):Bool:=decide (128≤b) && decide (b<192)
theorem follows_any (b:Int) (w:World):Calls prog 226 #[.int .u8 b] w fun e w'=>e= .returned (.bool (followsB b))∧w=w':=by
 by_cases h0:128≤b
 ·by_cases h1:b<192
  ·have e1:followsB b=true:=by simp[followsB,h0,h1]
   rw[e1];clear e1;go_enter func226,ntmps226;go_wp2
   go_ret;exact⟨rfl,rfl⟩
  ·have e1:followsB b=false:=by simp[followsB,h0,h1]
   rw[e1];clear e1;go_enter func226,ntmps226;go_wp2
   go_ret;exact⟨rfl,rfl⟩
 ·have e1:followsB b=false:=by simp[followsB,h0]
  rw[e1];clear e1;go_enter func226,ntmps226;go_wp2
  go_ret;exact⟨rfl,rfl⟩
theorem ofInt64 (a:Nat) (ha:a<18446744073709551616):(BitVec.ofInt 64 (a:Int)).toNat=a:=by
 rw[BitVec.ofInt_natCast,BitVec.toNat_ofNat];exact Nat.mod_eq_of_lt (by omega)
theorem wrap_i64 (n:Int) (h0:0≤n) (h1:n<9223372036854775808):IntKind.i64.wrap n=n:=by
 simp[IntKind.wrap,IntKind.bits,IntKind.signed];omega
theorem i64_or_nat (a b:Nat) (ha:a<9223372036854775808) (hb:b<9223372036854775808):bits .or .i64 (a:Int) (b:Int)=((a|||b:Nat):Int):=by
 have hx:a|||b<2 ^ 63:=Nat.or_lt_two_pow (by omega) (by omega)
 show IntKind.i64.wrap ((BitVec.ofInt 64 (a:Int)|||BitVec.ofInt 64 (b:Int)).toNat:Int)=_
 rw[BitVec.toNat_or,ofInt64 a (by omega),ofInt64 b (by omega),wrap_i64 _ (by omega) (by omega)]
theorem and63_u8 (n:Int) (h0:0≤n) (h1:n≤255):bits .and .u8 n 63=n % 64:=by
 obtain⟨m,rfl⟩:=Int.eq_ofNat_of_zero_le h0;have h:=u8_and_nat m 63 (by omega) (by omega);have e:m &&& 63=m % 64:=by simpa using Nat.and_two_pow_sub_one_eq_mod m 6
 rw[e]at h;simpa using h
theorem or_join (i:Nat) (a b:Int) (h0:0≤a) (h1:a≤9223372036854775807) (h2:0≤b) (h3:b<(2 ^ i:Nat)) (h4:a % (2 ^ i:Nat)=0) (h5:b≤9223372036854775807):bits .or .i64 a b=a+b:=by
 obtain⟨x,rfl⟩:=Int.eq_ofNat_of_zero_le h0;obtain⟨y,rfl⟩:=Int.eq_ofNat_of_zero_le h2;have h:=i64_or_nat x y (by omega) (by omega);have e:=nat_join i x y (by exact_mod_cast h4) (by exact_mod_cast h3);rw[e]at h;rw[h];simp
theorem or_64 (a b:Int) (h0:0≤a) (h1:a≤1000000000) (h2:0≤b) (h3:b<64):bits .or .i64 (a*64) b=a*64+b:=
 or_join 6 (a*64) b (by omega) (by omega) h2 (by simpa using h3) (by simp) (by omega)
def encI (n:Int):List Int:=
 if n≤127 then[n]else if n≤2047 then[192+n/64,128+n % 64]
 else if n≤65535 then[224+n/64/64,128+n/64 % 64,128+n % 64]
 else[240+n/64/64/64,128+n/64/64 % 64,128+n/64 % 64,128+n % 64]
def enc (n:Int):ByteArray:=strOfNums (encI n)
theorem encI_1 {n:Int} (h:n≤127):encI n=[n]:=if_pos h
theorem encI_2 {n:Int} (h0:128≤n) (h1:n≤2047):encI n=[192+n/64,128+n % 64]:=by
 unfold encI;rw[if_neg (by omega),if_pos h1]
theorem encI_3 {n:Int} (h0:2048≤n) (h1:n≤65535):encI n=[224+n/64/64,128+n/64 % 64,128+n % 64]:=by
 unfold encI;rw[if_neg (by omega),if_neg (by omega),if_pos h1]
theorem encI_4 {n:Int} (h0:65536≤n):encI n=[240+n/64/64/64,128+n/64/64 % 64,128+n/64 % 64,128+n % 64]:=by
 unfold encI;rw[if_neg (by omega),if_neg (by omega),if_neg (by omega)]
theorem encI_length (n:Int):(encI n).length=wid n:=by
 unfold encI wid;(repeat' split)<;>rfl
def bytesL (s:ByteArray):List Int:=s.data.toList.map fun b=>(b.toNat:Int)
theorem bytesL_length (s:ByteArray):(bytesL s).length=s.size:=by simp[bytesL]
theorem bytesL_get (s:ByteArray) (i:Nat) (h:i<s.size):(bytesL s)[i]? =some ((s[i].toNat:Int)):=by
 simp[bytesL];exact⟨s[i],by rw[Array.getElem?_eq_getElem (by simpa using h)];rfl,rfl⟩
def byt (s:ByteArray) (i:Nat):Int:=(bytesL s).getD i 0
theorem byt_eq (s:ByteArray) (i:Nat) (h:i<s.size):(s[i].toNat:Int)=byt s i:=by
 unfold byt;simp[List.getD,bytesL_get s i h]
theorem byt_lo (s:ByteArray) (i:Nat):0≤byt s i:=by
 by_cases h:i<s.size
 ·rw[←byt_eq s i h];omega
 ·unfold byt;rw[List.getD,List.getElem?_eq_none (by rw[bytesL_length];omega)];simp
theorem byt_hi (s:ByteArray) (i:Nat):byt s i≤255:=by
 by_cases h:i<s.size
 ·rw[←byt_eq s i h];have:=s[i].toNat_lt;omega
 ·unfold byt;rw[List.getD,List.getElem?_eq_none (by rw[bytesL_length];omega)];simp
theorem drop_byt (s:ByteArray) (i:Nat) (h:i<s.size):(bytesL s).drop i=byt s i::(bytesL s).drop (i+1):=by
 rw[List.drop_eq_getElem_cons (by rw[bytesL_length];exact h)];unfold byt;rw[List.getD,List.getElem?_eq_getElem (by rw[bytesL_length];exact h)];rfl
def okB (k:Nat) (n:Int):Bool:=rightB n && decide (wid n=k)
def dec4 (b:Int):List Int→Option Int
 | c1::c2::c3::_=>if followsB c1 && (followsB c2 && (followsB c3 && okB 4 ((((b - 240)*64+c1 % 64)*64+c2 % 64)*64+c3 % 64)))then some ((((b - 240)*64+c1 % 64)*64+c2 % 64)*64+c3 % 64)else none
 | _=>none
def dec3 (b:Int):List Int→Option Int
 | c1::c2::_=>if followsB c1 && (followsB c2 && okB 3 (((b - 224)*64+c1 % 64)*64+c2 % 64))then some (((b - 224)*64+c1 % 64)*64+c2 % 64)else none
 | _=>none
def dec2 (b:Int):List Int→Option Int
 | c1::_=>if followsB c1 && okB 2 ((b - 192)*64+c1 % 64)then some ((b - 192)*64+c1 % 64)else none
 | _=>none
def dec:List Int→Option Int
 | []=>none
 | b::t=>if b<128 then some b else if b<192∨248≤b then none else if 240≤b then dec4 b t else if 224≤b then dec3 b t else dec2 b t
theorem dec_cons (b:Int) (t:List Int):dec (b::t)=if b<128 then some b else if b<192∨248≤b then none else if 240≤b then dec4 b t else if 224≤b then dec3 b t else dec2 b t:=rfl
theorem dec_1 {b:Int} {t:List Int} (h:b<128):dec (b::t)=some b:=if_pos h
theorem dec_0 {b:Int} {t:List Int} (h:(128≤b∧b<192)∨248≤b):dec (b::t)=none:=by rw[dec_cons,if_neg (by omega),if_pos (by omega)]
theorem dec_4 {b:Int} {t:List Int} (h:240≤b) (k:b<248):dec (b::t)=dec4 b t:=by rw[dec_cons,if_neg (by omega),if_neg (by omega),if_pos h]
theorem dec_3 {b:Int} {t:List Int} (h:224≤b) (k:b<240):dec (b::t)=dec3 b t:=by rw[dec_cons,if_neg (by omega),if_neg (by omega),if_neg (by omega),if_pos h]
theorem dec_2 {b:Int} {t:List Int} (h:192≤b) (k:b<224):dec (b::t)=dec2 b t:=by rw[dec_cons,if_neg (by omega),if_neg (by omega),if_neg (by omega),if_neg (by omega)]
def IsSign (l:List Int) (n:Int):Prop:=rightB n=true∧∃t,l=encI n++t
theorem sign_cases {l:List Int} {n:Int} (h:IsSign l n):0≤n∧n≤1114111∧(n<55296∨57343<n)∧∃t,
    (n≤127∧l=n::t)∨(128≤n∧n≤2047∧l=(192+n/64)::(128+n % 64)::t)∨
    (2048≤n∧n≤65535∧l=(224+n/64/64)::(128+n/64 % 64)::(128+n % 64)::t)∨
    (65536≤n∧l=(240+n/64/64/64)::(128+n/64/64 % 64)::(128+n/64 % 64)::(128+n % 64)::t):=by
  obtain⟨hr,t,rfl⟩:=h;obtain⟨h0,h1,h2⟩:=rightB_true.1 hr;refine⟨h0,h1,h2,t, ?_⟩;by_cases a1:n≤127
  · exact .inl ⟨a1,by rw[encI_1 a1];rfl⟩
  · by_cases a2:n≤2047
    · exact .inr (.inl ⟨by omega,a2,by rw[encI_2 (by omega) a2];rfl⟩)
    · by_cases a3:n≤65535
      · exact .inr (.inr (.inl ⟨by omega,a3,by rw[encI_3 (by omega) a3];rfl⟩))
      · exact .inr (.inr (.inr ⟨by omega,by rw[encI_4 (by omega)];rfl⟩))
theorem okB_true {k:Nat} {n:Int}:okB k n=true↔rightB n=true∧wid n=k:=by simp[okB]
theorem wid_1 {n:Int} (h:n≤127):wid n=1:=if_pos h
theorem wid_2 {n:Int} (h0:128≤n) (h:n≤2047):wid n=2:=by unfold wid;rw[if_neg (by omega),if_pos h]
theorem wid_3 {n:Int} (h0:2048≤n) (h:n≤65535):wid n=3:=by unfold wid;rw[if_neg (by omega),if_neg (by omega),if_pos h]
theorem wid_4 {n:Int} (h0:65536≤n):wid n=4:=by unfold wid;rw[if_neg (by omega),if_neg (by omega),if_neg (by omega)]
theorem of_wid_2 {n:Int} (h:wid n=2):128≤n∧n≤2047:=by
 unfold wid at h;(repeat' split at h)<;>omega
theorem of_wid_3 {n:Int} (h:wid n=3):2048≤n∧n≤65535:=by
 unfold wid at h;(repeat' split at h)<;>omega
theorem of_wid_4 {n:Int} (h:wid n=4):65536≤n:=by
 unfold wid at h;(repeat' split at h)<;>omega
theorem follows_true {b:Int}:followsB b=true↔128≤b∧b<192:=by simp[followsB]
theorem dec_of_sign {l:List Int} {n:Int} (h:IsSign l n):dec l=some n:=by
 have hr:=h.1;obtain⟨h0,h1,h2,t,h⟩:=sign_cases h;rcases h with ⟨a,rfl⟩|⟨a,b,rfl⟩|⟨a,b,rfl⟩|⟨a,rfl⟩
 ·exact dec_1 (by omega)
 ·have e:(192+n/64 - 192)*64+(128+n % 64) % 64=n:=by omega
  have f1:followsB (128+n % 64)=true:=follows_true.2 (by omega);have f2:okB 2 n=true:=okB_true.2 ⟨hr,wid_2 a b⟩;rw[dec_2 (by omega) (by omega)];simp only[dec2,e,f1,f2,Bool.and_self,if_true]
 ·have e:((224+n/64/64 - 224)*64+(128+n/64 % 64) % 64)*64+(128+n % 64) % 64=n:=by omega
  have f1:followsB (128+n % 64)=true:=follows_true.2 (by omega);have f2:followsB (128+n/64 % 64)=true:=follows_true.2 (by omega);have f3:okB 3 n=true:=okB_true.2 ⟨hr,wid_3 a b⟩;rw[dec_3 (by omega) (by omega)];simp only[dec3,e,f1,f2,f3,Bool.and_self,if_true]
 ·have e:(((240+n/64/64/64 - 240)*64+(128+n/64/64 % 64) % 64)*64+(128+n/64 % 64) % 64)*64+(128+n % 64) % 64=n:=by omega
  have f1:followsB (128+n % 64)=true:=follows_true.2 (by omega);have f2:followsB (128+n/64 % 64)=true:=follows_true.2 (by omega);have f3:followsB (128+n/64/64 % 64)=true:=follows_true.2 (by omega);have f4:okB 4 n=true:=okB_true.2 ⟨hr,wid_4 a⟩;rw[dec_4 (by omega) (by omega)];simp only[dec4,e,f1,f2,f3,f4,Bool.and_self,if_true]
theorem sign_of_dec {l:List Int} {n:Int} (hl:∀b,l.head? =some b→0≤b) (h:dec l=some n):IsSign l n:=by
 match l,hl,h with
 | b::t,hl,h=>
  have hb:=hl b rfl;rw[dec_cons]at h;split at h
  ·obtain rfl:=Option.some.inj h;exact⟨rightB_true.2 (by omega),t,by rw[encI_1 (by omega)];rfl⟩
  ·split at h
   ·cases h
   ·split at h
    ·unfold dec4 at h;split at h
     ·rename_i c1 c2 c3 u
      split at h
      ·rename_i hc
       simp only[Bool.and_eq_true]at hc;obtain⟨f1,f2,f3,f4⟩:=hc;rw[follows_true]at f1 f2 f3;obtain⟨g1,g2⟩:=okB_true.1 f4;have e:=Option.some.inj h;rw[e]at g1 g2;have g3:=of_wid_4 g2;refine⟨g1,u, ?_⟩;rw[encI_4 g3];have e1:b=240+n/64/64/64:=by omega
       have e2:c1=128+n/64/64 % 64:=by omega
       have e3:c2=128+n/64 % 64:=by omega
       have e4:c3=128+n % 64:=by omega
       rw[←e1,←e2,←e3,←e4];rfl
      ·cases h
     ·cases h
    ·split at h
     ·unfold dec3 at h;split at h
      ·rename_i c1 c2 u
       split at h
       ·rename_i hc
        simp only[Bool.and_eq_true]at hc;obtain⟨f1,f2,f4⟩:=hc;rw[follows_true]at f1 f2;obtain⟨g1,g2⟩:=okB_true.1 f4;have e:=Option.some.inj h;rw[e]at g1 g2;have g3:=of_wid_3 g2;refine⟨g1,u, ?_⟩;rw[encI_3 g3.1 g3.2];have e1:b=224+n/64/64:=by omega
        have e3:c1=128+n/64 % 64:=by omega
        have e4:c2=128+n % 64:=by omega
        rw[←e1,←e3,←e4];rfl
       ·cases h
      ·cases h
     ·unfold dec2 at h;split at h
      ·rename_i c1 u
       split at h
       ·rename_i hc
        simp only[Bool.and_eq_true]at hc;obtain⟨f1,f4⟩:=hc;rw[follows_true]at f1;obtain⟨g1,g2⟩:=okB_true.1 f4;have e:=Option.some.inj h;rw[e]at g1 g2;have g3:=of_wid_2 g2;refine⟨g1,u, ?_⟩;rw[encI_2 g3.1 g3.2];have e1:b=192+n/64:=by omega
        have e4:c1=128+n % 64:=by omega
        rw[←e1,←e4];rfl
       ·cases h
      ·cases h
def fin (N:Int) (l:List Int):Int:=if rightB N && decide (encI N=l)then N else -1
def encAll:List Int→List Int
 | []=>[]
 | n::ns=>encI n++encAll ns
theorem encAll_append (a b:List Int):encAll (a++b)=encAll a++encAll b:=by
 induction a with
 | nil=>rfl
 | cons n a ih=>show encI n++encAll (a++b)=(encI n++encAll a)++encAll b;rw[ih,List.append_assoc]
structure Parse (l ns r:List Int):Prop where
 eq:l=encAll ns++r
 right:∀n∈ns,rightB n=true
 stop:dec r=none
theorem parse_exists:∀(k:Nat) (l:List Int),l.length≤k→(∀x∈l,0≤x)→∃ns r,Parse l ns r
 | 0,l,h,_=>by
  have:l=[]:=List.eq_nil_of_length_eq_zero (by omega);subst this;exact⟨[],[],rfl,by simp,rfl⟩
 | k+1,l,h,hp=>by
  cases hd:dec l with
  | none=>exact⟨[],l,rfl,by simp,hd⟩
  | some n=>
   have hs:IsSign l n:=sign_of_dec (fun b hb=>hp b (List.mem_of_mem_head? hb)) hd;obtain⟨hr,t,rfl⟩:=hs;have hw:=(encI_length n);have hw1:1≤wid n:=by unfold wid;(repeat' split)<;>omega
   obtain⟨ns,r,e1,e2,e3⟩:=parse_exists k t (by rw[List.length_append]at h;omega) (fun x hx=>hp x (List.mem_append_right _ hx));refine⟨n::ns,r, ?_, ?_,e3⟩
   ·show _=(encI n++encAll ns)++r
    rw[List.append_assoc,←e1]
   ·intro m hm;rcases List.mem_cons.1 hm with rfl|hm
    ·exact hr
    ·exact e2 m hm
def offs (ns:List Int) (j:Nat):Nat:=(encAll (ns.take j)).length
theorem offs_0 (ns:List Int):offs ns 0=0:=by simp[offs,encAll]
theorem offs_succ (ns:List Int) (j:Nat) (h:j<ns.length):offs ns (j+1)=offs ns j+wid (ns.getD j 0):=by
 unfold offs;rw[List.take_succ_eq_append_getElem h,encAll_append,List.length_append];show _+(encI _++[]).length=_
 rw[List.append_nil,encI_length];simp[List.getD,h]
theorem offs_all (ns:List Int):offs ns ns.length=(encAll ns).length:=by unfold offs;rw[List.take_length]
theorem offs_drop {l ns r:List Int} (h:Parse l ns r) (j:Nat):l.drop (offs ns j)=encAll (ns.drop j)++r:=by
 have e:encAll ns=encAll (ns.take j)++encAll (ns.drop j):=by rw[←encAll_append,List.take_append_drop]
 rw[h.eq,e,List.append_assoc];exact List.drop_left
theorem offs_le (ns:List Int) (j:Nat):offs ns j≤(encAll ns).length:=by
 have e:encAll ns=encAll (ns.take j)++encAll (ns.drop j):=by rw[←encAll_append,List.take_append_drop]
 rw[e,List.length_append];unfold offs;omega
theorem drop_at {ns:List Int} {j:Nat} (h:j<ns.length):ns.drop j=ns.getD j 0::ns.drop (j+1):=by
 rw[List.drop_eq_getElem_cons h];simp[List.getD,h]
theorem getD_mem {ns:List Int} {j:Nat} (h:j<ns.length):ns.getD j 0∈ns:=by
 have:ns.getD j 0=ns[j]:=by simp[List.getD,h]
 rw[this];exact List.getElem_mem h
theorem dec_at {l ns r:List Int} (h:Parse l ns r) {j:Nat} (hj:j<ns.length):dec (l.drop (offs ns j))=some (ns.getD j 0):=by
 apply dec_of_sign
 refine⟨h.right _ (getD_mem hj),encAll (ns.drop (j+1))++r, ?_⟩;rw[offs_drop h,drop_at hj];show(encI _++encAll _)++r=_
 rw[List.append_assoc]
theorem dec_end {l ns r:List Int} (h:Parse l ns r):dec (l.drop (offs ns ns.length))=none:=by
 rw[offs_drop h,List.drop_length];exact h.stop
theorem length_encAll:∀(ns:List Int),ns.length≤(encAll ns).length
 | []=>Nat.le_refl _
 | n::ns=>by
  have h1:=length_encAll ns;have h2:=encI_length n;have h3:1≤wid n:=by unfold wid;(repeat' split)<;>omega
  show ns.length+1≤(encI n++encAll ns).length
  rw[List.length_append];omega
theorem parse_length {l ns r:List Int} (h:Parse l ns r):l.length=(encAll ns).length+r.length:=by rw[h.eq,List.length_append]
theorem offs_lt {ns:List Int} {j:Nat} (hj:j<ns.length):offs ns j+wid (ns.getD j 0)≤(encAll ns).length:=by
 rw[←offs_succ ns j hj];exact offs_le _ _
theorem bytesL_nonneg (s:ByteArray):∀x∈bytesL s,0≤x:=by
 intro x hx;unfold bytesL at hx;obtain⟨b,_,rfl⟩:=List.mem_map.1 hx;omega
theorem parse_str (s:ByteArray):∃ns r,Parse (bytesL s) ns r:=parse_exists _ _ (Nat.le_refl _) (bytesL_nonneg s)
theorem take_snocI {ns:List Int} {j:Nat} (h:j<ns.length):ns.take (j+1)=ns.take j++[ns.getD j 0]:=by
 rw[List.take_succ_eq_append_getElem h];simp[List.getD,h]
end Go.Proofs.YtchllgkgjompgaaGreatDoor
