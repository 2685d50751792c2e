import Derived.Test.YtchllgkgjompgaaGreatDoorA1
import Derived.Below
import Derived.LoopTactic
import Derived.LoopN
import Derived.Lib.Hide
import Derived.RegionTactic
import Derived.Maps.OwnSet
import Derived.ProofKit
import Derived.Test.YtchllgkgjompgaaGreatDoorA2
namespace Go.Proofs.YtchllgkgjompgaaGreatDoor
open Go.RowKit Go.Maps Go.WideMaps
set_option linter.unusedVariables false
set_option maxRecDepth 100000
open Lib(hid)
open Go.Proofs.Tryz
def keyB (s:ByteArray):Bool:=(s.toList==[100,97,116,97])||((s.toList==[114,101,99,111,114,100])||((s.toList==[100,101,102])||(s.toList==[83,101,116])))
theorem ne_list {s t:ByteArray} (h:s≠t):(s.toList==t.toList)=false:=by
 rw[beq_eq_false_iff_ne];intro e;apply h
 rw[ByteArray.toList_eq,ByteArray.toList_eq]at e;exact ByteArray.ext (Array.toList_inj.1 e)
theorem eq_list {s t:ByteArray} (h:s=t):(s.toList==t.toList)=true:=by rw[h];simp
theorem keyword_any (s:ByteArray) (w:World):Calls prog 201 #[.string s] w fun e w'=>e= .returned (.bool (keyB s))∧w=w':=by
 unfold keyB;cases e0:(s.toList==[100,97,116,97])with
 | true=>
  go_enter func201,ntmps201;go_wp2_with fail;go_ret;exact⟨rfl,rfl⟩
 | false=>
  cases e1:(s.toList==[114,101,99,111,114,100])with
  | true=>
   go_enter func201,ntmps201;go_wp2_with fail;go_ret;exact⟨rfl,rfl⟩
  | false=>
   cases e2:(s.toList==[100,101,102])with
   | true=>
    go_enter func201,ntmps201;go_wp2_with fail;go_ret;exact⟨rfl,rfl⟩
   | false=>
    cases e3:(s.toList==[83,101,116])with
    | true=>
     go_enter func201,ntmps201;go_wp2_with fail;go_ret;exact⟨rfl,rfl⟩
    | false=>
     go_enter func201,ntmps201;go_wp2_with fail;go_ret;exact⟨rfl,rfl⟩
def lastF (p:Nat→Bool):Nat→Int
 | 0=> -1
 | n+1=>if p n then(n:Int)else lastF p n
theorem lastF_yes {p:Nat→Bool} {n:Nat} (h:p n=true):lastF p (n+1)=n:=by rw[lastF,h];rfl
theorem lastF_no {p:Nat→Bool} {n:Nat} (h:p n=false):lastF p (n+1)=lastF p n:=by rw[lastF,h];rfl
theorem lastF_some {p:Nat→Bool} {k:Nat}:∀{n:Nat},k<n→p k=true→(∀j,k<j→j<n→p j=false)→lastF p n=k
 | n+1,hk,h,hn=>by
  by_cases hkn:k=n
  ·subst hkn;exact lastF_yes h
  ·rw[lastF_no (hn n (by omega) (by omega))];exact lastF_some (by omega) h (fun j hj hjn=>hn j hj (by omega))
def isAt (ss:List ByteArray) (s:ByteArray) (j:Nat):Bool:=(ss.getD j ByteArray.empty).toList==s.toList
theorem isAt_true {ss:List ByteArray} {s:ByteArray} {j:Nat}:isAt ss s j=true↔ss.getD j ByteArray.empty=s:=by
 unfold isAt;constructor
 ·intro h;by_cases e:ss.getD j ByteArray.empty=s
  ·exact e
  ·rw[ne_list e]at h;cases h
 ·exact eq_list
def placeI (ss:List ByteArray) (s:ByteArray):Int:=lastF (isAt ss s) ss.length
def distB (ss:List ByteArray):Bool:=decide (∀j,j<ss.length→placeI ss (ss.getD j ByteArray.empty)=j)
def keyAt (ss:List ByteArray) (k:Nat):Lit:= .string (ss.getD k ByteArray.empty).data.toList
def keys (ss:List ByteArray) (k:Nat):List Lit:=(ss.take k).map fun s=> .string s.data.toList
def Sn (ss:List ByteArray) (k:Nat):DataW Unit:=setOf (.agg []) (keys ss k)
theorem keys_succ (ss:List ByteArray) (k:Nat) (hk:k<ss.length):keys ss (k+1)=keys ss k++[keyAt ss k]:=by
 unfold keys keyAt;rw[List.take_add_one,List.map_append];simp[List.getD,List.getElem?_eq_getElem hk]
theorem Sn_succ (ss:List ByteArray) (k:Nat) (hk:k<ss.length):Sn ss (k+1)=(Sn ss k).put (keyAt ss k) (.agg []):=by
 unfold Sn;rw[keys_succ ss k hk,setOf_snoc]
theorem Sn_zero (ss:List ByteArray):Sn ss 0= .map []:=by simp[Sn,keys,setOf]
theorem law9:Keyed prog 9:=string_keyed Tryz.underlying9
theorem key_ok {s:ByteArray} (h:s.size≤maxLen):keyOf prog 9 (.string s)=some (.string s.data.toList):=keyOf_string_mk Tryz.underlying9 h
def IsSet (w:World) (B n:Nat) (ss:List ByteArray):Prop:=w.ownsMap prog 9 (unitElem (H:=Unit)) B n (Sn ss ss.length)
theorem key_lit (ss:List ByteArray) (k:Nat):∀x∈keys ss k,WideAt.IsKeyLit x:=by
 intro x hx;obtain⟨_,_,rfl⟩:=List.mem_map.1 hx;trivial
theorem same_string (s t:ByteArray):(Lit.string s.data.toList).sameKey (.string t.data.toList)=(s.toList==t.toList):=by
 rw[ByteArray.toList_eq,ByteArray.toList_eq];rfl
theorem tidy_Sn (ss:List ByteArray) (k:Nat):Tidy (Sn ss k):=tidy_setOf _ _ (key_lit ss k)
theorem run_makeMap_hint (n:Int) (w:World):(Instr.makeMap 198 (some (.int .i64 n))).run prog w= .ok (.map (some w.heap.size)) (w.alloc (.map #[] 0)):=by
 simp[Instr.makeMap,run_underlying Tryz.underlying198,asInt,asIntOf,Result.andThen]
theorem has_Sn (ss:List ByteArray) (k:Nat) (s:ByteArray):Maps.has (Sn ss k) (.string s.data.toList)=(ss.take k).any fun x=>x.toList==s.toList:=by
 unfold Sn;rw[has_setOf _ _ _ (key_lit ss k)];unfold keys;rw[List.any_map];congr 1
 funext x
 exact same_string x s
theorem size_Sn_le (ss:List ByteArray):∀k,k≤ss.length→Maps.size (Sn ss k)≤k
 | 0,_=>by rw[Sn_zero];exact Nat.le_refl _
 | k+1,h=>by
  have ih:=size_Sn_le ss k (by omega);rw[Sn_succ ss k (by omega),size_put (tidy_Sn ss k)];show(if Maps.has (Sn ss k) (keyAt ss k)=true then Maps.size (Sn ss k)else Maps.size (Sn ss k)+1)≤k+1
  split<;>omega
theorem size_Sn (ss:List ByteArray):∀k,k≤ss.length→(Maps.size (Sn ss k)=k↔∀j,j<k→∀i,i<j→ss.getD i ByteArray.empty≠ss.getD j ByteArray.empty)
 | 0,_=>by rw[Sn_zero];exact⟨fun _ j hj=>absurd hj (Nat.not_lt_zero j),fun _=>rfl⟩
 | k+1,h=>by
  have ih:=size_Sn ss k (by omega);have hle:=size_Sn_le ss k (by omega);have hs:Maps.size (Sn ss (k+1))=if Maps.has (Sn ss k) (keyAt ss k)=true then Maps.size (Sn ss k)else Maps.size (Sn ss k)+1:=by
   rw[Sn_succ ss k (by omega),size_put (tidy_Sn ss k)]
  have hh:Maps.has (Sn ss k) (keyAt ss k)=true↔∃i,i<k∧ss.getD i ByteArray.empty=ss.getD k ByteArray.empty:=by
   unfold keyAt;rw[has_Sn,List.any_eq_true];constructor
   ·rintro⟨x,hx,he⟩;obtain⟨i,hi,rfl⟩:=List.getElem_of_mem hx;have hik:i<k:=by rw[List.length_take]at hi;omega
    refine⟨i,hik, ?_⟩;by_cases e:ss.getD i ByteArray.empty=ss.getD k ByteArray.empty
    ·exact e
    ·have:=ne_list e;rw[List.getElem_take]at he;rw[List.getD,List.getElem?_eq_getElem (by omega:i<ss.length)]at this;rw[Option.getD_some]at this;rw[this]at he;cases he
   ·rintro⟨i,hi,he⟩;refine⟨ss.getD i ByteArray.empty, ?_,eq_list he⟩;rw[List.getD,List.getElem?_eq_getElem (by omega:i<ss.length)];exact List.mem_take_iff_getElem.2 ⟨i,by omega,rfl⟩
  rw[hs];by_cases hc:Maps.has (Sn ss k) (keyAt ss k)=true
  ·rw[if_pos hc];constructor
   ·intro e;omega
   ·intro hall;obtain⟨i,hi,he⟩:=hh.1 hc;exact absurd he (hall k (by omega) i hi)
  ·rw[if_neg hc];constructor
   ·intro e j hj i hi;by_cases hjk:j<k
    ·exact(ih.1 (by omega)) j hjk i hi
    ·obtain rfl:j=k:=by omega
     exact fun he=>hc (hh.2 ⟨i,hi,he⟩)
   ·intro hall;have:=ih.2 (fun j hj=>hall j (by omega));omega
theorem dist_iff (ss:List ByteArray):distB ss=true↔∀j,j<ss.length→∀i,i<j→ss.getD i ByteArray.empty≠ss.getD j ByteArray.empty:=by
 unfold distB;rw[decide_eq_true_eq];constructor
 ·intro h j hj i hi e;have h1:=h i (by omega);rw[e,h j hj]at h1;omega
 ·intro h j hj;refine lastF_some hj (isAt_true.2 rfl) (fun k hk hkl=> ?_);cases hc:isAt ss (ss.getD j ByteArray.empty) k with
  | false=>rfl
  | true=>exact absurd (isAt_true.1 hc).symm (h k hkl j hk)
def blankB (n:Int):Bool:=decide (n=9)||(decide (n=10)||(decide (n=13)||decide (n=32)))
def digitB (n:Int):Bool:=decide (48≤n) && decide (n≤57)
def marks:List Int:=[40,41,123,125,58,61,46,44,59,124,92,955,8594,45,62]
def markB (n:Int):Bool:=marks.contains n
def wideB (n:Int):Bool:=decide (127<n) && (decide (n≠160) && ((decide (n<8192)||decide (8303<n)) && rightB n))
def plainB (n:Int):Bool:=(decide (97≤n) && decide (n≤122))||(decide (65≤n) && decide (n≤90))
def letterB (n:Int):Bool:=plainB n||(wideB n && !markB n)
def kindI (n:Int):Int:=if blankB n then 1 else if digitB n then 2 else if markB n then 3 else if letterB n then 4 else 0
theorem wide_any (n:Int) (w:World):Calls prog 234 #[.int .i64 n] w fun e w'=>e= .returned (.bool (wideB n))∧w=w':=by
 by_cases h1:127<n
 ·by_cases h2:n=160
  ·subst h2;go_enter func234,ntmps234;go_wp2
   go_ret;exact⟨rfl,rfl⟩
  ·by_cases h3:n<8192
   ·have hb:wideB n=rightB n:=by simp[wideB,h1,h2,h3]
    have h4: ¬ 8303<n:=by omega
    rw[hb];clear hb;have e2:(n==160)=false:=by simpa using h2
    have e3:(n !=160)=true:=by simpa using h2
    go_enter func234,ntmps234;go_wp2_with fail;refine(right_any _ _).mono ?_;rintro e w' ⟨rfl,rfl⟩;go_wp2_with fail;go_ret;exact⟨rfl,rfl⟩
   ·by_cases h4:8303<n
    ·have hb:wideB n=rightB n:=by simp[wideB,h1,h2,h4]
     rw[hb];clear hb;have e2:(n==160)=false:=by simpa using h2
     have e3:(n !=160)=true:=by simpa using h2
     go_enter func234,ntmps234;go_wp2_with fail;refine(right_any _ _).mono ?_;rintro e w' ⟨rfl,rfl⟩;go_wp2_with fail;go_ret;exact⟨rfl,rfl⟩
    ·have hb:wideB n=false:=by simp[wideB,h3,h4]
     rw[hb];clear hb;have e2:(n==160)=false:=by simpa using h2
     have e3:(n !=160)=true:=by simpa using h2
     go_enter func234,ntmps234;go_wp2_with fail;go_ret;exact⟨rfl,rfl⟩
 ·have hb:wideB n=false:=by simp[wideB,h1]
  rw[hb];clear hb;go_enter func234,ntmps234;go_wp2_with fail;go_ret;exact⟨rfl,rfl⟩
theorem kind_9 (w:World):Calls prog 229 #[.int .i64 9] w fun e w'=>e= .returned (.int .i64 1)∧w=w':=by
 go_enter func229,ntmps229;go_wp2
 go_ret;exact⟨rfl,rfl⟩
theorem kind_10 (w:World):Calls prog 229 #[.int .i64 10] w fun e w'=>e= .returned (.int .i64 1)∧w=w':=by
 go_enter func229,ntmps229;go_wp2
 go_ret;exact⟨rfl,rfl⟩
theorem kind_13 (w:World):Calls prog 229 #[.int .i64 13] w fun e w'=>e= .returned (.int .i64 1)∧w=w':=by
 go_enter func229,ntmps229;go_wp2
 go_ret;exact⟨rfl,rfl⟩
theorem kind_32 (w:World):Calls prog 229 #[.int .i64 32] w fun e w'=>e= .returned (.int .i64 1)∧w=w':=by
 go_enter func229,ntmps229;go_wp2
 go_ret;exact⟨rfl,rfl⟩
theorem kind_40 (w:World):Calls prog 229 #[.int .i64 40] w fun e w'=>e= .returned (.int .i64 3)∧w=w':=by
 go_enter func229,ntmps229;go_wp2
 go_ret;exact⟨rfl,rfl⟩
theorem kind_41 (w:World):Calls prog 229 #[.int .i64 41] w fun e w'=>e= .returned (.int .i64 3)∧w=w':=by
 go_enter func229,ntmps229;go_wp2
 go_ret;exact⟨rfl,rfl⟩
theorem kind_123 (w:World):Calls prog 229 #[.int .i64 123] w fun e w'=>e= .returned (.int .i64 3)∧w=w':=by
 go_enter func229,ntmps229;go_wp2
 go_ret;exact⟨rfl,rfl⟩
theorem kind_125 (w:World):Calls prog 229 #[.int .i64 125] w fun e w'=>e= .returned (.int .i64 3)∧w=w':=by
 go_enter func229,ntmps229;go_wp2
 go_ret;exact⟨rfl,rfl⟩
theorem kind_58 (w:World):Calls prog 229 #[.int .i64 58] w fun e w'=>e= .returned (.int .i64 3)∧w=w':=by
 go_enter func229,ntmps229;go_wp2
 go_ret;exact⟨rfl,rfl⟩
theorem kind_61 (w:World):Calls prog 229 #[.int .i64 61] w fun e w'=>e= .returned (.int .i64 3)∧w=w':=by
 go_enter func229,ntmps229;go_wp2
 go_ret;exact⟨rfl,rfl⟩
theorem kind_46 (w:World):Calls prog 229 #[.int .i64 46] w fun e w'=>e= .returned (.int .i64 3)∧w=w':=by
 go_enter func229,ntmps229;go_wp2
 go_ret;exact⟨rfl,rfl⟩
theorem kind_44 (w:World):Calls prog 229 #[.int .i64 44] w fun e w'=>e= .returned (.int .i64 3)∧w=w':=by
 go_enter func229,ntmps229;go_wp2
 go_ret;exact⟨rfl,rfl⟩
theorem kind_59 (w:World):Calls prog 229 #[.int .i64 59] w fun e w'=>e= .returned (.int .i64 3)∧w=w':=by
 go_enter func229,ntmps229;go_wp2
 go_ret;exact⟨rfl,rfl⟩
theorem kind_124 (w:World):Calls prog 229 #[.int .i64 124] w fun e w'=>e= .returned (.int .i64 3)∧w=w':=by
 go_enter func229,ntmps229;go_wp2
 go_ret;exact⟨rfl,rfl⟩
theorem kind_92 (w:World):Calls prog 229 #[.int .i64 92] w fun e w'=>e= .returned (.int .i64 3)∧w=w':=by
 go_enter func229,ntmps229;go_wp2
 go_ret;exact⟨rfl,rfl⟩
theorem kind_45 (w:World):Calls prog 229 #[.int .i64 45] w fun e w'=>e= .returned (.int .i64 3)∧w=w':=by
 go_enter func229,ntmps229;go_wp2
 go_ret;exact⟨rfl,rfl⟩
theorem kind_62 (w:World):Calls prog 229 #[.int .i64 62] w fun e w'=>e= .returned (.int .i64 3)∧w=w':=by
 go_enter func229,ntmps229;go_wp2
 go_ret;exact⟨rfl,rfl⟩
theorem kind_955 (w:World):Calls prog 229 #[.int .i64 955] w fun e w'=>e= .returned (.int .i64 3)∧w=w':=by
 go_enter func229,ntmps229;go_wp2
 go_ret;exact⟨rfl,rfl⟩
theorem kind_8594 (w:World):Calls prog 229 #[.int .i64 8594] w fun e w'=>e= .returned (.int .i64 3)∧w=w':=by
 go_enter func229,ntmps229;go_wp2
 go_ret;exact⟨rfl,rfl⟩
theorem kind_digit (n:Int) (w:World) (e9:(n==9)=false) (e10:(n==10)=false) (e13:(n==13)=false) (e32:(n==32)=false) (e40:(n==40)=false) (e41:(n==41)=false) (e123:(n==123)=false) (e125:(n==125)=false) (e58:(n==58)=false) (e61:(n==61)=false) (e46:(n==46)=false) (e44:(n==44)=false) (e59:(n==59)=false) (e124:(n==124)=false) (e92:(n==92)=false) (e45:(n==45)=false) (e62:(n==62)=false) (e955:(n==955)=false) (e8594:(n==8594)=false) (a:48≤n) (b:n≤57):Calls prog 229 #[.int .i64 n] w fun e w'=>e= .returned (.int .i64 2)∧w=w':=by
 go_enter func229,ntmps229;go_wp2_with fail;go_ret;exact⟨rfl,rfl⟩
theorem kind_upper (n:Int) (w:World) (e9:(n==9)=false) (e10:(n==10)=false) (e13:(n==13)=false) (e32:(n==32)=false) (e40:(n==40)=false) (e41:(n==41)=false) (e123:(n==123)=false) (e125:(n==125)=false) (e58:(n==58)=false) (e61:(n==61)=false) (e46:(n==46)=false) (e44:(n==44)=false) (e59:(n==59)=false) (e124:(n==124)=false) (e92:(n==92)=false) (e45:(n==45)=false) (e62:(n==62)=false) (e955:(n==955)=false) (e8594:(n==8594)=false) (a:65≤n) (b:n≤90):Calls prog 229 #[.int .i64 n] w fun e w'=>e= .returned (.int .i64 4)∧w=w':=by
 go_enter func229,ntmps229;go_wp2_with fail;go_ret;exact⟨rfl,rfl⟩
theorem kind_lower (n:Int) (w:World) (e9:(n==9)=false) (e10:(n==10)=false) (e13:(n==13)=false) (e32:(n==32)=false) (e40:(n==40)=false) (e41:(n==41)=false) (e123:(n==123)=false) (e125:(n==125)=false) (e58:(n==58)=false) (e61:(n==61)=false) (e46:(n==46)=false) (e44:(n==44)=false) (e59:(n==59)=false) (e124:(n==124)=false) (e92:(n==92)=false) (e45:(n==45)=false) (e62:(n==62)=false) (e955:(n==955)=false) (e8594:(n==8594)=false) (a:97≤n) (b:n≤122):Calls prog 229 #[.int .i64 n] w fun e w'=>e= .returned (.int .i64 4)∧w=w':=by
 go_enter func229,ntmps229;go_wp2_with fail;go_ret;exact⟨rfl,rfl⟩
theorem kind_r1 (n:Int) (w:World) (e9:(n==9)=false) (e10:(n==10)=false) (e13:(n==13)=false) (e32:(n==32)=false) (e40:(n==40)=false) (e41:(n==41)=false) (e123:(n==123)=false) (e125:(n==125)=false) (e58:(n==58)=false) (e61:(n==61)=false) (e46:(n==46)=false) (e44:(n==44)=false) (e59:(n==59)=false) (e124:(n==124)=false) (e92:(n==92)=false) (e45:(n==45)=false) (e62:(n==62)=false) (e955:(n==955)=false) (e8594:(n==8594)=false) (a:n<48) (hw:wideB n=false):Calls prog 229 #[.int .i64 n] w fun e w'=>e= .returned (.int .i64 0)∧w=w':=by
 go_enter func229,ntmps229;go_wp2_with fail;refine(wide_any _ _).mono ?_;rintro e w' ⟨rfl,rfl⟩;rw[hw];go_wp2_with fail;go_ret;exact⟨rfl,rfl⟩
theorem kind_r2 (n:Int) (w:World) (e9:(n==9)=false) (e10:(n==10)=false) (e13:(n==13)=false) (e32:(n==32)=false) (e40:(n==40)=false) (e41:(n==41)=false) (e123:(n==123)=false) (e125:(n==125)=false) (e58:(n==58)=false) (e61:(n==61)=false) (e46:(n==46)=false) (e44:(n==44)=false) (e59:(n==59)=false) (e124:(n==124)=false) (e92:(n==92)=false) (e45:(n==45)=false) (e62:(n==62)=false) (e955:(n==955)=false) (e8594:(n==8594)=false) (a:57<n) (b:n<65) (hw:wideB n=false):Calls prog 229 #[.int .i64 n] w fun e w'=>e= .returned (.int .i64 0)∧w=w':=by
 go_enter func229,ntmps229;go_wp2_with fail;refine(wide_any _ _).mono ?_;rintro e w' ⟨rfl,rfl⟩;rw[hw];go_wp2_with fail;go_ret;exact⟨rfl,rfl⟩
theorem kind_r3 (n:Int) (w:World) (e9:(n==9)=false) (e10:(n==10)=false) (e13:(n==13)=false) (e32:(n==32)=false) (e40:(n==40)=false) (e41:(n==41)=false) (e123:(n==123)=false) (e125:(n==125)=false) (e58:(n==58)=false) (e61:(n==61)=false) (e46:(n==46)=false) (e44:(n==44)=false) (e59:(n==59)=false) (e124:(n==124)=false) (e92:(n==92)=false) (e45:(n==45)=false) (e62:(n==62)=false) (e955:(n==955)=false) (e8594:(n==8594)=false) (a:90<n) (b:n<97) (hw:wideB n=false):Calls prog 229 #[.int .i64 n] w fun e w'=>e= .returned (.int .i64 0)∧w=w':=by
 go_enter func229,ntmps229;go_wp2_with fail;refine(wide_any _ _).mono ?_;rintro e w' ⟨rfl,rfl⟩;rw[hw];go_wp2_with fail;go_ret;exact⟨rfl,rfl⟩
theorem kind_r4 (n:Int) (w:World) (e9:(n==9)=false) (e10:(n==10)=false) (e13:(n==13)=false) (e32:(n==32)=false) (e40:(n==40)=false) (e41:(n==41)=false) (e123:(n==123)=false) (e125:(n==125)=false) (e58:(n==58)=false) (e61:(n==61)=false) (e46:(n==46)=false) (e44:(n==44)=false) (e59:(n==59)=false) (e124:(n==124)=false) (e92:(n==92)=false) (e45:(n==45)=false) (e62:(n==62)=false) (e955:(n==955)=false) (e8594:(n==8594)=false) (a:122<n) (hw:wideB n=false):Calls prog 229 #[.int .i64 n] w fun e w'=>e= .returned (.int .i64 0)∧w=w':=by
 go_enter func229,ntmps229;go_wp2_with fail;refine(wide_any _ _).mono ?_;rintro e w' ⟨rfl,rfl⟩;rw[hw];go_wp2_with fail;go_ret;exact⟨rfl,rfl⟩
theorem kind_r5 (n:Int) (w:World) (e9:(n==9)=false) (e10:(n==10)=false) (e13:(n==13)=false) (e32:(n==32)=false) (e40:(n==40)=false) (e41:(n==41)=false) (e123:(n==123)=false) (e125:(n==125)=false) (e58:(n==58)=false) (e61:(n==61)=false) (e46:(n==46)=false) (e44:(n==44)=false) (e59:(n==59)=false) (e124:(n==124)=false) (e92:(n==92)=false) (e45:(n==45)=false) (e62:(n==62)=false) (e955:(n==955)=false) (e8594:(n==8594)=false) (a:122<n) (hw:wideB n=true):Calls prog 229 #[.int .i64 n] w fun e w'=>e= .returned (.int .i64 4)∧w=w':=by
 go_enter func229,ntmps229;go_wp2_with fail;refine(wide_any _ _).mono ?_;rintro e w' ⟨rfl,rfl⟩;rw[hw];go_wp2_with fail;go_ret;exact⟨rfl,rfl⟩
theorem kind_any (n:Int) (w:World):Calls prog 229 #[.int .i64 n] w fun e w'=>e= .returned (.int .i64 (kindI n))∧w=w':=by
 by_cases h9:n=9
 ·subst h9;exact kind_9 w
 by_cases h10:n=10
 ·subst h10;exact kind_10 w
 by_cases h13:n=13
 ·subst h13;exact kind_13 w
 by_cases h32:n=32
 ·subst h32;exact kind_32 w
 by_cases h40:n=40
 ·subst h40;exact kind_40 w
 by_cases h41:n=41
 ·subst h41;exact kind_41 w
 by_cases h123:n=123
 ·subst h123;exact kind_123 w
 by_cases h125:n=125
 ·subst h125;exact kind_125 w
 by_cases h58:n=58
 ·subst h58;exact kind_58 w
 by_cases h61:n=61
 ·subst h61;exact kind_61 w
 by_cases h46:n=46
 ·subst h46;exact kind_46 w
 by_cases h44:n=44
 ·subst h44;exact kind_44 w
 by_cases h59:n=59
 ·subst h59;exact kind_59 w
 by_cases h124:n=124
 ·subst h124;exact kind_124 w
 by_cases h92:n=92
 ·subst h92;exact kind_92 w
 by_cases h45:n=45
 ·subst h45;exact kind_45 w
 by_cases h62:n=62
 ·subst h62;exact kind_62 w
 by_cases h955:n=955
 ·subst h955;exact kind_955 w
 by_cases h8594:n=8594
 ·subst h8594;exact kind_8594 w
 have e9:(n==9)=false:=by simpa using h9
 have e10:(n==10)=false:=by simpa using h10
 have e13:(n==13)=false:=by simpa using h13
 have e32:(n==32)=false:=by simpa using h32
 have e40:(n==40)=false:=by simpa using h40
 have e41:(n==41)=false:=by simpa using h41
 have e123:(n==123)=false:=by simpa using h123
 have e125:(n==125)=false:=by simpa using h125
 have e58:(n==58)=false:=by simpa using h58
 have e61:(n==61)=false:=by simpa using h61
 have e46:(n==46)=false:=by simpa using h46
 have e44:(n==44)=false:=by simpa using h44
 have e59:(n==59)=false:=by simpa using h59
 have e124:(n==124)=false:=by simpa using h124
 have e92:(n==92)=false:=by simpa using h92
 have e45:(n==45)=false:=by simpa using h45
 have e62:(n==62)=false:=by simpa using h62
 have e955:(n==955)=false:=by simpa using h955
 have e8594:(n==8594)=false:=by simpa using h8594
 have nb:blankB n=false:=by simp[blankB,h9,h10,h13,h32]
 have nm:markB n=false:=by simp[markB,marks,h40,h41,h123,h125,h58,h61,h46,h44,h59,h124,h92,h45,h62,h955,h8594]
 clear h9 h10 h13 h32 h40 h41 h123 h125 h58 h61 h46 h44 h59 h124 h92 h45 h62 h955 h8594;by_cases d:48≤n∧n≤57
 ·have hk:kindI n=2:=by simp[kindI,nb,digitB,d]
  rw[hk];exact kind_digit n w e9 e10 e13 e32 e40 e41 e123 e125 e58 e61 e46 e44 e59 e124 e92 e45 e62 e955 e8594 d.1 d.2
 have nd:digitB n=false:=by simp[digitB];omega
 by_cases u:65≤n∧n≤90
 ·have hk:kindI n=4:=by simp[kindI,nb,nd,nm,letterB,plainB,u]
  rw[hk];exact kind_upper n w e9 e10 e13 e32 e40 e41 e123 e125 e58 e61 e46 e44 e59 e124 e92 e45 e62 e955 e8594 u.1 u.2
 by_cases l:97≤n∧n≤122
 ·have hk:kindI n=4:=by simp[kindI,nb,nd,nm,letterB,plainB,l]
  rw[hk];exact kind_lower n w e9 e10 e13 e32 e40 e41 e123 e125 e58 e61 e46 e44 e59 e124 e92 e45 e62 e955 e8594 l.1 l.2
 have np:plainB n=false:=by
  cases hp:plainB n with
  | false=>rfl
  | true=>simp only[plainB,Bool.or_eq_true,Bool.and_eq_true,decide_eq_true_eq]at hp;omega
 have hk:kindI n=if wideB n then 4 else 0:=by simp[kindI,nb,nd,nm,letterB,np]
 rw[hk];clear hk nb nd np nm;cases hw:wideB n with
 | true=>
  have:127<n:=by
   simp only[wideB,Bool.and_eq_true,decide_eq_true_eq]at hw;exact hw.1
  exact kind_r5 n w e9 e10 e13 e32 e40 e41 e123 e125 e58 e61 e46 e44 e59 e124 e92 e45 e62 e955 e8594 (by omega) hw
 | false=>
  by_cases r1:n<48
  ·exact kind_r1 n w e9 e10 e13 e32 e40 e41 e123 e125 e58 e61 e46 e44 e59 e124 e92 e45 e62 e955 e8594 r1 hw
  ·by_cases r2:n<65
   ·exact kind_r2 n w e9 e10 e13 e32 e40 e41 e123 e125 e58 e61 e46 e44 e59 e124 e92 e45 e62 e955 e8594 (by omega) r2 hw
   ·by_cases r3:n<97
    ·exact kind_r3 n w e9 e10 e13 e32 e40 e41 e123 e125 e58 e61 e46 e44 e59 e124 e92 e45 e62 e955 e8594 (by omega) r3 hw
    ·exact kind_r4 n w e9 e10 e13 e32 e40 e41 e123 e125 e58 e61 e46 e44 e59 e124 e92 e45 e62 e955 e8594 (by omega) hw
theorem blank_cases {n:Int} (h:blankB n=true):n=9∨n=10∨n=13∨n=32:=by
 simpa [blankB]using h
theorem mark_cases {n:Int} (h:markB n=true):n=40∨n=41∨n=123∨n=125∨n=58∨n=61∨n=46∨n=44∨n=59∨n=124∨n=92∨n=955∨n=8594∨n=45∨n=62:=by
 simpa [markB,marks]using h
theorem digit_cases {n:Int}:digitB n=true↔48≤n∧n≤57:=by simp[digitB]
theorem letter_cases {n:Int} (h:letterB n=true):(97≤n∧n≤122)∨(65≤n∧n≤90)∨(127<n∧markB n=false):=by
 simp only[letterB,plainB,wideB,Bool.or_eq_true,Bool.and_eq_true,decide_eq_true_eq,Bool.not_eq_true']at h;rcases h with (h|h)|⟨⟨h,_⟩,h2⟩
 ·exact .inl h
 ·exact .inr (.inl h)
 ·exact .inr (.inr ⟨h,h2⟩)
theorem digit_not_blank {n:Int} (h:digitB n=true):blankB n=false:=by
 cases hb:blankB n with
 | false=>rfl
 | true=>have:=digit_cases.1 h;rcases blank_cases hb with h|h|h|h<;>omega
theorem letter_not {n:Int} (h:letterB n=true):blankB n=false∧digitB n=false∧markB n=false:=by
 refine⟨?_, ?_, ?_⟩
 ·cases hb:blankB n with
  | false=>rfl
  | true=>have:=blank_cases hb;have:=letter_cases h;omega
 ·cases hb:digitB n with
  | false=>rfl
  | true=>have:=digit_cases.1 hb;have:=letter_cases h;omega
 ·cases hb:markB n with
  | false=>rfl
  | true=>
   have h1:=mark_cases hb;rcases letter_cases h with h|h|⟨_,h⟩
   ·omega
   ·omega
   ·rw[hb]at h;cases h
theorem kind_digit' {n:Int}:(kindI n=2)↔digitB n=true:=by
 constructor
 ·unfold kindI;cases blankB n<;>cases digitB n<;>cases markB n<;>cases letterB n<;>simp
 ·intro h;simp[kindI,digit_not_blank h,h]
theorem kind_letter {n:Int}:(kindI n=4)↔letterB n=true:=by
 constructor
 ·unfold kindI;cases blankB n<;>cases digitB n<;>cases markB n<;>cases letterB n<;>simp
 ·intro h;obtain⟨a,b,c⟩:=letter_not h;simp[kindI,a,b,c,h]
theorem digit_any (n:Int) (w:World):Calls prog 220 #[.int .i64 n] w fun e w'=>e= .returned (.bool (digitB n))∧w=w':=by
 cases hb:digitB n with
 | true=>
  have hk:kindI n=2:=kind_digit'.2 hb;clear hb;go_enter func220,ntmps220;go_wp2_with fail;refine(kind_any _ _).mono ?_;rintro e w' ⟨rfl,rfl⟩;rw[hk];go_wp2_with fail;go_ret;exact⟨rfl,rfl⟩
 | false=>
  have hk:(kindI n==2)=false:=by
   rw[beq_eq_false_iff_ne];intro e;rw[kind_digit'.1 e]at hb;cases hb
  clear hb;go_enter func220,ntmps220;go_wp2_with fail;refine(kind_any _ _).mono ?_;rintro e w' ⟨rfl,rfl⟩;go_wp2_with fail;go_ret;exact⟨rfl,rfl⟩
theorem letter_any (n:Int) (w:World):Calls prog 219 #[.int .i64 n] w fun e w'=>e= .returned (.bool (letterB n))∧w=w':=by
 cases hb:letterB n with
 | true=>
  have hk:kindI n=4:=kind_letter.2 hb;clear hb;go_enter func219,ntmps219;go_wp2_with fail;refine(kind_any _ _).mono ?_;rintro e w' ⟨rfl,rfl⟩;rw[hk];go_wp2_with fail;go_ret;exact⟨rfl,rfl⟩
 | false=>
  have hk:(kindI n==4)=false:=by
   rw[beq_eq_false_iff_ne];intro e;rw[kind_letter.1 e]at hb;cases hb
  clear hb;go_enter func219,ntmps219;go_wp2_with fail;refine(kind_any _ _).mono ?_;rintro e w' ⟨rfl,rfl⟩;go_wp2_with fail;go_ret;exact⟨rfl,rfl⟩
def withinB (n:Int):Bool:=decide (n=95)||(decide (n=39)||(digitB n||letterB n))
theorem within_any (n:Int) (w:World):Calls prog 204 #[.int .i64 n] w fun e w'=>e= .returned (.bool (withinB n))∧w=w':=by
 by_cases h1:n=95
 ·subst h1;go_enter func204,ntmps204;go_wp2_with fail;go_ret;exact⟨rfl,rfl⟩
 by_cases h2:n=39
 ·subst h2;go_enter func204,ntmps204;go_wp2_with fail;go_ret;exact⟨rfl,rfl⟩
 have e1:(n==95)=false:=by simpa using h1
 have e2:(n==39)=false:=by simpa using h2
 have hb:withinB n=(digitB n||letterB n):=by simp[withinB,h1,h2]
 rw[hb];clear hb h1 h2;cases hd:digitB n with
 | true=>
  go_enter func204,ntmps204;go_wp2_with fail;refine(digit_any _ _).mono ?_;rintro e w' ⟨rfl,rfl⟩;rw[hd];go_wp2_with fail;go_ret;exact⟨rfl,rfl⟩
 | false=>
  go_enter func204,ntmps204;go_wp2_with fail;refine(digit_any _ _).mono ?_;rintro e w' ⟨rfl,rfl⟩;rw[hd];go_wp2_with fail;refine(letter_any _ _).mono ?_;rintro e w' ⟨rfl,rfl⟩;go_wp2_with fail;go_ret;exact⟨by simp,rfl⟩
def begB:List Int→Bool
 | []=>false
 | n::r=>letterB n||(decide (n=95) && decide (0<r.length))
structure IsName (s:ByteArray) (ns:List Int):Prop where
 parse:Parse (bytesL s) ns []
 size:s.size≤40
 key:keyB s=false
 beg:begB ns=true
 all:ns.all withinB=true
theorem own_cells' {w:World} {base:Nat} {v:Value} {n:Nat} {xs:List Int} (h:w.ownsRow base 3 1 v n (xs.map (Value.int .i64))) (hx:xs.length=n) (hn:0<n):
  ∃g cap,v= .slice (some ⟨g,0,none⟩) n cap∧g<w.heap.size∧∀i,i<n→w.cell? ⟨g,i,none⟩=some (.int .i64 (xs.getD i 0)):=by
 obtain⟨g,cap,hv,hlt,hc⟩:=own_cells h hx hn;exact⟨g,cap,hv,hlt,fun i hi=>by have:=hc i hi;rwa [Nat.zero_add]at this⟩
theorem begins_empty (a:Option Addr) (c:Nat) (w:World):Calls prog 203 #[.slice a 0 c] w fun e w'=>e= .returned (.bool false)∧w=w':=by
 go_enter func203,ntmps203;go_wp2_with fail;go_ret;exact⟨rfl,rfl⟩
theorem begins_any (b len cap:Nat) (x:Int) (w:World) (r:Bool) (h0:0<len) (hm:len≤140737488355328) (hc:w.cell? ⟨b,0,none⟩=some (.int .i64 x)) (hr:(letterB x||(decide (x=95) && decide (1<len)))=r):
  Calls prog 203 #[.slice (some ⟨b,0,none⟩) len cap] w fun e w'=>e= .returned (.bool r)∧w=w':=by
 have e0:((len:Int)==0)=false:=by rw[beq_eq_false_iff_ne];omega
 cases hl:letterB x with
 | true=>
  obtain rfl:r=true:=by rw[←hr,hl];rfl
  clear hr;go_enter func203,ntmps203;go_wp2_with fail;refine(letter_any _ _).mono ?_;rintro e w' ⟨rfl,rfl⟩;rw[hl];go_wp2_with fail;go_ret;exact⟨rfl,rfl⟩
 | false=>
  by_cases h95:x=95
  ·by_cases h1:1<len
   ·obtain rfl:r=true:=by rw[←hr,hl];simp[h95,h1]
    clear hr;subst h95;have d1:decide ((1:Int)<(len:Int))=true:=decide_eq_true (by omega);go_enter func203,ntmps203;go_wp2_with fail;refine(letter_any _ _).mono ?_;rintro e w' ⟨rfl,rfl⟩;rw[hl];go_wp2_with fail;go_ret;exact⟨rfl,rfl⟩
   ·obtain rfl:r=false:=by rw[←hr,hl];simp[h1]
    clear hr;subst h95;obtain rfl:len=1:=by omega
    go_enter func203,ntmps203;go_wp2_with fail;refine(letter_any _ _).mono ?_;rintro e w' ⟨rfl,rfl⟩;rw[hl];go_wp2_with fail;go_ret;exact⟨rfl,rfl⟩
  ·obtain rfl:r=false:=by rw[←hr,hl];simp[h95]
   clear hr;have e95:(x==95)=false:=by simpa using h95
   clear h95;go_enter func203,ntmps203;go_wp2_with fail;refine(letter_any _ _).mono ?_;rintro e w' ⟨rfl,rfl⟩;rw[hl];go_wp2_with fail;go_ret;exact⟨rfl,rfl⟩
theorem begB_eq {ns:List Int} (h:0<ns.length):(letterB (ns.getD 0 0)||(decide (ns.getD 0 0=95) && decide (1<ns.length)))=begB ns:=by
 match ns,h with
 | n::r,_=>simp[begB]
theorem all_at {ns:List Int}:ns.all withinB=true↔∀j,j<ns.length→withinB (ns.getD j 0)=true:=by
 rw[List.all_eq_true];constructor
 ·exact fun h j hj=>h _ (getD_mem hj)
 ·intro h x hx;obtain⟨i,hi,rfl⟩:=List.getElem_of_mem hx;have:=h i hi
  rwa [List.getD,List.getElem?_eq_getElem hi]at this
theorem right_yes (s:ByteArray) (ns:List Int) (w:World) (h:IsName s ns):
  Calls prog 184 #[.string s] w fun e w'=>e= .returned (.bool true)∧Below w.heap.size w w':=by
 obtain⟨hp,h40,hk,hb,hall⟩:=h;have hpos:0<ns.length:=by
  match ns,hb with
  | n::r,_=>simp
 have hlen:ns.length≤s.size:=by have:=parse_length hp;rw[bytesL_length]at this;have:=length_encAll ns;simp at*;omega
 have HK:=hid hk;have HB:=hid ((begB_eq hpos).trans hb);have HA:=hid (all_at.1 hall);have HP:=hid hp;have hd:decide ((40:Int)<(s.size:Int))=false:=decide_eq_false (by omega);clear hk hb hall hp;go_enter func184,ntmps184;go_wp2_with fail;refine(keyword_any _ _).mono ?_;rintro e w1 ⟨rfl,rfl⟩;rw[HK.out];go_wp2_with fail;refine(all_ok s ns _ (by omega) HP.out).mono ?_;rintro e w1 ⟨v,rfl,hown,hb1⟩;obtain⟨n,hn⟩:∃n,ns.length=n:=⟨_,rfl⟩;rw[hn]at hown hpos hlen HA;obtain⟨g,cap,rfl,hlt,hc⟩:=own_cells' hown hn hpos;clear hown;have hc0:=hc 0 hpos;have HC:=hid hc;have HN:=hid hn;clear hc hn;go_wp2_with fail;refine(begins_any _ _ _ _ _ true hpos (by omega) hc0 (by rw[←HN.out];exact HB.out)).mono ?_;rintro e w2 ⟨rfl,rfl⟩;go_wp2_with fail;go_loop [30] (fun i=>∃k:Nat,k≤n∧i= .int .i64 k) (fun i=>n - (intOf i).toNat)
 case atStart=>exact⟨0,Nat.zero_le _,rfl⟩
 case round=>
  obtain⟨k,hk,rfl⟩:=hrel;by_cases hlk:k<n
  ·have hcell:=HC.out k hlk;have hw:=HA.out k hlk;obtain⟨x,hx⟩:∃x,ns.getD k 0=x:=⟨_,rfl⟩;rw[hx]at hcell hw;clear hx;go_wp2_with fail;refine(within_any _ _).mono ?_;rintro e w2 ⟨rfl,rfl⟩;rw[hw];go_wp2_with fail;go_round
   case rel=>exact⟨k+1,by omega,by go_num⟩
   case measure=>simp[intOf];omega
  ·go_wp2_with fail;go_ret;exact⟨rfl,hb1⟩
theorem right_no (s:ByteArray) (w:World) (hs:s.size≤9223372036854775807) (h: ¬ ∃ns,IsName s ns):
  Calls prog 184 #[.string s] w fun e w'=>e= .returned (.bool false)∧Below w.heap.size w w':=by
 by_cases h40:40<s.size
 ·clear h;go_enter func184,ntmps184;go_wp2_with fail;go_ret;exact⟨rfl,Below.refl _ _⟩
 have hd:decide ((40:Int)<(s.size:Int))=false:=decide_eq_false (by omega);cases hk:keyB s with
 | true=>
  clear h;go_enter func184,ntmps184;go_wp2_with fail;refine(keyword_any _ _).mono ?_;rintro e w1 ⟨rfl,rfl⟩;rw[hk];go_wp2_with fail;go_ret;exact⟨rfl,Below.refl _ _⟩
 | false=>
  obtain⟨ns,r,hp⟩:=parse_str s;by_cases hr:r=[]
  ·subst hr;have hlen:ns.length≤s.size:=by have:=parse_length hp;rw[bytesL_length]at this;have:=length_encAll ns;simp at*;omega
   by_cases h0:ns.length=0
   ·clear h;go_enter func184,ntmps184;go_wp2_with fail;refine(keyword_any _ _).mono ?_;rintro e w1 ⟨rfl,rfl⟩;rw[hk];go_wp2_with fail;refine(all_ok s ns _ (by omega) hp).mono ?_;rintro e w1 ⟨v,rfl,hown,hb1⟩;rw[h0]at hown;obtain⟨a,cap,rfl⟩:=own_shape hown;clear hown h0;go_wp2_with fail;refine(begins_empty _ _ _).mono ?_;rintro e w2 ⟨rfl,rfl⟩;go_wp2_with fail;go_ret;exact⟨rfl,hb1⟩
   ·have hpos:0<ns.length:=by omega
    clear h0;cases hb:begB ns with
    | false=>
     have HB:=hid ((begB_eq hpos).trans hb);clear h hb;go_enter func184,ntmps184;go_wp2_with fail;refine(keyword_any _ _).mono ?_;rintro e w1 ⟨rfl,rfl⟩;rw[hk];go_wp2_with fail;refine(all_ok s ns _ (by omega) hp).mono ?_;rintro e w1 ⟨v,rfl,hown,hb1⟩;obtain⟨n,hn⟩:∃n,ns.length=n:=⟨_,rfl⟩;rw[hn]at hown hpos hlen;obtain⟨g,cap,rfl,hlt,hc⟩:=own_cells' hown hn hpos;have hc0:=hc 0 hpos;have HN:=hid hn;clear hc hn hown;go_wp2_with fail;refine(begins_any _ _ _ _ _ false hpos (by omega) hc0 (by rw[←HN.out];exact HB.out)).mono ?_;rintro e w2 ⟨rfl,rfl⟩;go_wp2_with fail;go_ret;exact⟨rfl,hb1⟩
    | true=>
     have hall: ¬ ∀j,j<ns.length→withinB (ns.getD j 0)=true:=fun hh=>h ⟨ns,hp,by omega,hk,hb,all_at.2 hh⟩;have HB:=hid ((begB_eq hpos).trans hb);have HP:=hid hp;have HK:=hid hk;have HA:=hid hall;clear h hb hp hk hall;go_enter func184,ntmps184;go_wp2_with fail;refine(keyword_any _ _).mono ?_;rintro e w1 ⟨rfl,rfl⟩;rw[HK.out];go_wp2_with fail;refine(all_ok s ns _ (by omega) HP.out).mono ?_;rintro e w1 ⟨v,rfl,hown,hb1⟩;obtain⟨n,hn⟩:∃n,ns.length=n:=⟨_,rfl⟩;rw[hn]at hown hpos hlen HA;obtain⟨g,cap,rfl,hlt,hc⟩:=own_cells' hown hn hpos;clear hown;have hc0:=hc 0 hpos;have HC:=hid hc;have HN:=hid hn;clear hc hn;go_wp2_with fail;refine(begins_any _ _ _ _ _ true hpos (by omega) hc0 (by rw[←HN.out];exact HB.out)).mono ?_;rintro e w2 ⟨rfl,rfl⟩;go_wp2_with fail;go_loop [30] (fun i=>∃k:Nat,k≤n∧i= .int .i64 k∧Hid (∀j,j<k→withinB (ns.getD j 0)=true)) (fun i=>n - (intOf i).toNat)
     case atStart=>exact⟨0,Nat.zero_le _,rfl,hid (fun j hj=>absurd hj (Nat.not_lt_zero j))⟩
     case round=>
      obtain⟨k,hk,rfl,HW⟩:=hrel;have hlk:k<n:=by
       rcases Nat.lt_or_ge k n with h|h
       ·exact h
       ·exact absurd (fun j hj=>HW.out j (by omega)) HA.out
      have hcell:=HC.out k hlk;obtain⟨x,hx⟩:∃x,ns.getD k 0=x:=⟨_,rfl⟩;rw[hx]at hcell;have HX:=hid hx;clear hx;cases hw:withinB x with
      | true=>
       go_wp2_with fail;refine(within_any _ _).mono ?_;rintro e w2 ⟨rfl,rfl⟩;rw[hw];go_wp2_with fail;go_round
       case rel=>
        refine⟨k+1,by omega,by go_num,hid (fun j hj=> ?_)⟩;by_cases hjk:j<k
        ·exact HW.out j hjk
        ·obtain rfl:j=k:=by omega
         rw[HX.out];exact hw
       case measure=>simp[intOf];omega
      | false=>
       go_wp2_with fail;refine(within_any _ _).mono ?_;rintro e w2 ⟨rfl,rfl⟩;rw[hw];go_wp2_with fail;go_ret;exact⟨rfl,hb1⟩
  ·clear h;go_enter func184,ntmps184;go_wp2_with fail;refine(keyword_any _ _).mono ?_;rintro e w1 ⟨rfl,rfl⟩;rw[hk];go_wp2_with fail;refine(all_err s ns r _ (by omega) hp hr).mono ?_;rintro e w1 ⟨rfl,hb1⟩;go_wp2_with fail;go_ret;exact⟨rfl,hb1⟩
noncomputable def nmB (s:ByteArray):Bool:= @decide (∃ns,IsName s ns) (Classical.propDecidable _)
theorem nmB_yes {s:ByteArray} {ns:List Int} (h:IsName s ns):nmB s=true:= @decide_eq_true _ (Classical.propDecidable _) ⟨ns,h⟩
theorem nmB_no {s:ByteArray} (h: ¬ ∃ns,IsName s ns):nmB s=false:= @decide_eq_false _ (Classical.propDecidable _) h
theorem nameRight_any (s:ByteArray) (w:World) (hs:s.size≤9223372036854775807):
  Calls prog 184 #[.string s] w fun e w'=>e= .returned (.bool (nmB s))∧Below w.heap.size w w':=by
 rcases Classical.em (∃ns,IsName s ns)with ⟨ns,h⟩|h
 ·rw[nmB_yes h];exact right_yes s ns w h
 ·rw[nmB_no h];exact right_no s w hs h
end Go.Proofs.YtchllgkgjompgaaGreatDoor
