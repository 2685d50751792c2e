import Derived.Test.YtinlmmaokphhbaaGreatDoorS5
import Derived.Test.YtinlmmaokphhbaaGreatDoorA3
import Derived.Test.YtinlmmaokphhbaaGreatDoorR1
import Derived.LoopTactic
import Derived.Test.YtinlmmaokphhbaaGreatDoorSgFld
import Derived.Test.YtinlmmaokphhbaaGreatDoorR3
namespace Go.Proofs.YtinlmmaokphhbaaGreatDoor
set_option maxHeartbeats 8000000
set_option maxRecDepth 100000
open Go.RowKit Go.Maps Go.WideMaps
set_option linter.unusedVariables false
open Go.Proofs.Tryz
open _root_.Bool renaming and_eq_true→Qa,true_and→Qb,or_eq_true→Qc,and_true→Qd
open _root_.List renaming getElem?_eq_getElem→Qe,getElem_mem→Qf,contains_iff_mem→Qg,getElem_of_mem→Qh,getElem_map→Qi,range→Qj,getD→Qk
open Go.Lib renaming hid→Ql
open _root_.Nat renaming zero_le→Qm,le_refl→Qn
theorem Zjt{p:Prop}[Decidable p](h:p):decide p=true:=decide_eq_true h
theorem Zo2{n:Nat}:n≤n:=Qn n
theorem Zmd{a b c:World}(x:Hid (Below a.heap.size a b))(y:Below b.heap.size b c):Below a.heap.size a c:=x.out.trans (y.mono x.out.size)
theorem Z8b:(prog.info? 9).map (fun i=>(i.zero,i.size,i.bytes))=some (some (.string ⟨#[]⟩),1,16):=by kernel_rfl
theorem Zdz (l:List ET):(Zan l).length=l.length:=List.length_map _
theorem Z16 {l:List ET}{i:Nat}(h:i<l.length):(Zan l).getD i ByteArray.empty=l[i].s:=by
 rw[Qk,Qe (by rw[Zdz];exact h),Option.getD_some];exact Qi _
theorem Zxb {l:List ET}{i:Nat}(h:i<l.length):(Zan l).take (i+1)=(Zan l).take i++[l[i].s]:=by
 rw[List.take_succ_eq_append_getElem (by rw[Zdz];exact h)];congr 1
 exact congrArg (· ::[]) (Qi _)
def Zpg (ss:List ByteArray):List Value:=ss.map .string
theorem Zul {w:World}{lo hi:Nat}{A:Option Addr}{l:List ET}(hn:Zr w lo hi A l):∀s∈Zan l,s.size≤maxLen:=by
 intro s hs;obtain⟨x,hx,rfl⟩:=List.mem_map.1 hs;obtain⟨i,hi',rfl⟩:=Qh hx;obtain⟨b,o,p,_,_,_,_,h⟩:=hn i hi';exact h.hs
def Zvc (l:List ET)(w:World)(e:Ending)(w':World):Prop:=∃a c,e= .returned (.slice a l.length c)∧Zjn w' a l.length (Zan l)∧Below w.heap.size w w'
theorem Zxm (l:List ET)(A:Option Addr)(cap lo hi:Nat)(w:World)(hl:l.length≤600)(hn:Zr w lo hi A l)(hhi:hi≤w.heap.size):
  Calls prog 20 #[.slice A l.length cap] w (Zvc l w):=by
 obtain⟨i0,hi0,hz0,hz1,hz2⟩:=info_parts Z8b;have HN:=Ql hn;have HSM:=Ql (Zul hn);have hll:(l.length:Int)≤600:=by omega
 have hE:=World.ownsRow_lit (base:=w.heap.size) (e:=9) (size:=1) w #[] 0 (by simp) (by decide) rfl;have HE:=Ql hE;clear hn hl hE;go_enter func20,ntmps20;go_wp2_with fail;go_loopw [3,4] (fun nv iv wr=>∃i:Nat,i≤l.length∧iv= .int .i64 i∧Below w.heap.size w wr∧Hid (wr.ownsRow w.heap.size 9 1 nv i (Zpg ((Zan l).take i)))) (fun _ iv _=>l.length - (intOf iv).toNat)
 case atStart=>exact⟨0,Qm _,rfl,(Below.refl _ _).alloc Zo2 _,by have:=HE.out;exact Ql (by simpa [Zpg]using this)⟩
 case round=>
  obtain⟨i,hi1,rfl,hB,HO⟩:=hrel;have hz:=hB.size;obtain⟨a1,c1,rfl⟩:=Zl HO.out;by_cases hil:i<l.length
  ·obtain⟨b,o,p,rfl,_,hb2,hx,hent⟩:=HN.out i hil;have hbw:b<wr.heap.size:=by omega
   have x1:=(hx.kept (B:=w.heap.size) hB (by omega)).c1;have HNT:=Ql (Zxb hil);obtain⟨s,hs⟩:∃s,l[i].s=s:=⟨_,rfl⟩;rw[hs]at x1 HNT;have hi0':(i:Int)<(l.length:Int):=by omega
   have HBB:=Ql hB;have HOA:=Ql (HO.out.alloc (.cells #[.string s] 9));have hlt0:=HOA.out.lt;have HI9:=Ql (show i≤600 by omega);clear hs hx hent hb2;go_wp2_with (at_builtin;refine Jb rfl _ _ 50 rfl w.heap.size 9 i0 (.string ⟨#[]⟩) 1 16 Tryz.underlying50 hi0 hz0 hz1 hz2 rfl (by decide) _ _ _ rfl HOA.out (some ⟨wr.heap.size,0,none⟩) 1 1 [.string s] rfl (Zai _ _ _ (by simp) rfl) (fun u hu=>by rw[List.mem_singleton.1 hu];rfl) ?c3 ?c4 (by simp;omega) ?_)
   case c3=>have:=HI9.out;unfold maxLen;omega
   case c4=>have:=HI9.out;omega
   rintro v2' w3 ⟨hown3,hg3,ho3⟩;have HB4:=Ql ((HBB.out.alloc HBB.out.size (.cells #[.string s] 9)).grown hg3 (by have:=HBB.out.size;simp;omega) (fun g e=>by have:=hlt0 g e;omega));have HO4:=Ql (show w3.ownsRow w.heap.size 9 1 v2' (i+1) (Zpg ((Zan l).take (i+1)))from by
    rw[HNT.out];have:=hown3;simpa [Zpg]using this)
   clear hown3 hg3 ho3 hlt0;go_wp2_with fail;go_roundw
   case rel=>exact⟨i+1,by omega,by go_num,HB4.out,HO4⟩
   case measure=>simp[intOf];omega
  ·obtain rfl:i=l.length:=by omega
   have HFL:=Ql (show wr.ownsRow w.heap.size 9 1 (.slice a1 l.length c1) l.length (Zpg (Zan l))from by
    have:=HO.out
    rwa [List.take_of_length_le (by rw[Zdz];exact Qn _)]at this)
   go_wp2_with fail;go_ret;refine⟨a1,c1,rfl,⟨Zdz l,by omega,HSM.out, ?_⟩,hB⟩;by_cases h0:l.length=0
   ·exact .inl h0
   ·obtain⟨g,c',hv,_,_⟩:=HFL.out.form (by omega);injection hv with hv _ _;subst hv;refine .inr ⟨g,0,rfl,(HFL.out.lt g rfl).2,fun j hj=> ?_⟩;have hj':j<(Zan l).length:=by rw[Zdz];exact hj
    rw[Nat.zero_add,Qk,Qe hj',Option.getD_some];have h1:=HFL.out.cellAt j (by rw[Nat.mul_one];exact hj);rw[h1];show(Zpg (Zan l))[j]? =_
    unfold Zpg;rw[List.getElem?_map,Qe hj'];rfl
theorem Zxv (l:List ET)(A:Option Addr)(cap lo hi:Nat)(w:World)(hl:l.length≤600)(hn:Zr w lo hi A l)(hhi:hi≤w.heap.size):
    Calls prog 86 #[.slice A l.length cap] w fun e w'=>e= .returned (.map (some w.heap.size))∧Znx w' w.heap.size l.length (Zan l)∧Below w.heap.size w w':=by
  have hmm:=Zpe;have hll:(l.length:Int)≤600:=by omega
  unfold Znx;rw[Zdz];have HN:=Ql hn;clear hn hl;go_enter func86,ntmps86;go_wp2_with fail;go_loopw [10] (fun i wr=>∃k:Nat,k≤l.length∧i= .int .i64 k∧wr.ownsMap prog 9 (unitElem (H:=Unit)) w.heap.size k (Sn (Zan l) k)∧Below w.heap.size w wr)
    (fun i _=>l.length - (intOf i).toNat)
  case atStart=>exact⟨0,Qm _,rfl,by rw[Zqm];exact World.ownsMap_made _ _ _ _,(Below.refl _ _).alloc Zo2 _⟩
  case round=>
    obtain⟨k,hk,rfl,hown,hB⟩:=hrel;by_cases hlk:k<l.length
    · obtain⟨b,o,p,rfl,_,hb2,hx,hent⟩:=HN.out k hlk;have hz:=hB.size;have hbw:b<wr.heap.size:=by omega
      have x1:=(hx.kept (B:=w.heap.size) hB (by omega)).c1;have hsz:=hent.hs;have HN2:=Ql (Zql (Zan l) k (by rw[Zdz];exact hlk));unfold Zi7 at HN2;rw[Z16 hlk]at HN2;obtain⟨x,hxx⟩:∃x,l[k].s=x:=⟨_,rfl⟩;rw[hxx]at x1 hsz HN2;have hi0':(k:Int)<(l.length:Int):=by omega
      clear hxx hx hent;have hkey:=Z6y hsz
      go_wp2_with (first
        | (at_mapUpdate;refine wpList_mapUpdate_own _ rfl _ _ _ 107 rfl 9 124 Z8t Tryz.underlying107 (unitElem (H:=Unit)) w.heap.size k _ rfl hown (by unfold maxLen;omega) _ _ _ rfl rfl hkey _ [] unitElem_mk ?_;intro w1 hown1 hgrow1)
        | go_in)
      go_roundw
      case rel=>exact⟨k+1,by omega,by go_num,HN2.out.symm ▸ hown1,hB.grown hgrow1 hB.size (fun j hj=>by cases hj;exact Qn _)⟩
      case measure=>simp[intOf];omega
    · obtain rfl:k=l.length:=by omega
      go_wp2_with fail;go_ret;exact⟨rfl,hown,hB⟩
noncomputable def Zcs (l:List ET) (i:Nat) (x:ET):Bool:=nmB x.s && (J4 x.t i && (Zcd x &&
  (if x.k=1 then Zg8 l i x else if x.k=2 then Zkm l i x else if x.k=4 then Zmz l i x else if x.k=3 then J4 x.b i else false)))
noncomputable def Zfk (l:List ET) (i:Nat):Bool:=match l[i]? with|some x=>Zcs l i x|none=>false
noncomputable def Zs (l:List ET):Bool:=decide (l.length≤256) && (Zfx (Zan l) && Zv (Zfk l) l.length)
theorem Zfy {l:List ET}{i:Nat}(h:i<l.length):Zfk l i=Zcs l i l[i]:=by unfold Zfk;rw[Qe h]
theorem Zlo {l:List ET}{i:Nat}{x:ET}(h:Zg8 l i x=true):0≤x.a∧0≤x.i∧x.a+x.i≤24:=by
 unfold Zg8 at h;simp only[Qa,decide_eq_true_eq]at h;exact⟨h.1,h.2.1,h.2.2.1⟩
theorem Z1j {l:List ET}{n:Nat}(h:Zv (Zfk l) n=true):Zj3 l n:=by
 intro j hj hjn hk;have h1:=Zay.1 h j hjn;rw[Zfy hj]at h1;unfold Zcs at h1;rw[if_pos hk]at h1;simp only[Qa]at h1;exact Zlo h1.2.2.2
theorem Zus (l:List ET)(A:Option Addr)(cap i:Nat)(hi:i<l.length)(lo hh:Nat)(w:World)(hl:l.length≤600)(hlc:l.length≤cap)(hn:Zr w lo hh A l)(hhh:hh≤w.heap.size)(hS:Zi w)(hfo:Zj3 l i):
  Calls prog 87 #[.slice A l.length cap,.int .i64 i] w fun e w'=>e= .returned (.bool (Zcs l i l[i]))∧Below w.heap.size w w':=by
 obtain⟨b,o,p,hA,hb1,hb2,hx,hent⟩:=hn i hi;have CF:=Ql (fun V (hV:Below w.heap.size w V)=>Z33 l A cap i hi lo hh V hl (hn.kept hV hhh) (by have:=hV.size;omega) (hS.kept hV));have CC:=Ql (fun(hs:Zb l[i].t=true)(V:World)(hV:Below w.heap.size w V)=>Z31 l A cap i hi lo hh V hl hlc (hn.kept hV hhh) (by have:=hV.size;omega) (hS.kept hV) hfo hs);have CD:=Ql (fun(hs:Zb l[i].t=true)(V:World)(hV:Below w.heap.size w V)=>Z34 l A cap i hi lo hh V hl hlc (hn.kept hV hhh) (by have:=hV.size;omega) (hS.kept hV) hfo hs);obtain⟨z,hz⟩:∃z,Zcs l i l[i]=z:=⟨_,rfl⟩;rw[hz];unfold Zcs at hz;obtain⟨rf,hrf⟩:∃r,Zg8 l i l[i]=r:=⟨_,rfl⟩;obtain⟨rc,hrc⟩:∃r,Zkm l i l[i]=r:=⟨_,rfl⟩;obtain⟨rd,hrd⟩:∃r,Zmz l i l[i]=r:=⟨_,rfl⟩;rw[hrf,hrc,hrd]at hz;rw[hrf]at CF;rw[hrc]at CC;rw[hrd]at CD;clear hrf hrc hrd;obtain⟨x,hxx⟩:∃x,l[i]=x:=⟨_,rfl⟩;rw[hxx]at hx hent hz CC CD;obtain⟨x0,x1,x2,x3,x4,x5,x6,x7,x8,x9,x10,x11,x12,x13,x14⟩:=hx;subst hA;have hbw:b<w.heap.size:=by omega
 have hi0':(i:Int)<(l.length:Int):=by omega
 have hi1:(i:Int)<600:=by omega
 have HZ:=Ql hz;have HB1:=Ql (show Below w.heap.size w (w.alloc (.cells (Z1 x p) 36))from(Below.refl _ _).alloc Zo2 _);have KB:=Ql (fun V (hV:Below (w.alloc (.cells (Z1 x p) 36)).heap.size (w.alloc (.cells (Z1 x p) 36)) V)=>(show Zlb V w.heap.size x p from((Bk.new w 36 (Z1 x p)).below hV (by simp)).boxE));have hs9:=hent.hs;have CN:=Ql (fun(V:World)=>Zr8 x.s V (by unfold maxLen at hs9;omega));have CL:=Ql (fun V (hV:Below w.heap.size w V)=>Zpw x.t (i:Int) lo hh p.T p.tc V (hent.ht.kept hV hhh) (by have:=hV.size;omega) (hS.kept hV));have CB:=Ql (fun V (hV:Below w.heap.size w V)=>Zpw x.b (i:Int) lo hh p.B p.bc V (hent.hb.kept hV hhh) (by have:=hV.size;omega) (hS.kept hV));have CI:=Ql (fun(V:World)=>Z1r x p V);have HCS:=Ql (fun(q:J4 x.t (i:Int)=true)=>Zdq q);obtain⟨bn,hbn⟩:∃r,nmB x.s=r:=⟨_,rfl⟩;obtain⟨bl,hbl⟩:∃r,J4 x.t (i:Int)=r:=⟨_,rfl⟩;obtain⟨bb,hbb⟩:∃r,J4 x.b (i:Int)=r:=⟨_,rfl⟩;obtain⟨bi,hbi⟩:∃r,Zcd x=r:=⟨_,rfl⟩;rw[hbn]at CN;rw[hbl]at CL HCS;rw[hbb]at CB;rw[hbi]at CI;have HZ1:Hid ((bn && (bl && (bi && (if x.k=1 then rf else if x.k=2 then rc else if x.k=4 then rd else if x.k=3 then bb else false))))=z):=Ql (by
  have:=HZ.out;rw[hbn,hbl,hbb,hbi]at this;exact this)
 unfold Z1 at HB1 KB;unfold Ziv at CI;unfold Zc at CL CB;clear hz hxx hent hn hS hl hb1 hb2 hs9 hbn hbl hbb hbi hfo hlc HZ;go_enter func87,ntmps87;go_wp2_with fail;refine(CN.out _).mono ?_;rintro e w1 ⟨rfl,hb1⟩;have HB2:=Ql (HB1.out.trans (hb1.mono (by simp)));have HK2:=Ql hb1;have hs1:w.heap.size<w1.heap.size:=by have:=hb1.size;simp at this;omega
 obtain⟨z0,z1,z2,z3,z4,z5,z6,z7,z8,z9,z10,z11,z12,z13,z14⟩:=KB.out _ hb1;clear hb1 x0 x1 x2 x3 x4 x5 x6 x7 x8 x9 x10 x11 x12 x13 x14;cases bn with
 | false=>
  obtain rfl:z=false:=by rw[←HZ1.out];rfl
  go_wp2_with fail;go_ret;exact⟨rfl,HB2.out⟩
 | true=>
 go_wp2_with fail;refine(CL.out _ HB2.out).mono ?_;rintro e w2 ⟨rfl,hb2⟩;have HB3:=Ql (Zmd HB2 hb2);have HK3:=Ql (Zmd HK2 hb2);have hs2:w.heap.size<w2.heap.size:=by have:=hb2.size;omega
 clear hb2 z0 z1 z2 z3 z4 z5 z6 z7 z8 z9 z10 z11 z12 z13 z14 hs1;obtain⟨z0,z1,z2,z3,z4,z5,z6,z7,z8,z9,z10,z11,z12,z13,z14⟩:=KB.out _ HK3.out;cases bl with
 | false=>
  obtain rfl:z=false:=by rw[←HZ1.out];rfl
  go_wp2_with fail;go_ret;exact⟨rfl,HB3.out⟩
 | true=>
 have hsh:=HCS.out rfl;have CC2:=Ql (CC.out hsh);have CD2:=Ql (CD.out hsh);clear hsh HCS CC CD;go_wp2_with fail;refine(CI.out _).mono ?_;rintro e w3 ⟨rfl,hb3⟩;have HB4:=Ql (Zmd HB3 hb3);have HK4:=Ql (Zmd HK3 hb3);have hs3:w.heap.size<w3.heap.size:=by have:=hb3.size;omega
 clear hb3 z0 z1 z2 z3 z4 z5 z6 z7 z8 z9 z10 z11 z12 z13 z14 hs2;obtain⟨z0,z1,z2,z3,z4,z5,z6,z7,z8,z9,z10,z11,z12,z13,z14⟩:=KB.out _ HK4.out;cases bi with
 | false=>
  obtain rfl:z=false:=by rw[←HZ1.out];rfl
  go_wp2_with fail;go_ret;exact⟨rfl,HB4.out⟩
 | true=>
 have HZ2:Hid ((if x.k=1 then rf else if x.k=2 then rc else if x.k=4 then rd else if x.k=3 then bb else false)=z):=HZ1;by_cases k1:x.k=1
 ·have t1:(x.k==1)=true:=by simpa using k1
  obtain rfl:rf=z:=by rw[←HZ2.out,if_pos k1]
  clear k1 CL CB CN CI CC2 CD2;go_wp2_with fail;refine(CF.out _ HB4.out).mono ?_;rintro e w4 ⟨rfl,hb4⟩;go_wp2_with fail;go_ret;exact⟨rfl,Zmd HB4 hb4⟩
 have t1:(x.k==1)=false:=by simpa using k1
 by_cases k2:x.k=2
 ·have t2:(x.k==2)=true:=by simpa using k2
  obtain rfl:rc=z:=by rw[←HZ2.out,if_neg k1,if_pos k2]
  clear k1 k2 CL CB CN CI CF CD2;go_wp2_with fail;refine(CC2.out _ HB4.out).mono ?_;rintro e w4 ⟨rfl,hb4⟩;go_wp2_with fail;go_ret;exact⟨rfl,Zmd HB4 hb4⟩
 have t2:(x.k==2)=false:=by simpa using k2
 by_cases k4:x.k=4
 ·have t4:(x.k==4)=true:=by simpa using k4
  obtain rfl:rd=z:=by rw[←HZ2.out,if_neg k1,if_neg k2,if_pos k4]
  clear k1 k2 k4 CL CB CN CI CF CC2;go_wp2_with fail;refine(CD2.out _ HB4.out).mono ?_;rintro e w4 ⟨rfl,hb4⟩;go_wp2_with fail;go_ret;exact⟨rfl,Zmd HB4 hb4⟩
 have t4:(x.k==4)=false:=by simpa using k4
 by_cases k3:x.k=3
 ·have t3:(x.k==3)=true:=by simpa using k3
  obtain rfl:bb=z:=by rw[←HZ2.out,if_neg k1,if_neg k2,if_neg k4,if_pos k3]
  clear k1 k2 k4 k3 CL CN CI CF CC2 CD2;go_wp2_with fail;refine(CB.out _ HB4.out).mono ?_;rintro e w4 ⟨rfl,hb4⟩;go_wp2_with fail;go_ret;exact⟨rfl,Zmd HB4 hb4⟩
 have t3:(x.k==3)=false:=by simpa using k3
 obtain rfl:z=false:=by rw[←HZ2.out,if_neg k1,if_neg k2,if_neg k4,if_neg k3]
 clear k1 k2 k4 k3 CL CN CI CF CC2 CD2 CB;go_wp2_with fail;go_ret;exact⟨rfl,HB4.out⟩
theorem Zkl {H:Type}{P:Program}{ops:Array Oper}{Q:Exit→Act→World→Prop}{a:Act}{w:World}{rest:List Oper}{o:Oper}(hw:Region.wanted o (yielded ops a.tmps)=true)(m:Operand)(t:TypeId)(hop:o.op=Op.call {callee:=Callee.builtin Builtin.len,args:= #[m],argTypes:= #[t]})
    (k e:TypeId) (ht:P.underlying t=some (.map k e)) (R:Value→Option (DataW H×List MemPlace)) (b n:Nat) (D:DataW H) (hm:a.eval m= .map (some b)) (hown:w.ownsMap P k R b n D)
    (hK:wpList P ops Q rest (a.put o.dst (.int .i64 (Maps.size D))) w):
    wpList P ops Q (o::rest) a w:=by
  refine BigFrame.wpList_want hw fun K' hK'=> ?_;unfold Oper.wp;simp[execOp,hop,resolve,invoke,builtin,hm,hown.len ht o.type,Result.andThen];exact hK' _ _ hK
theorem Zt7 (l:List ET)(A:Option Addr)(cap lo hh:Nat)(w:World)(hl:l.length≤600)(hlc:l.length≤cap)(hn:Zr w lo hh A l)(hhh:hh≤w.heap.size)(hS:Zi w):
  Calls prog 55 #[.slice A l.length cap] w fun e w'=>e= .returned (.bool (Zs l))∧Below w.heap.size w w':=by
 have HN:=Ql hn;have HSS:=Ql hS;have CNM:=Ql (Zxv l A cap lo hh w hl hn hhh);have hd:=(Zv1 (Zan l) (Zan l).length Zo2).trans (Z1b (Zan l)).symm;rw[Zdz]at hd;have CFO:=Ql (fun(i:Nat)(hi:i<l.length)(hfo:Zj3 l i)(V:World)(hV:Below w.heap.size w V)=>Zus l A cap i hi lo hh V hl hlc (hn.kept hV hhh) (by have:=hV.size;omega) (hS.kept hV) hfo);obtain⟨z,hz⟩:∃z,Zs l=z:=⟨_,rfl⟩;rw[hz];unfold Zs at hz;have HZ:=Ql hz;have hll:(l.length:Int)≤600:=by omega
 clear hz hn hS hl hlc;by_cases h256:l.length≤256
 case neg=>
  have t0:decide ((256:Int)<(l.length:Int))=true:=Zjt (by omega);have t0':decide ((l.length:Int)>256)=true:=Zjt (by omega);have t0'':decide (256<l.length)=true:=Zjt (by omega);obtain rfl:z=false:=by rw[←HZ.out,decide_eq_false h256];rfl
  clear h256 hd;go_enter func55,ntmps55;go_wp2_with fail;go_ret;exact⟨rfl,Below.refl _ _⟩
 have t0:decide ((256:Int)<(l.length:Int))=false:=decide_eq_false (by omega);have t0':decide ((l.length:Int)>256)=false:=decide_eq_false (by omega);have t0'':decide (256<l.length)=false:=decide_eq_false (by omega);have HZ1:Hid ((Zfx (Zan l) && Zv (Zfk l) l.length)=z):=Ql (by have:=HZ.out;rw[Zjt h256,Qb]at this;exact this);unfold Znx at CNM;rw[Zdz]at CNM;obtain⟨D,hD⟩:∃D,Sn (Zan l) l.length=D:=⟨_,rfl⟩;rw[hD]at CNM hd;clear h256 hD HZ;obtain⟨rd,hrd⟩:∃r,Zfx (Zan l)=r:=⟨_,rfl⟩;rw[hrd]at HZ1;cases rd with
 | false=>
  obtain⟨m,hm⟩:∃m,Maps.size D=m:=⟨_,rfl⟩;have ne:((m:Int) !=(l.length:Int))=true:=by
   rw[bne_iff_ne];intro e;have:m=l.length:=by omega
   rw[hd.1 (hm.trans this)]at hrd;cases hrd
  obtain rfl:z=false:=by rw[←HZ1.out];rfl
  have HE:=Ql hm;clear hd hrd hm;go_enter func55,ntmps55;go_wp2_with fail;refine CNM.out.mono ?_;rintro e w1 ⟨rfl,hset,hb⟩;go_wp2_with (at_len;(refine Zkl rfl _ 107 rfl 9 124 Tryz.underlying107 _ w.heap.size l.length _ rfl hset ?_;rw[HE.out]))
  go_ret;exact⟨rfl,hb⟩
 | true=>
 have HE:=Ql (hd.2 hrd);have ne:((l.length:Int) !=(l.length:Int))=false:=by simp
 have HZ2:Hid (Zv (Zfk l) l.length=z):=HZ1;clear hd hrd;go_enter func55,ntmps55;go_wp2_with fail;refine CNM.out.mono ?_;rintro e w1 ⟨rfl,hset,hb⟩;go_wp2_with (at_len;(refine Zkl rfl _ 107 rfl 9 124 Tryz.underlying107 _ w.heap.size l.length _ rfl hset ?_;rw[HE.out]))
 have HB1:=Ql hb;clear hset hb;try go_wp2_with fail
 go_loopw [17] (fun iv wr=>∃i:Nat,i≤l.length∧iv= .int .i64 i∧Below w.heap.size w wr∧Hid (Zv (Zfk l) i=true)) (fun iv _=>l.length - (intOf iv).toNat)
 case atStart=>exact⟨0,Qm _,rfl,HB1.out,Ql rfl⟩
 case round=>
  obtain⟨i,hi1,rfl,hB,HQ⟩:=hrel;by_cases hil:i<l.length
  ·have CF:=Ql (CFO.out i hil (Z1j HQ.out) wr hB);have hno:Hid (Zcs l i l[i]=false→z=false):=Ql (fun h=>by rw[←HZ2.out];exact Zdj hil (by rw[Zfy hil];exact h));have hyes:Hid (Zcs l i l[i]=true→Zv (Zfk l) (i+1)=true):=Ql (fun h=>by rw[Zv,HQ.out,Zfy hil,h];rfl);obtain⟨r,hr⟩:∃r,Zcs l i l[i]=r:=⟨_,rfl⟩;rw[hr]at CF hno hyes;have hi0':(i:Int)<(l.length:Int):=by omega
   have HBB:=Ql hB;clear hr;go_wp2_with fail;refine CF.out.mono ?_;rintro e w2 ⟨rfl,hb2⟩;have HB2:=Ql (Zmd HBB hb2);clear hb2;cases r with
   | false=>
    obtain rfl:z=false:=hno.out rfl;clear hno hyes;go_wp2_with fail;go_ret;exact⟨rfl,HB2.out⟩
   | true=>
    have HY:=Ql (hyes.out rfl);clear hno hyes;go_wp2_with fail;go_roundw
    case rel=>exact⟨i+1,by omega,by go_num,HB2.out,Ql HY.out⟩
    case measure=>simp[intOf];omega
  ·obtain rfl:i=l.length:=by omega
   obtain rfl:z=true:=by rw[←HZ2.out];exact HQ.out
   go_wp2_with fail;go_ret;exact⟨rfl,hB⟩
noncomputable def Zhn (l:List ET) (i:Nat) (x:ET):Bool:=nmB x.s && (J4 x.t i &&
  (if x.k=1 then Zlq l i x else if x.k=3 then Zwn i x else if x.k=2 then Zht l i x && Zll l x else if x.k=4 then Zht l i x && Zm0 l x else false))
noncomputable def Zju (l:List ET) (i:Nat):Bool:=match l[i]? with|some x=>Zhn l i x|none=>false
noncomputable def Zk5 (l:List ET):Bool:=decide (l.length≤256) && (Zfx (Zan l) && Zv (Zju l) l.length)
theorem Zk2 {l:List ET}{i:Nat}(h:i<l.length):Zju l i=Zhn l i l[i]:=by unfold Zju;rw[Qe h]
theorem Zof {l:List ET}{i:Nat}{n k:Int}(h:isB (l.take i) n k=true):isB l n k=true:=by
 obtain⟨j,rfl,_,hj,hk⟩:=Zgp h;rw[Zdg hj,hk];exact Zjt rfl
theorem Zog {l:List ET}{i:Nat}{n k:Int}(h:isB l n k=true)(hn:n<(i:Int)):isB (l.take i) n k=true:=by
 obtain⟨j,rfl,hj,hk⟩:=Zat h;rw[Zdg (by rw[List.length_take];omega),List.getElem_take,hk];exact Zjt rfl
theorem Zia {l:List ET}{i first:Int}{places:List Int}{k:Int}(h:Zc1 l i first places k=true){q:Nat}(hq:q<places.length):
  places[q]=first+(q:Int)∧∃m:Nat,places[q]=(m:Int)∧∃hm:m<l.length,l[m].k=k∧l[m].f=i∧l[m].p=(q:Int):=by
 unfold Zc1 at h;have h1:=Zay.1 h q hq;unfold Ze8 at h1;rw[Qe hq]at h1;simp only[Zf4,Qa,decide_eq_true_eq]at h1;obtain⟨e1,e2,e3⟩:=h1;obtain⟨m,e4,hm,hk⟩:=Zat e2;rw[e4,Int.toNat_natCast,Qe hm]at e3;simp only[Qa,decide_eq_true_eq]at e3;exact⟨e1,m,e4,hm,hk,e3.1,e3.2⟩
theorem Zlw {x:ET}:Zcd x=true→(x.k=1→x.f=0∧x.p=0∧Zdc x.b=true)∧(x.k=2∨x.k=4→x.i=0∧x.v=0∧x.c.length=0∧x.d.length=0∧Zdc x.b=true)∧
    (x.k=3→x.f=0∧x.p=0∧x.a=0∧x.i=0∧x.v=0∧x.c.length=0∧x.d.length=0):=by
  intro h;unfold Zcd at h;refine⟨fun hk=> ?_,fun hk=> ?_,fun hk=> ?_⟩
  · rw[if_pos hk]at h;simpa only[Qa,decide_eq_true_eq]using h
  · rw[if_neg (by omega),if_pos hk]at h;simpa only[Qa,decide_eq_true_eq]using h
  · rw[if_neg (by omega),if_neg (by omega),if_pos hk]at h;simpa only[Qa,decide_eq_true_eq]using h
theorem Zk3 {l:List ET}{j:Nat}{y:ET}(h:Zg8 l j y=true):Zc1 l j (j+1) y.c 2=true∧(y.d.length=0∨(y.i=0∧Zc1 l j (j+2) y.d 4=true)):=by
 unfold Zg8 at h;simp only[Qa,Qc,decide_eq_true_eq]at h;obtain⟨_,_,_,_,_,hb,hd⟩:=h;refine⟨hb, ?_⟩;rcases hd with hd|hd
 ·exact .inl hd
 ·unfold Zng at hd;simp only[Qa,decide_eq_true_eq]at hd;exact .inr ⟨hd.1,hd.2.2.2⟩
theorem Zoc {c:List Int}{n:Int}(h:c.contains n=true):∃q,∃hq:q<c.length,c[q]=n:=by
 rw[Qg]at h;obtain⟨q,hq,e⟩:=Qh h;exact⟨q,hq,e⟩
theorem Zn4 {x:ET}{i:Nat}{c:List Int}:(!(Zv (fun q=> !atB x i c q) c.length))=true↔∃q,∃hq:q<c.length,c[q]=(i:Int)∧x.p=(q:Int):=by
 rw[Bool.not_eq_true'];constructor
 ·intro h;apply Classical.byContradiction
  intro hn;have:Zv (fun q=> !atB x i c q) c.length=true:=Zay.2 fun q hq=>by
   cases e:atB x i c q with
   | false=>rfl
   | true=>
    unfold atB at e;rw[Qe hq]at e;simp only[Qa,decide_eq_true_eq]at e;exact absurd ⟨q,hq,e⟩ hn
  rw[this]at h;cases h
 ·rintro⟨q,hq,h1,h2⟩;apply Zdj hq
  unfold atB;rw[Qe hq];dsimp only
  rw[Zjt h1,Zjt h2];rfl
theorem Z6l {l:List ET}(h:Zv (Zfk l) l.length=true):Zv (Zju l) l.length=true:=by
 refine Zay.2 fun i hi=> ?_;have hall:=fun j (hj:j<l.length)=>(Zfy hj).symm.trans (Zay.1 h j hj);have h1:=hall i hi;rw[Zk2 hi];obtain⟨x,hx⟩:∃x,l[i]=x:=⟨_,rfl⟩;rw[hx]at h1⊢;unfold Zcs at h1;simp only[Qa]at h1;obtain⟨hn,hc,hid,hk⟩:=h1;obtain⟨i1,i2,i3⟩:=Zlw hid;unfold Zhn;rw[hn,hc,Qb,Qb];by_cases k1:x.k=1
 ·rw[if_pos k1]at hk⊢;obtain⟨z1,z2,z3⟩:=i1 k1;unfold Zg8 at hk;simp only[Qa,Qc,decide_eq_true_eq]at hk;obtain⟨a1,a2,a3,a4,a5,a6,a7⟩:=hk;unfold Zlq;simp only[Qa,Qc,decide_eq_true_eq];refine⟨a1,a2,a3,z1,z2,z3,a5,a4,a6, ?_⟩;rcases a7 with a7|a7
  ·exact .inl a7
  ·unfold Zng at a7;simp only[Qa,decide_eq_true_eq]at a7;unfold Ztm;simp only[Qa,decide_eq_true_eq];exact .inr ⟨a7.1,a7.2.1,a7.2.2.2,a7.2.2.1.1⟩
 rw[if_neg k1]at hk⊢;by_cases k2:x.k=2
 ·rw[if_pos k2]at hk;rw[if_neg (show ¬ x.k=3 by omega),if_pos k2];obtain⟨z1,z2,z3,z4,z5⟩:=i2 (.inl k2);unfold Zkm at hk;rw[Qa]at hk;obtain⟨hb,hm⟩:=hk;obtain⟨j,hf,hji,hj,hjk⟩:=Zgp hb;rw[Zak hf hj]at hm;simp only[Qa,decide_eq_true_eq]at hm;obtain⟨m1,m2,m3,m4,m5⟩:=hm;have hfam:=hall j hj;unfold Zcs at hfam;rw[if_pos hjk]at hfam;simp only[Qa]at hfam;obtain⟨hbe,_⟩:=Zk3 hfam.2.2.2;obtain⟨q,hq,e⟩:=Zoc m1;obtain⟨_,m,e4,hml,_,_,hp⟩:=Zia hbe hq;have hmi:m=i:=by omega
  subst hmi;rw[hx]at hp;unfold Zht Zll;rw[Zof hb,Zak hf hj,z5];have hlo:Zdx x l[j]=l[j].c:=by unfold Zdx;rw[if_neg (by omega)]
  have hown:=Zn4.2 ⟨q,hq,e,hp⟩;simp only[hlo,hown,Qb,Qd,Qa,decide_eq_true_eq];exact⟨⟨by omega,z1,z2,z3,z4,m2⟩,m3,m4,m5⟩
 rw[if_neg k2]at hk;by_cases k4:x.k=4
 ·rw[if_pos k4]at hk;rw[if_neg (show ¬ x.k=3 by omega),if_neg k2,if_pos k4];obtain⟨z1,z2,z3,z4,z5⟩:=i2 (.inr k4);unfold Zmz at hk;rw[Qa]at hk;obtain⟨hb,hm⟩:=hk;obtain⟨j,hf,hji,hj,hjk⟩:=Zgp hb;rw[Zak hf hj]at hm;simp only[Qa,decide_eq_true_eq]at hm;obtain⟨m1,m2,m3,m4,m5⟩:=hm;have hfam:=hall j hj;unfold Zcs at hfam;rw[if_pos hjk]at hfam;simp only[Qa]at hfam;obtain⟨q,hq,e⟩:=Zoc m1;obtain⟨_,hbd⟩:=Zk3 hfam.2.2.2;rcases hbd with hbd|⟨hyi,hbd⟩
  ·omega
  obtain⟨_,m,e4,hml,_,_,hp⟩:=Zia hbd hq;have hmi:m=i:=by omega
  subst hmi;rw[hx]at hp;unfold Zht Zm0;rw[Zof hb,Zak hf hj,z5];have hlo:Zdx x l[j]=l[j].d:=by unfold Zdx;rw[if_pos k4]
  have hown:=Zn4.2 ⟨q,hq,e,hp⟩;rw[hyi]at m5;simp only[hlo,hown,Qb,Qd,Qa,decide_eq_true_eq];exact⟨⟨by omega,z1,z2,z3,z4,m2⟩,m3,m4,m5⟩
 rw[if_neg k4]at hk;by_cases k3:x.k=3
 ·rw[if_pos k3]at hk;rw[if_pos k3];obtain⟨z1,z2,z3,z4,z5,z6,z7⟩:=i3 k3;unfold Zwn;simp only[Qa,decide_eq_true_eq];exact⟨hk,z1,z2,z3,z4,z5,z6,z7⟩
 ·rw[if_neg k3]at hk;cases hk
theorem Z6k {l:List ET}(h:Zv (Zju l) l.length=true):Zv (Zfk l) l.length=true:=by
 refine Zay.2 fun i hi=> ?_;have hall:=fun j (hj:j<l.length)=>(Zk2 hj).symm.trans (Zay.1 h j hj);have h1:=hall i hi;rw[Zfy hi];obtain⟨x,hx⟩:∃x,l[i]=x:=⟨_,rfl⟩;rw[hx]at h1⊢;unfold Zhn at h1;simp only[Qa]at h1;obtain⟨hn,hc,hk⟩:=h1;unfold Zcs;rw[hn,hc,Qb,Qb];by_cases k1:x.k=1
 ·rw[if_pos k1]at hk⊢;unfold Zlq at hk;simp only[Qa,Qc,decide_eq_true_eq]at hk;obtain⟨a1,a2,a3,z1,z2,z3,a5,a4,a6,a7⟩:=hk;unfold Zcd Zg8;rw[if_pos k1];simp only[Qa,Qc,decide_eq_true_eq];refine⟨⟨z1,z2,z3⟩,a1,a2,a3,a4,a5,a6, ?_⟩;rcases a7 with a7|a7
  ·exact .inl a7
  ·unfold Ztm at a7;simp only[Qa,decide_eq_true_eq]at a7;obtain⟨r1,r2,r3,r4⟩:=a7;unfold Zng;simp only[Qa,decide_eq_true_eq];refine .inr ⟨r1,r2,⟨r4, ?_⟩,r3⟩;obtain⟨hi2,hk2⟩:=Zos (show Zc1 l i ((i+1:Nat):Int) x.c 2=true from a6) r2;have hnx:=hall (i+1) hi2;unfold Zhn at hnx;simp only[Qa]at hnx;have h3:=hnx.2.2;rw[if_neg (by omega),if_neg (by omega),if_pos hk2,Qa]at h3;have h4:=h3.2;unfold Zll at h4;rw[Qa]at h4;unfold Z1k;rw[Qe hi2];exact h4.1
 rw[if_neg k1]at hk⊢;by_cases k3:x.k=3
 ·rw[if_pos k3]at hk;rw[if_neg (show ¬ x.k=2 by omega),if_neg (show ¬ x.k=4 by omega),if_pos k3];unfold Zwn at hk;simp only[Qa,decide_eq_true_eq]at hk;unfold Zcd;rw[if_neg k1,if_neg (by omega),if_pos k3];simp only[Qa,decide_eq_true_eq];exact⟨hk.2,hk.1⟩
 rw[if_neg k3]at hk;by_cases k2:x.k=2
 ·rw[if_pos k2,Qa]at hk;rw[if_pos k2];obtain⟨ho,hcn⟩:=hk;unfold Zht at ho;simp only[Qa,decide_eq_true_eq]at ho;obtain⟨hb,hlt,z5,z1,z2,z3,z4,hm⟩:=ho;obtain⟨j,hf,hj,hjk⟩:=Zat hb;rw[Zak hf hj]at hm;simp only[Qa,decide_eq_true_eq]at hm;obtain⟨m2,hown⟩:=hm;have hlo:Zdx x l[j]=l[j].c:=by unfold Zdx;rw[if_neg (by omega)]
  rw[hlo]at hown;obtain⟨q,hq,e,hp⟩:=Zn4.1 hown;unfold Zll at hcn;rw[Zak hf hj]at hcn;simp only[Qa,decide_eq_true_eq]at hcn;have hct:l[j].c.contains (i:Int)=true:=by rw[Qg,←e];exact Qf hq
  unfold Zcd Zkm;rw[if_neg k1,if_pos (.inl k2),Zog hb hlt,Zak hf hj];simp only[hct,Qb,Qa,decide_eq_true_eq];exact⟨⟨z1,z2,z3,z4,z5⟩,m2,hcn.1,hcn.2.1,hcn.2.2⟩
 rw[if_neg k2]at hk⊢;by_cases k4:x.k=4
 ·rw[if_pos k4,Qa]at hk;rw[if_pos k4];obtain⟨ho,hcn⟩:=hk;unfold Zht at ho;simp only[Qa,decide_eq_true_eq]at ho;obtain⟨hb,hlt,z5,z1,z2,z3,z4,hm⟩:=ho;obtain⟨j,hf,hj,hjk⟩:=Zat hb;rw[Zak hf hj]at hm;simp only[Qa,decide_eq_true_eq]at hm;obtain⟨m2,hown⟩:=hm;have hlo:Zdx x l[j]=l[j].d:=by unfold Zdx;rw[if_pos k4]
  rw[hlo]at hown;obtain⟨q,hq,e,hp⟩:=Zn4.1 hown;unfold Zm0 at hcn;simp only[Qa,decide_eq_true_eq]at hcn;have hct:l[j].d.contains (i:Int)=true:=by rw[Qg,←e];exact Qf hq
  have hfam:=hall j hj;unfold Zhn at hfam;rw[if_pos hjk]at hfam;simp only[Qa]at hfam;have hfr:=hfam.2.2;have hyi:l[j].i=0:=by
   unfold Zlq at hfr;simp only[Qa,Qc,decide_eq_true_eq]at hfr;obtain⟨_,_,_,_,_,_,_,_,_,a7⟩:=hfr;rcases a7 with a7|a7
   ·omega
   ·unfold Ztm at a7;simp only[Qa,decide_eq_true_eq]at a7;exact a7.1
  unfold Zcd Zmz;rw[if_neg k1,if_pos (.inr k4),Zog hb hlt,Zak hf hj];simp only[hct,hyi,Qb,Qa,decide_eq_true_eq];exact⟨⟨z1,z2,z3,z4,z5⟩,m2,hcn.1,hcn.2.1,hcn.2.2⟩
 ·rw[if_neg k4]at hk;cases hk
theorem Zd7 (l:List ET):Zs l=Zk5 l:=by
 unfold Zs Zk5;have:Zv (Zfk l) l.length=Zv (Zju l) l.length:=by
  rw[Bool.eq_iff_iff];exact⟨Z6l,Z6k⟩
 rw[this]
structure RcT where
 is:Bool
 ar:List TM
 ix:List TM
structure CoT where
 args:List TM
 inds:List TM
 recs:List RcT
def Zbs:RcT:=⟨false,[],[]⟩
def Zla:CoT:=⟨[],[],[]⟩
instance:Inhabited RcT:=⟨Zbs⟩
instance:Inhabited CoT:=⟨Zla⟩
def Zks (d:Int)(ps mo:Nat)(t:TM)(bs:Nat):RcT:=
 if decide (Zz t≤24) && Zbu (Zaj t) d ps mo (bs+Zz t)then⟨true,Jq t,(Jc (Zaj t)).drop ps⟩else Zbs
def Zh1 (d:Int)(ps mo:Nat)(l:List TM)(n:Nat):List RcT:=(Qj n).map fun i=>Zks d ps mo (l.getD i (.node 0 0 [])) (ps+i)
def Zzw (x:ET)(mo:Nat):CoT:=
 ⟨(Jq x.t).drop x.a.toNat,(Jc (Zaj x.t)).drop x.a.toNat,Zh1 x.f x.a.toNat mo ((Jq x.t).drop x.a.toNat) ((Jq x.t).drop x.a.toNat).length⟩
def Z69 (l:List ET)(x:ET):Nat:=match Zkb l x with|some y=>y.i.toNat|none=>0
def Zj (l:List ET)(n:Nat):CoT:=match l[n]? with|some x=>Zzw x (Z69 l x)|none=>Zla
def Zho (l:List ET)(n:Nat):CoT:=if isB l (n:Int) 2 then Zj l n else Zla
def Zct (l:List ET):List CoT:=(Qj l.length).map (Zho l)
theorem Zln (l:List ET):(Zct l).length=l.length:=by unfold Zct;simp
theorem Zq8 {l:List ET}{n:Nat}(h:n<(Zct l).length):(Zct l)[n]=Zho l n:=by simp[Zct]
theorem Znh (d:Int)(ps mo:Nat)(l:List TM)(n:Nat):(Zh1 d ps mo l n).length=n:=by unfold Zh1;simp
theorem Zxk (d:Int)(ps mo:Nat)(l:List TM)(n:Nat):Zh1 d ps mo l (n+1)=Zh1 d ps mo l n++[Zks d ps mo (l.getD n (.node 0 0 [])) (ps+n)]:=by
 unfold Zh1;rw[List.range_succ,List.map_append];rfl
structure Z8p (l:List ET) (m d:Nat) (hm:m<l.length) (hd:d<l.length):Prop where
 f:l[m].f=(d:Int)
 lt:d<m
 kd:l[d].k=1
 a:l[m].a=l[d].a
 a0:0≤l[d].a
 i0:0≤l[d].i
 ai:l[d].a+l[d].i≤24
 n24:Zz l[m].t≤24
 an:l[m].a≤(Zz l[m].t:Int)
 app:Zbu (Zaj l[m].t) l[m].f l[m].a.toNat l[d].i.toNat (Zz l[m].t)=true
 cl:J4 l[m].t m=true
 sh:Zb l[m].t=true
theorem Zfz {l:List ET}(h:Zs l=true){i:Nat}(hi:i<l.length):Zcs l i l[i]=true:=by
 unfold Zs at h;simp only[Qa]at h;have:=Zay.1 h.2.2 i hi
 rwa [Zfy hi]at this
theorem Zc7 {l:List ET}(h:Zs l=true):l.length≤256:=by
 unfold Zs at h;simp only[Qa,decide_eq_true_eq]at h;exact h.1
theorem Zra {l:List ET}(h:Zs l=true){i:Nat}(hi:i<l.length):J4 l[i].t i=true:=by
 have:=Zfz h hi;unfold Zcs at this;simp only[Qa]at this;exact this.2.1
theorem Zi6 {l:List ET}(h:Zs l=true){i:Nat}(hi:i<l.length)(hk:l[i].k=1):Zg8 l i l[i]=true:=by
 have:=Zfz h hi;unfold Zcs at this;rw[if_pos hk]at this;simp only[Qa]at this;exact this.2.2.2
theorem Zq6 {l:List ET}(h:Zs l=true){m:Nat}(hm:m<l.length)(hk:l[m].k=2):∃d,∃hd:d<l.length,Z8p l m d hm hd:=by
 have h1:=Zfz h hm;unfold Zcs at h1;rw[if_neg (by omega),if_pos hk]at h1;simp only[Qa]at h1;obtain⟨_,h2,_,h3⟩:=h1;unfold Zkm at h3;rw[Qa]at h3;obtain⟨h4,h5⟩:=h3;obtain⟨d,e,hlt,hd,hkd⟩:=Zgp h4;rw[Zak e hd]at h5;simp only[Qa,decide_eq_true_eq]at h5;obtain⟨_,q1,q2,q3,q4⟩:=h5;obtain⟨f1,f2,f3⟩:=Zlo (Zi6 h hd hkd);exact⟨d,hd,⟨e,hlt,hkd,q1,f1,f2,f3,q2,q3,q4,h2,Zdq h2⟩⟩
structure Z8q (l:List ET) (d:Nat) (hd:d<l.length):Prop where
 a0:0≤l[d].a
 i0:0≤l[d].i
 ai:l[d].a+l[d].i≤24
 c16:l[d].c.length≤16
 sp:Zt l[d].t (l[d].a+l[d].i)=(Jq l[d].t,.node 2 l[d].v [],0)
 nt:(Jq l[d].t).length=(l[d].a+l[d].i).toNat
 cl:J4 l[d].t d=true
 sh:Zb l[d].t=true
 cons:∀q (h:q<l[d].c.length),∃hm:d+1+q<l.length,l[d].c[q]=((d+1+q:Nat):Int)∧l[d+1+q].k=2∧l[d+1+q].f=(d:Int)∧l[d+1+q].p=(q:Int)
theorem Zxz:∀{m:Nat} {t u:TM} {r:List TM},Zg t=true→Ju m t=some (r,u)→u.k≠3→r=Jq t∧u=Zaj t∧Zz t=m:=by
 intro m;induction m with
 | zero=>
  intro t u r hg h hk;rw[Ju]at h;injection h with h;injection h with h1 h2;subst h1 h2;obtain⟨q1,q2⟩:=Zn6 hk;exact⟨q1.symm,q2.symm,Zgu hk⟩
 | succ m ih=>
  intro t u r hg h hk;by_cases h3:t.k=3
  ·obtain⟨n,a,b,rfl,ha,hb⟩:=Zdl hg h3;rw[Zfs]at h;cases e:Ju m b with
   | none=>rw[e]at h;cases h
   | some q=>
    rw[e]at h;obtain⟨q1,q2⟩:=q;injection h with h;injection h with h1 h2;simp only at h1 h2;subst h1 h2;obtain⟨e1,e2,e3⟩:=ih hb e hk;obtain⟨p1,p2⟩:=Znr (n:=n) (a:=a) hb;rw[p1,p2,e1,←e2,Zhu,e3];exact⟨rfl,rfl,rfl⟩
  ·rw[Zim h3]at h;cases h
theorem Z0c {t:TM}(hs:Zb t=true)(hk:t.k=2):t= .node 2 t.n []:=by
 obtain⟨k,n,l⟩:=t;obtain rfl:k=2:=hk;have h:=(Jo (by
  have hg:=(Zh.1 hs).2.2;rw[Zo,Qa]at hg;exact hg.1)).2.2.1
 have:l=[]:=List.length_eq_zero_iff.1 (h.trans rfl);subst this;rfl
theorem Zgw {l:List ET}(h:Zs l=true){d:Nat}(hd:d<l.length)(hk:l[d].k=1):Z8q l d hd:=by
 have h1:=Zi6 h hd hk;obtain⟨f1,f2,f3⟩:=Zlo h1;have hb:=(Zk3 h1).1;have hcl:=Zra h hd;have hsh:=Zdq hcl;unfold Zg8 at h1;simp only[Qa,decide_eq_true_eq]at h1;obtain⟨_,_,_,h16,hso,_⟩:=h1;unfold Zh4 at hso;simp only[Qa,decide_eq_true_eq]at hso;obtain⟨s0,s1,s2⟩:=hso;have hss:=Znn s0;have hle:=Z0c hss s1;rw[s2]at hle;have hsp:Zt l[d].t (l[d].a+l[d].i)=((Zt l[d].t (l[d].a+l[d].i)).1,(Zt l[d].t (l[d].a+l[d].i)).2.1,(Zt l[d].t (l[d].a+l[d].i)).2.2):=rfl;rw[s0,hle]at hsp;have hw:(Zt l[d].t (l[d].a+l[d].i)).1=Jq l[d].t∧Zz l[d].t=(l[d].a+l[d].i).toNat:=by
  have hsp2:=hsp;unfold Zt at hsp2;rw[hsh,Zjt (show(0:Int)≤l[d].a+l[d].i by omega),if_pos (show(true && true)=true from rfl),if_neg (by omega)]at hsp2;cases e:Ju (l[d].a+l[d].i).toNat l[d].t with
  | none=>rw[e]at hsp2;simp at hsp2
  | some p=>
   rw[e]at hsp2;simp only[Prod.mk.injEq]at hsp2;obtain⟨p1,p2⟩:=p;obtain⟨w1,w2,w3⟩:=Zxz (Zh.1 hsh).2.2 e (by rw[show p2=_ from hsp2.2.1];exact fun h=>by cases h);refine⟨?_,w3⟩;unfold Zt;rw[hsh,Zjt (show(0:Int)≤l[d].a+l[d].i by omega),if_pos (show(true && true)=true from rfl),if_neg (by omega),e];exact w1
 rw[hw.1]at hsp;refine⟨f1,f2,f3,h16,hsp,by rw[(Zcy hsh).1,hw.2],hcl,hsh,fun q hq=> ?_⟩;obtain⟨e1,m,e2,hm,k2,k3,k4⟩:=Zia hb hq;obtain rfl:m=d+1+q:=by omega
 exact⟨hm,e2,k2,k3,k4⟩
def Zip (w:World)(lo hi:Nat)(r:RcT)(v1 v2:Value):Prop:=
 ∃F C G D,v1= .slice F r.ar.length C∧v2= .slice G r.ix.length D∧Ze w lo hi r.ar F C∧Ze w lo hi r.ix G D
theorem Zip.kept {w w':World}{lo hi B:Nat}{r:RcT}{v1 v2:Value}(h:Zip w lo hi r v1 v2)(hb:Below B w w')(hB:hi≤B):Zip w' lo hi r v1 v2:=by
 obtain⟨F,C,G,D,e1,e2,h1,h2⟩:=h;exact⟨F,C,G,D,e1,e2,h1.kept hb hB,h2.kept hb hB⟩
theorem Zip.wide {w:World}{lo hi lo' hi':Nat}{r:RcT}{v1 v2:Value}(h:Zip w lo hi r v1 v2)(h1:lo'≤lo)(h2:hi≤hi'):Zip w lo' hi' r v1 v2:=by
 obtain⟨F,C,G,D,e1,e2,q1,q2⟩:=h;exact⟨F,C,G,D,e1,e2,q1.wide h1 h2,q2.wide h1 h2⟩
def Z77 (w:World)(lo hi:Nat)(A:Option Addr)(rs:List RcT)(i:Nat)(h:i<rs.length):Prop:=
 ∃b o v1 v2,A=some ⟨b,o,none⟩∧lo≤b∧b<hi∧w.cell? ⟨b,o+i*3,none⟩=some (.bool rs[i].is)∧w.cell? ⟨b,o+i*3+1,none⟩=some v1∧w.cell? ⟨b,o+i*3+2,none⟩=some v2∧Zip w lo hi rs[i] v1 v2
def Zez (w:World)(lo hi:Nat)(A:Option Addr)(rs:List RcT):Prop:=∀i (h:i<rs.length),Z77 w lo hi A rs i h
theorem Zez.kept {w w':World}{lo hi B:Nat}{A:Option Addr}{rs:List RcT}(h:Zez w lo hi A rs)(hb:Below B w w')(hB:hi≤B):Zez w' lo hi A rs:=fun i hi'=>by
 obtain⟨b,o,v1,v2,hA,h1,h2,c0,c1,c2,hv⟩:=h i hi';have e:∀q,w'.cell? ⟨b,q,none⟩=w.cell? ⟨b,q,none⟩:=fun q=>hb.cell (p:=⟨b,q,none⟩) (by show b<B;omega);exact⟨b,o,v1,v2,hA,h1,h2,by rw[e,c0],by rw[e,c1],by rw[e,c2],hv.kept hb hB⟩
theorem Zez.wide {w:World}{lo hi lo' hi':Nat}{A:Option Addr}{rs:List RcT}(h:Zez w lo hi A rs)(h1:lo'≤lo)(h2:hi≤hi'):Zez w lo' hi' A rs:=fun i hi0=>by
 obtain⟨b,o,v1,v2,hA,q1,q2,c0,c1,c2,hv⟩:=h i hi0;exact⟨b,o,v1,v2,hA,by omega,by omega,c0,c1,c2,hv.wide h1 h2⟩
def Zen (w:World)(lo hi:Nat)(c:CoT)(v0 v1 v2:Value):Prop:=
 ∃F C G D H E,v0= .slice F c.args.length C∧v1= .slice G c.inds.length D∧v2= .slice H c.recs.length E∧Ze w lo hi c.args F C∧Ze w lo hi c.inds G D∧Zez w lo hi H c.recs∧c.recs.length≤E∧E≤maxLen
theorem Zen.kept {w w':World}{lo hi B:Nat}{c:CoT}{v0 v1 v2:Value}(h:Zen w lo hi c v0 v1 v2)(hb:Below B w w')(hB:hi≤B):Zen w' lo hi c v0 v1 v2:=by
 obtain⟨F,C,G,D,H,E,e0,e1,e2,h0,h1,h2,h3,h4⟩:=h;exact⟨F,C,G,D,H,E,e0,e1,e2,h0.kept hb hB,h1.kept hb hB,h2.kept hb hB,h3,h4⟩
theorem Zen.wide {w:World}{lo hi lo' hi':Nat}{c:CoT}{v0 v1 v2:Value}(h:Zen w lo hi c v0 v1 v2)(q1:lo'≤lo)(q2:hi≤hi'):Zen w lo' hi' c v0 v1 v2:=by
 obtain⟨F,C,G,D,H,E,e0,e1,e2,h0,h1,h2,h3,h4⟩:=h;exact⟨F,C,G,D,H,E,e0,e1,e2,h0.wide q1 q2,h1.wide q1 q2,h2.wide q1 q2,h3,h4⟩
theorem Zgy (w:World)(lo hi:Nat):Ze w lo hi [] none 0:=Zd.mk 0 0 [] none 0 (fun _=>none) (fun _=>0) Zo2 (by decide) (fun h=>by simp at h) (fun i h=>by simp at h)
theorem Z5f (w:World)(lo hi:Nat):Zez w lo hi none []:=fun i h=>absurd h (Nat.not_lt_zero i)
theorem Zen.zero (w:World)(lo hi:Nat):Zen w lo hi Zla (.slice none 0 0) (.slice none 0 0) (.slice none 0 0):=
 ⟨none,0,none,0,none,0,rfl,rfl,rfl,Zgy w lo hi,Zgy w lo hi,Z5f w lo hi,Qn _,Qm _⟩
theorem Zip.zero (w:World)(lo hi:Nat):Zip w lo hi Zbs (.slice none 0 0) (.slice none 0 0):=⟨none,0,none,0,rfl,rfl,Zgy w lo hi,Zgy w lo hi⟩
def Z73 (w:World)(lo hi:Nat)(A:Option Addr)(cs:List CoT)(i:Nat)(h:i<cs.length):Prop:=
 ∃b o v0 v1 v2,A=some ⟨b,o,none⟩∧lo≤b∧b<hi∧w.cell? ⟨b,o+i*3,none⟩=some v0∧w.cell? ⟨b,o+i*3+1,none⟩=some v1∧w.cell? ⟨b,o+i*3+2,none⟩=some v2∧Zen w lo hi cs[i] v0 v1 v2
def Zbi (w:World)(lo hi:Nat)(A:Option Addr)(cs:List CoT):Prop:=∀i (h:i<cs.length),Z73 w lo hi A cs i h
theorem Zbi.kept {w w':World}{lo hi B:Nat}{A:Option Addr}{cs:List CoT}(h:Zbi w lo hi A cs)(hb:Below B w w')(hB:hi≤B):Zbi w' lo hi A cs:=fun i hi'=>by
 obtain⟨b,o,v0,v1,v2,hA,h1,h2,c0,c1,c2,hv⟩:=h i hi';have e:∀q,w'.cell? ⟨b,q,none⟩=w.cell? ⟨b,q,none⟩:=fun q=>hb.cell (p:=⟨b,q,none⟩) (by show b<B;omega);exact⟨b,o,v0,v1,v2,hA,h1,h2,by rw[e,c0],by rw[e,c1],by rw[e,c2],hv.kept hb hB⟩
theorem Zbi.wide {w:World}{lo hi lo' hi':Nat}{A:Option Addr}{cs:List CoT}(h:Zbi w lo hi A cs)(h1:lo'≤lo)(h2:hi≤hi'):Zbi w lo' hi' A cs:=fun i hi0=>by
 obtain⟨b,o,v0,v1,v2,hA,q1,q2,c0,c1,c2,hv⟩:=h i hi0;exact⟨b,o,v0,v1,v2,hA,by omega,by omega,c0,c1,c2,hv.wide h1 h2⟩
structure J8 (w:World) (hi:Nat) (g:Nat) (l:List ET) (A B:Option Addr) (cap bap:Nat):Prop where
 gl:g<hi
 hl:hi≤w.heap.size
 c0:w.cell? ⟨g,0,none⟩=some (.slice A l.length cap)
 c1:w.cell? ⟨g,1,none⟩=some (.slice B l.length bap)
 ents:Zr w 0 hi A l
 cons:Zbi w 0 hi B (Zct l)
 fm:Zs l=true
 lc:l.length≤cap
theorem J8.kept {w w':World}{hi g:Nat}{l:List ET}{A B:Option Addr}{cap bap:Nat}(h:J8 w hi g l A B cap bap)(hb:Below hi w w'):J8 w' hi g l A B cap bap:=
 ⟨h.gl,by have:=h.hl;have:=hb.size;omega,(hb.cell (p:=⟨g,0,none⟩) h.gl).trans h.c0,(hb.cell (p:=⟨g,1,none⟩) h.gl).trans h.c1,h.ents.kept hb Zo2,h.cons.kept hb Zo2,h.fm,h.lc⟩
theorem J8.below {w w':World}{hi g:Nat}{l:List ET}{A B:Option Addr}{cap bap:Nat}(h:J8 w hi g l A B cap bap)(hb:Below w.heap.size w w'):J8 w' hi g l A B cap bap:=h.kept (hb.mono h.hl)
theorem J8.con {w:World}{hi g:Nat}{l:List ET}{A B:Option Addr}{cap bap:Nat}(h:J8 w hi g l A B cap bap){m:Nat}(hm:m<l.length)(hk:l[m].k=2):
  ∃b o v0 v1 v2,B=some ⟨b,o,none⟩∧b<hi∧w.cell? ⟨b,o+m*3,none⟩=some v0∧w.cell? ⟨b,o+m*3+1,none⟩=some v1∧w.cell? ⟨b,o+m*3+2,none⟩=some v2∧Zen w 0 hi (Zj l m) v0 v1 v2:=by
 obtain⟨b,o,v0,v1,v2,hA,_,h2,c0,c1,c2,hv⟩:=h.cons m (by rw[Zln];exact hm);rw[Zq8]at hv;unfold Zho at hv;rw[Zdg hm,Zjt hk,if_pos rfl]at hv;exact⟨b,o,v0,v1,v2,hA,h2,c0,c1,c2,hv⟩
theorem Zy1 {t:TM}(h:Zg t=true):t.k≠0:=by
 obtain⟨k,n,l⟩:=t;intro e;obtain rfl:k=0:=e;rw[Zo,Qa]at h;have:=h.1;revert this
 unfold Zad;simp
theorem Zrb {t:TM}(h:Zg t=true):∀u∈t.l,Zg u=true:=by
 obtain⟨k,n,l⟩:=t;exact(Zdv h).2.2.2.2.2.2
theorem Zd.avoid {w:World}{P:Nat→Prop}{g:Nat}(hx:∀o k,w.cell? ⟨g,o,none⟩=some (.int .i64 k)→k=0∨∀q,w.cell? ⟨g,o+1,none⟩≠some (.int .i64 q)):∀{t:TM} {A:Option Addr} {cap:Nat},
  Zd w P t A cap→(∀u∈t.l,Zg u=true)→Zd w (fun b=>P b∧b≠g) t A cap:=by
 intro t A cap h;induction h with
 | mk k n l A cap F C hl hm hc _ ih=>
  intro hg;refine .mk k n l A cap F C hl hm (fun h0=> ?_) (fun i h=>ih i h (Zrb (hg _ (show l[i]∈l from Qf h))));obtain⟨b,o,hA,hb,hcs⟩:=hc h0;refine⟨b,o,hA,⟨hb,fun e=> ?_⟩,hcs⟩;subst e;obtain⟨x0,x1,_⟩:=hcs 0 h0;rcases hx _ _ x0 with h|h
  ·exact Zy1 (hg _ (show l[0]∈l from Qf h0)) h
  ·exact h _ x1
theorem Bk.noZero {w:World}{g:Nat}{e:TypeId}(h:Bk w g e #[.int .i64 0,.int .i64 0,.slice none 0 0]):∀o k,w.cell? ⟨g,o,none⟩=some (.int .i64 k)→k=0∨∀q,w.cell? ⟨g,o+1,none⟩≠some (.int .i64 q):=by
 intro o k hk;rw[h.cell]at hk
 match o,hk with
 | 0,hk=>left;injection hk with hk;injection hk with _ hk;exact hk.symm
 | 1,hk=>left;injection hk with hk;injection hk with _ hk;exact hk.symm
 | 2,hk=>injection hk with hk;cases hk
 | o+3,hk=>simp at hk
theorem Za.free {w:World}{lo hi g:Nat}{t:TM}{A:Option Addr}{cap:Nat}{e:TypeId}(h:Za w lo hi t A cap)(hg:∀u∈t.l,Zg u=true)(hk:Bk w g e #[.int .i64 0,.int .i64 0,.slice none 0 0]):Zd w (fun b=>(lo≤b∧b<hi)∧b≠g) t A cap:=
 Zd.avoid hk.noZero h hg
theorem Below.al {w V:World}(h:Below w.heap.size w V)(o:Obj):Below w.heap.size w (V.alloc o):=h.alloc h.size o
theorem Below.st {w V:World}{g q:Nat}(h:Below w.heap.size w V)(hg:w.heap.size≤g)(u:Value):Below w.heap.size w (V.setCell ⟨g,q,none⟩ u):=h.setCell hg u
theorem Below.dr {w V:World}(h:Below w.heap.size w V):Below w.heap.size w V.drew:=h.drew
theorem Bk.dr {w:World}{g:Nat}{e:TypeId}{cs:Array Value}(h:Bk w g e cs):Bk w.drew g e cs:=h.below ((Below.refl w.heap.size w).drew) h.lt
theorem Bk.al {w:World}{g:Nat}{e:TypeId}{cs:Array Value}(h:Bk w g e cs)(o:Obj):Bk (w.alloc o) g e cs:=h.alloc o
