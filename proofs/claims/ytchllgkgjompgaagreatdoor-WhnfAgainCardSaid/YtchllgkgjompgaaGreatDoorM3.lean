import Derived.Test.YtchllgkgjompgaaGreatDoorM2
import Derived.Deep.RegionHeld3
import Derived.Deep.QuietTactic
import Derived.BigQuiet
import Derived.Test.YtchllgkgjompgaaGreatDoorM1
namespace Go.Proofs.YtchllgkgjompgaaGreatDoor
set_option maxHeartbeats 2000000
set_option maxRecDepth 100000
open Go.RowKit
set_option linter.unusedVariables false
open Lib(hid)
open Go.Proofs.Tryz
theorem lrM3{n:Nat}:n≤n:=Nat.le_refl n
def bnd (k:Int) (i:Nat):Int:=if i=1∧(k=3∨k=4)then 1 else 0
theorem bnd_01 (k:Int) (i:Nat):0≤bnd k i∧bnd k i≤1:=by unfold bnd;split<;>omega
theorem shm_bnd {K i:Nat} (h1:1≤K) (h2:K≤8) (hi:i<2):shm K (3+i)=bnd (K:Int) i:=by
 have h:i=0∨i=1:=by omega
 rcases h with rfl|rfl<;>rcases kind_m h1 h2 with rfl|rfl|rfl|rfl|rfl|rfl|rfl|rfl<;>rfl
section
variable {S:Type}
mutual
def foldT (f:S→TM→Int→S) (p:S):TM→Int→S
 | .node k n l,x=>foldM f (f p (.node k n l) x) k 0 l x
def foldM (f:S→TM→Int→S) (p:S) (k:Int) (i:Nat):List TM→Int→S
 | [],_=>p
 | t::r,x=>foldM f (foldT f p t (x+bnd k i)) k (i+1) r x
end
theorem foldT_node (f:S→TM→Int→S) (p:S) (k n:Int) (l:List TM) (x:Int):foldT f p (.node k n l) x=foldM f (f p (.node k n l) x) k 0 l x:=by rw[foldT]
theorem foldM_nil (f:S→TM→Int→S) (p:S) (k:Int) (i:Nat) (x:Int):foldM f p k i [] x=p:=by rw[foldM]
theorem foldM_cons (f:S→TM→Int→S) (p:S) (k:Int) (i:Nat) (t:TM) (r:List TM) (x:Int):foldM f p k i (t::r) x=foldM f (foldT f p t (x+bnd k i)) k (i+1) r x:=by rw[foldM]
theorem foldM_snoc (f:S→TM→Int→S):∀(l:List TM) (p:S) (k:Int) (i:Nat) (t:TM) (x:Int),foldM f p k i (l++[t]) x=foldT f (foldM f p k i l x) t (x+bnd k (i+l.length))
 | [],p,k,i,t,x=>by rw[List.nil_append,foldM_cons,foldM_nil,foldM_nil];rfl
 | u::l,p,k,i,t,x=>by
  rw[List.cons_append,foldM_cons,foldM_snoc f l,foldM_cons];have e:i+1+l.length=i+(u::l).length:=by simp;omega
  rw[e]
theorem foldM_take (f:S→TM→Int→S) (p:S) (k:Int) (x:Int) {l:List TM} {i:Nat} (h:i<l.length):foldM f p k 0 (l.take (i+1)) x=foldT f (foldM f p k 0 (l.take i) x) l[i] (x+bnd k i):=by
 rw[take_snocM h,foldM_snoc];have e:0+(l.take i).length=i:=by simp;omega
 rw[e]
theorem foldM_cnt {f:S→TM→Int→S} {c:S→Nat} (hc:∀p t x,c (f p t x)≤c p+1):∀(t:TM) (p:S) (x:Int),c (foldT f p t x)≤c p+t.size:=by
 intro t;induction t using TM.ind with
 | h k n l ih=>
  intro p x;have hL:∀(r:List TM),(∀u∈r,u∈l)→∀(i:Nat) (q:S),c (foldM f q k i r x)≤c q+sizeM r:=by
   intro r;induction r with
   | nil=>intro _ i q;rw[foldM_nil];omega
   | cons u r ihr=>
    intro hm i q;rw[foldM_cons,sizeM_cons];have h1:=ihr (fun v hv=>hm v (List.mem_cons_of_mem _ hv)) (i+1) (foldT f q u (x+bnd k i));have h2:=ih u (hm u List.mem_cons_self) q (x+bnd k i);omega
  rw[foldT_node,tsize_node];have h1:=hL l (fun _ h=>h) 0 (f p (.node k n l) x);have h2:=hc p (.node k n l) x;omega
theorem foldM_cntL {f:S→TM→Int→S} {c:S→Nat} (hc:∀p t x,c (f p t x)≤c p+1) (k x:Int):∀(r:List TM) (i:Nat) (q:S),c (foldM f q k i r x)≤c q+sizeM r
 | [],i,q=>by rw[foldM_nil];omega
 | u::r,i,q=>by
  rw[foldM_cons,sizeM_cons];have h1:=foldM_cntL hc k x r (i+1) (foldT f q u (x+bnd k i));have h2:=foldM_cnt hc u q (x+bnd k i);omega
structure Aside (T:Nat→Prop) (w w':World):Prop where
 os:w'.os=w.os
 tape:w'.tape=w.tape
 output:w'.output=w.output
 size:w.heap.size≤w'.heap.size
 block:∀k,k<w.heap.size→ ¬ T k→w'.heap[k]? =w.heap[k]?
theorem Aside.of_below {T:Nat→Prop} {w w':World} (h:Below w.heap.size w w'):Aside T w w':=⟨h.os,h.tape,h.output,h.size,fun k hk _=>h.block k hk⟩
theorem Aside.trans {T T':Nat→Prop} {a b c:World} (h:Aside T a b) (k:Aside T' b c) (ht:∀i,T' i→T i∨a.heap.size≤i):Aside T a c:=
 ⟨k.os.trans h.os,k.tape.trans h.tape,k.output.trans h.output,Nat.le_trans h.size k.size,fun i hi hp=>(k.block i (Nat.lt_of_lt_of_le hi h.size) (fun e=>(ht i e).elim hp (fun h=>by omega))).trans (h.block i hi hp)⟩
theorem Aside.below {T:Nat→Prop} {B:Nat} {w w':World} (h:Aside T w w') (hT:∀k,T k→B≤k) (hB:B≤w.heap.size):Below B w w':=
 ⟨h.os,h.tape,h.output,h.size,fun k hk=>h.block k (by omega) (fun e=>by have:=hT k e;omega)⟩
theorem Aside.cell {T:Nat→Prop} {w w':World} (h:Aside T w w') {b o:Nat} (hb:b<w.heap.size) (ht: ¬ T b):w'.cell? ⟨b,o,none⟩=w.cell? ⟨b,o,none⟩:=World.cell?_of_block (a:=⟨b,o,none⟩) (h.block b hb ht)
def TellIs (I:S→Value→World→Prop) (T:Value→Nat→Prop) (q:S) (v:Value) (w:World) (e:Ending) (w':World):Prop:=e= .returned (.tuple #[])∧∃v',I q v' w'∧Aside (T v) w w'∧∀k,T v' k→T v k∨w.heap.size≤k
structure Teller (B:Nat) (g:FuncId) (cs:List Value) (I:S→Value→World→Prop) (T:Value→Nat→Prop) (f:S→TM→Int→S) (c:S→Nat):Prop where
 cnt:∀p t x,c (f p t x)≤c p+1
 keep:∀p v w w',I p v w→Below w.heap.size w w'→I p v w'
 lt:∀p v w,I p v w→∀k,T v k→B≤k∧k<w.heap.size
 call:∀(t:TM) (x:Int) (lo hi:Nat) (A:Option Addr) (cap:Nat) (p:S) (v:Value) (w:World),I p v w→IsTerm w lo hi t A cap→hi≤B→B≤w.heap.size→0≤x→x≤128→0≤t.n→t.n≤1048576→c p≤8191→
  Calls prog g (⟨termV t A cap:: .int .i64 x::cs⟩:Array Value) w (TellIs I T (f p t x) v w)
end
def EachIs {S:Type} (I:S→Value→World→Prop) (T:Value→Nat→Prop) (q:S) (v:Value) (w:World) (e:Ending) (w':World):Prop:=e= .returned (.tuple #[])∧∃v',I q v' w'∧Aside (T v) w w'∧∀k,T v' k→T v k∨w.heap.size≤k
def EachRel {S:Type} (I:S→Value→World→Prop) (T:Value→Nat→Prop) (f:S→TM→Int→S) (p:S) (v:Value) (w:World) (k:Int) (l:List TM) (x:Int) (iv:Value) (wr:World):Prop:=
 ∃(i:Nat) (v':Value),i≤l.length∧iv= .int .i64 i∧I (foldM f p k 0 (l.take i) x) v' wr∧Aside (T v) w wr∧(∀k,T v' k→T v k∨w.heap.size<k)∧wr.cell? ⟨w.heap.size,0,none⟩=some (.int .i64 k)∧w.heap.size<wr.heap.size
theorem each_right {S:Type} {B:Nat} (a0 a1 a2:Addr) {I:S→Value→World→Prop} {T:Value→Nat→Prop} {f:S→TM→Int→S} {c:S→Nat} (ht:Teller B 108 [.pointer (some a0),.pointer (some a1),.pointer (some a2)] I T f c):
    ∀(t:TM) (x:Int) (lo hi:Nat) (A:Option Addr) (cap:Nat) (p:S) (v:Value) (w:World),I p v w→IsTerm w lo hi t A cap→hi≤B→B≤w.heap.size→0≤x→x+t.depth≤129→tgoodB t=true→ShapesM w→0<B→c p+t.size≤8192→
    Calls prog 107 #[termV t A cap,.int .i64 x,.func (.func 108) #[] #[.pointer (some a0),.pointer (some a1),.pointer (some a2)]] w (EachIs I T (foldT f p t x) v w):=by
  intro t;induction t using TM.ind with
  | h k n l ih=>
    intro x lo hi A cap p v w hI h hhi hBw hx0 hx1 hg hS hgB hcnt;rw[tsize_node]at hcnt;obtain⟨hl,hm⟩:=h.bounds;rw[tgoodB_node,Bool.and_eq_true]at hg;rw[tdepth_node]at hx1;obtain⟨hk1,hk8,hlen,hn0,hn1,_⟩:=ttop_facts hg.1;have hmost:mostM k≤1048576:=by unfold mostM;split;omega;split<;>omega
    have hl2:=manyM_le k;obtain⟨K,rfl⟩:∃K:Nat,k=(K:Int):=⟨k.toNat,by omega⟩;have HFACT:Hid (1≤K∧K≤8∧tgoodL l=true∧x+depthM l≤128):=hid ⟨by omega,by omega,hg.2,by omega⟩;have HX:Hid (0≤x∧x≤128):=hid ⟨hx0,by omega⟩;have hK0:(0:Int)≤(K:Int):=by omega
    have hK9:(K:Int)<9:=by omega
    have hK9':K<9:=by omega
    have hll:l.length≤2:=by omega
    have HW1:=hid (fun o1=>((Below.refl w.heap.size w).alloc lrM3 o1));have HC1:=hid (fun o1=>ht.call (.node K n l) x lo hi A cap p v (w.alloc o1) (ht.keep _ _ _ _ hI (HW1.out o1)) (h.alloc (by omega) o1) hhi (by simp;omega) hx0 (by omega) hn0 (by show n≤_;omega) (by omega));have IH:=hid ih;have HN:=hid h.sub;have HT:=hid ht;have HLT:=hid (ht.lt _ _ _ hI);have HBW:=hid hBw;have HHI:=hid hhi;have HSS:=hid hS;have HGB:=hid hgB;unfold maxLen at hm;rw[foldT_node];have hc1:=ht.cnt p (.node K n l) x;obtain⟨p1,hp1⟩:∃p1,f p (.node K n l) x=p1:=⟨_,rfl⟩;rw[hp1]at HC1 hc1⊢;have HCN:Hid (c p1+sizeM l≤8192):=hid (by omega);rw[termV_node]at HC1⊢;have hx2:x≤128:=by omega
    clear ih h hI ht hS hBw hhi hgB hg hk1 hk8 hlen hn0 hn1 hmost hl2 hp1 hx1 hc1 hcnt;go_enter func107,ntmps107;go_wp2_with fail;refine(HC1.out _).mono ?_;rintro e w1 ⟨rfl,v1,hI1,hA1,hT1⟩;have hz1:=hA1.size;simp at hz1;have hnT: ¬ T v w.heap.size:=fun e=>by have:=(HLT.out _ e).2;omega
    have hc0:w1.cell? ⟨w.heap.size,0,none⟩=some (.int .i64 (K:Int)):=(hA1.cell (by simp) hnT).trans (by simp);have hc2:w1.cell? ⟨w.heap.size,2,none⟩=some (.slice A l.length cap):=(hA1.cell (by simp) hnT).trans (by simp);have hA1':Aside (T v) w w1:=(Aside.of_below (T:=T v) (HW1.out _)).trans hA1 (fun i h=> .inl h);have hT1':∀k,T v1 k→T v k∨w.heap.size<k:=fun k hk=>(hT1 k hk).imp id (fun h=>by simp at h;omega);have HI1:=hid hI1;have HA1:=hid hA1';have HT1:=hid hT1';clear hI1 hA1 hT1 hnT hA1' hT1';go_wp2_with fail;go_loopw [15] (EachRel I T f p1 v w K l x) (fun iv _=>l.length - (intOf iv).toNat)
    case atStart=>exact⟨0,v1,Nat.zero_le _,rfl,by rw[List.take_zero,foldM_nil];exact HI1.out,HA1.out,HT1.out,hc0,by omega⟩
    case round=>
      obtain⟨i,v2,hi1,rfl,hI2,hA2,hT2,y0,hlt⟩:=hrel;clear hc0 hc2 HI1 HA1 HT1 HC1;have HI2:=hid hI2;have HA2:=hid hA2;have HT2:=hid hT2;have hB2:Below B w wr:=hA2.below (fun k hk=>(HLT.out k hk).1) HBW.out;have hz:=hB2.size;clear hI2 hA2 hT2;by_cases hil:i<l.length
      · obtain⟨b,o,F,C,rfl,hb1,hb2,hx',hnode⟩:=(HN.out i hil).kept hB2 HHI.out;obtain⟨x0,x1,x2⟩:=hx';have hi2:i<2:=by omega
        have hi2':(i:Int)<2:=by omega
        have hi0':(0:Int)≤(i:Int):=by omega
        have hil':(i:Int)<(l.length:Int):=by omega
        have hbw:b<wr.heap.size:=by have:=HHI.out;have:=HBW.out;omega
        have hsh:wr.cell? ⟨0,K*5+3+i,none⟩=some (.int .i64 (bnd K i)):=by
          have h1:=HSS.out.below hB2 HGB.out K (3+i) hK9' (by omega);rw[shm_bnd HFACT.out.1 HFACT.out.2.1 hi2]at h1;rw[←h1,Nat.add_assoc]
        have hb01:=bnd_01 (K:Int) i;have hstep:=foldM_take f p1 (K:Int) x hil;have hdep:l[i].depth≤depthM l:=by
          have h1:=depthM_append (l.take (i+1)) (l.drop (i+1));rw[List.take_append_drop,depthM_snoc hil]at h1;omega
        obtain⟨bb,hbb⟩:∃bb,bnd (K:Int) i=bb:=⟨_,rfl⟩;rw[hbb]at hsh hb01 hstep;have hcn:c (foldM f p1 (K:Int) 0 (l.take i) x)+l[i].size≤8192:=by
          have h1:=foldM_cntL HT.out.cnt (K:Int) x (l.take i) 0 p1;have h2:=sizeM_snoc hil;have h3:=sizeM_take_le l (i+1);have h4:=HCN.out;omega
        have hIH:=fun W h1 h2 h3 h4=>IH.out (l[i]'hil) (List.getElem_mem hil) (x+bb) lo hi F C (foldM f p1 (K:Int) 0 (l.take i) x) v2 W h1 h2 HHI.out h3 (by have:=HX.out;omega) (by have:=HFACT.out.2.2.2;omega) (tgoodL_at HFACT.out.2.2.1 hil) h4 HGB.out hcn;rw[←hstep]at hIH;have HC:=hid hIH;have HNO:=hid hnode;have HWA:=hid (fun o1=>((Below.refl wr.heap.size wr).alloc lrM3 o1));have hW1:IntKind.i64.wrap (x+bb)=x+bb:=IntWalk.i64_in _ (by have:=HX.out;omega);have hg0:0<wr.heap.size:=by have:=HGB.out;have:=HBW.out;omega
        have hHS:=HSS.out.below hB2 HGB.out;have HHS:=hid hHS;have HBR:=hid (Nat.le_trans HBW.out hz);obtain⟨u,hu⟩:∃u,l[i]=u:=⟨_,rfl⟩;rw[hu]at x0 x1 x2 HC HNO;have hn1: ¬ T v2 w.heap.size:=fun e=>by
          rcases HT2.out _ e with h|h
          · have:=(HLT.out _ h).2;omega
          · omega
        have hn2: ¬ T v2 0:=fun e=>by
          have:=HGB.out;have:=HBW.out;rcases HT2.out _ e with h|h
          · have:=(HLT.out _ h).1;omega
          · omega
        have hn3: ¬ T v2 wr.heap.size:=fun e=>by have:=(HT.out.lt _ _ _ HI2.out _ e).2;omega
        have hq1:∀o1,((wr.alloc o1).drew).cell? ⟨w.heap.size,0,none⟩=some (.int .i64 (K:Int)):=fun o1=>(World.cell?_alloc_lt _ _ _ hlt).trans y0;have hq2:∀o1,((wr.alloc o1).drew).cell? ⟨0,K*5+3+i,none⟩=some (.int .i64 bb):=fun o1=>(World.cell?_alloc_lt _ _ _ hg0).trans hsh;clear hcn hIH hnode hstep hdep hbb hHS IH HN hb01 hu hB2;go_wp2_with fail;go_region_held3 (fun w'=>w'.cell? ⟨w.heap.size,0,none⟩=some (.int .i64 (K:Int))∧w'.cell? ⟨0,K*5+3+i,none⟩=some (.int .i64 bb)∧
              w'.cell? ⟨wr.heap.size,0,none⟩=some (.int .i64 u.k)∧w'.cell? ⟨wr.heap.size,1,none⟩=some (.int .i64 u.n)∧w'.cell? ⟨wr.heap.size,2,none⟩=some (.slice F u.l.length C))
            (first|go_keep|(refine⟨?_, ?_, ?_, ?_, ?_⟩<;>first|(rw[hA3.cell (by simp<;>omega) hn1];exact hq1 _)|(rw[hA3.cell (by simp<;>omega) hn2];exact hq2 _)|(rw[hA3.cell (by simp<;>omega) hn3];simp)))
            (first|(go_at_call 107;refine(HC.out _ (HT.out.keep _ _ _ _ HI2.out ((HWA.out _).drew)) (HNO.out.kept ((HWA.out _).drew) (by have:=HHI.out;have:=HBR.out;omega)) (by simp;have:=HBR.out;omega) (HHS.out.kept ((HWA.out _).drew))).mono ?_;rintro e w3 ⟨rfl,v3,hI3,hA3,hT3⟩))
        have hz3:=hA3.size;simp at hz3;have hy3:w3.cell? ⟨w.heap.size,0,none⟩=some (.int .i64 (K:Int)):=(hA3.cell (by simp;omega) hn1).trans (hq1 _);have hA3':Aside (T v) w w3:=(HA2.out.trans (Aside.of_below (T:=T v2) ((HWA.out _).drew)) (fun i h=>(HT2.out i h).imp id (fun h=>by omega))).trans hA3 (fun i h=>(HT2.out i h).imp id (fun h=>by omega));have hT3':∀k,T v3 k→T v k∨w.heap.size<k:=fun k hk=>by
          rcases hT3 k hk with h|h
          · exact HT2.out k h
          · simp at h;right;omega
        have HI3:=hid hI3;have HA3:=hid hA3';have HT3:=hid hT3';clear hq1 hq2 hI3 hA3 hT3 hn1 hn2 hn3 hA3' hT3' y0 x0 x1 x2 hsh;go_wp2_with fail;go_roundw
        case rel=>exact⟨i+1,v3,by omega,rfl,HI3.out,HA3.out,HT3.out,hy3,by omega⟩
        case measure=>simp[intOf];omega
      · obtain rfl:i=l.length:=by omega
        rw[List.take_length]at HI2;go_wp2_with fail;go_end0
        exact⟨rfl,v2,HI2.out,HA2.out,fun k hk=>(HT2.out k hk).imp id (fun h=>by omega)⟩
theorem each_numbers {S:Type} {B:Nat} (a0 a1:Addr) {I:S→Value→World→Prop} {T:Value→Nat→Prop} {f:S→TM→Int→S} {c:S→Nat} (ht:Teller B 230 [.pointer (some a0),.pointer (some a1)] I T f c):
    ∀(t:TM) (x:Int) (lo hi:Nat) (A:Option Addr) (cap:Nat) (p:S) (v:Value) (w:World),I p v w→IsTerm w lo hi t A cap→hi≤B→B≤w.heap.size→0≤x→x+t.depth≤129→tgoodB t=true→ShapesM w→0<B→c p+t.size≤8192→
    Calls prog 107 #[termV t A cap,.int .i64 x,.func (.func 230) #[] #[.pointer (some a0),.pointer (some a1)]] w (EachIs I T (foldT f p t x) v w):=by
  intro t;induction t using TM.ind with
  | h k n l ih=>
    intro x lo hi A cap p v w hI h hhi hBw hx0 hx1 hg hS hgB hcnt;rw[tsize_node]at hcnt;obtain⟨hl,hm⟩:=h.bounds;rw[tgoodB_node,Bool.and_eq_true]at hg;rw[tdepth_node]at hx1;obtain⟨hk1,hk8,hlen,hn0,hn1,_⟩:=ttop_facts hg.1;have hmost:mostM k≤1048576:=by unfold mostM;split;omega;split<;>omega
    have hl2:=manyM_le k;obtain⟨K,rfl⟩:∃K:Nat,k=(K:Int):=⟨k.toNat,by omega⟩;have HFACT:Hid (1≤K∧K≤8∧tgoodL l=true∧x+depthM l≤128):=hid ⟨by omega,by omega,hg.2,by omega⟩;have HX:Hid (0≤x∧x≤128):=hid ⟨hx0,by omega⟩;have hK0:(0:Int)≤(K:Int):=by omega
    have hK9:(K:Int)<9:=by omega
    have hK9':K<9:=by omega
    have hll:l.length≤2:=by omega
    have HW1:=hid (fun o1=>((Below.refl w.heap.size w).alloc lrM3 o1));have HC1:=hid (fun o1=>ht.call (.node K n l) x lo hi A cap p v (w.alloc o1) (ht.keep _ _ _ _ hI (HW1.out o1)) (h.alloc (by omega) o1) hhi (by simp;omega) hx0 (by omega) hn0 (by show n≤_;omega) (by omega));have IH:=hid ih;have HN:=hid h.sub;have HT:=hid ht;have HLT:=hid (ht.lt _ _ _ hI);have HBW:=hid hBw;have HHI:=hid hhi;have HSS:=hid hS;have HGB:=hid hgB;unfold maxLen at hm;rw[foldT_node];have hc1:=ht.cnt p (.node K n l) x;obtain⟨p1,hp1⟩:∃p1,f p (.node K n l) x=p1:=⟨_,rfl⟩;rw[hp1]at HC1 hc1⊢;have HCN:Hid (c p1+sizeM l≤8192):=hid (by omega);rw[termV_node]at HC1⊢;have hx2:x≤128:=by omega
    clear ih h hI ht hS hBw hhi hgB hg hk1 hk8 hlen hn0 hn1 hmost hl2 hp1 hx1 hc1 hcnt;go_enter func107,ntmps107;go_wp2_with fail;refine(HC1.out _).mono ?_;rintro e w1 ⟨rfl,v1,hI1,hA1,hT1⟩;have hz1:=hA1.size;simp at hz1;have hnT: ¬ T v w.heap.size:=fun e=>by have:=(HLT.out _ e).2;omega
    have hc0:w1.cell? ⟨w.heap.size,0,none⟩=some (.int .i64 (K:Int)):=(hA1.cell (by simp) hnT).trans (by simp);have hc2:w1.cell? ⟨w.heap.size,2,none⟩=some (.slice A l.length cap):=(hA1.cell (by simp) hnT).trans (by simp);have hA1':Aside (T v) w w1:=(Aside.of_below (T:=T v) (HW1.out _)).trans hA1 (fun i h=> .inl h);have hT1':∀k,T v1 k→T v k∨w.heap.size<k:=fun k hk=>(hT1 k hk).imp id (fun h=>by simp at h;omega);have HI1:=hid hI1;have HA1:=hid hA1';have HT1:=hid hT1';clear hI1 hA1 hT1 hnT hA1' hT1';go_wp2_with fail;go_loopw [15] (EachRel I T f p1 v w K l x) (fun iv _=>l.length - (intOf iv).toNat)
    case atStart=>exact⟨0,v1,Nat.zero_le _,rfl,by rw[List.take_zero,foldM_nil];exact HI1.out,HA1.out,HT1.out,hc0,by omega⟩
    case round=>
      obtain⟨i,v2,hi1,rfl,hI2,hA2,hT2,y0,hlt⟩:=hrel;clear hc0 hc2 HI1 HA1 HT1 HC1;have HI2:=hid hI2;have HA2:=hid hA2;have HT2:=hid hT2;have hB2:Below B w wr:=hA2.below (fun k hk=>(HLT.out k hk).1) HBW.out;have hz:=hB2.size;clear hI2 hA2 hT2;by_cases hil:i<l.length
      · obtain⟨b,o,F,C,rfl,hb1,hb2,hx',hnode⟩:=(HN.out i hil).kept hB2 HHI.out;obtain⟨x0,x1,x2⟩:=hx';have hi2:i<2:=by omega
        have hi2':(i:Int)<2:=by omega
        have hi0':(0:Int)≤(i:Int):=by omega
        have hil':(i:Int)<(l.length:Int):=by omega
        have hbw:b<wr.heap.size:=by have:=HHI.out;have:=HBW.out;omega
        have hsh:wr.cell? ⟨0,K*5+3+i,none⟩=some (.int .i64 (bnd K i)):=by
          have h1:=HSS.out.below hB2 HGB.out K (3+i) hK9' (by omega);rw[shm_bnd HFACT.out.1 HFACT.out.2.1 hi2]at h1;rw[←h1,Nat.add_assoc]
        have hb01:=bnd_01 (K:Int) i;have hstep:=foldM_take f p1 (K:Int) x hil;have hdep:l[i].depth≤depthM l:=by
          have h1:=depthM_append (l.take (i+1)) (l.drop (i+1));rw[List.take_append_drop,depthM_snoc hil]at h1;omega
        obtain⟨bb,hbb⟩:∃bb,bnd (K:Int) i=bb:=⟨_,rfl⟩;rw[hbb]at hsh hb01 hstep;have hcn:c (foldM f p1 (K:Int) 0 (l.take i) x)+l[i].size≤8192:=by
          have h1:=foldM_cntL HT.out.cnt (K:Int) x (l.take i) 0 p1;have h2:=sizeM_snoc hil;have h3:=sizeM_take_le l (i+1);have h4:=HCN.out;omega
        have hIH:=fun W h1 h2 h3 h4=>IH.out (l[i]'hil) (List.getElem_mem hil) (x+bb) lo hi F C (foldM f p1 (K:Int) 0 (l.take i) x) v2 W h1 h2 HHI.out h3 (by have:=HX.out;omega) (by have:=HFACT.out.2.2.2;omega) (tgoodL_at HFACT.out.2.2.1 hil) h4 HGB.out hcn;rw[←hstep]at hIH;have HC:=hid hIH;have HNO:=hid hnode;have HWA:=hid (fun o1=>((Below.refl wr.heap.size wr).alloc lrM3 o1));have hW1:IntKind.i64.wrap (x+bb)=x+bb:=IntWalk.i64_in _ (by have:=HX.out;omega);have hg0:0<wr.heap.size:=by have:=HGB.out;have:=HBW.out;omega
        have hHS:=HSS.out.below hB2 HGB.out;have HHS:=hid hHS;have HBR:=hid (Nat.le_trans HBW.out hz);obtain⟨u,hu⟩:∃u,l[i]=u:=⟨_,rfl⟩;rw[hu]at x0 x1 x2 HC HNO;have hn1: ¬ T v2 w.heap.size:=fun e=>by
          rcases HT2.out _ e with h|h
          · have:=(HLT.out _ h).2;omega
          · omega
        have hn2: ¬ T v2 0:=fun e=>by
          have:=HGB.out;have:=HBW.out;rcases HT2.out _ e with h|h
          · have:=(HLT.out _ h).1;omega
          · omega
        have hn3: ¬ T v2 wr.heap.size:=fun e=>by have:=(HT.out.lt _ _ _ HI2.out _ e).2;omega
        have hq1:∀o1,((wr.alloc o1).drew).cell? ⟨w.heap.size,0,none⟩=some (.int .i64 (K:Int)):=fun o1=>(World.cell?_alloc_lt _ _ _ hlt).trans y0;have hq2:∀o1,((wr.alloc o1).drew).cell? ⟨0,K*5+3+i,none⟩=some (.int .i64 bb):=fun o1=>(World.cell?_alloc_lt _ _ _ hg0).trans hsh;clear hcn hIH hnode hstep hdep hbb hHS IH HN hb01 hu hB2;go_wp2_with fail;go_region_held3 (fun w'=>w'.cell? ⟨w.heap.size,0,none⟩=some (.int .i64 (K:Int))∧w'.cell? ⟨0,K*5+3+i,none⟩=some (.int .i64 bb)∧
              w'.cell? ⟨wr.heap.size,0,none⟩=some (.int .i64 u.k)∧w'.cell? ⟨wr.heap.size,1,none⟩=some (.int .i64 u.n)∧w'.cell? ⟨wr.heap.size,2,none⟩=some (.slice F u.l.length C))
            (first|go_keep|(refine⟨?_, ?_, ?_, ?_, ?_⟩<;>first|(rw[hA3.cell (by simp<;>omega) hn1];exact hq1 _)|(rw[hA3.cell (by simp<;>omega) hn2];exact hq2 _)|(rw[hA3.cell (by simp<;>omega) hn3];simp)))
            (first|(go_at_call 107;refine(HC.out _ (HT.out.keep _ _ _ _ HI2.out ((HWA.out _).drew)) (HNO.out.kept ((HWA.out _).drew) (by have:=HHI.out;have:=HBR.out;omega)) (by simp;have:=HBR.out;omega) (HHS.out.kept ((HWA.out _).drew))).mono ?_;rintro e w3 ⟨rfl,v3,hI3,hA3,hT3⟩))
        have hz3:=hA3.size;simp at hz3;have hy3:w3.cell? ⟨w.heap.size,0,none⟩=some (.int .i64 (K:Int)):=(hA3.cell (by simp;omega) hn1).trans (hq1 _);have hA3':Aside (T v) w w3:=(HA2.out.trans (Aside.of_below (T:=T v2) ((HWA.out _).drew)) (fun i h=>(HT2.out i h).imp id (fun h=>by omega))).trans hA3 (fun i h=>(HT2.out i h).imp id (fun h=>by omega));have hT3':∀k,T v3 k→T v k∨w.heap.size<k:=fun k hk=>by
          rcases hT3 k hk with h|h
          · exact HT2.out k h
          · simp at h;right;omega
        have HI3:=hid hI3;have HA3:=hid hA3';have HT3:=hid hT3';clear hq1 hq2 hI3 hA3 hT3 hn1 hn2 hn3 hA3' hT3' y0 x0 x1 x2 hsh;go_wp2_with fail;go_roundw
        case rel=>exact⟨i+1,v3,by omega,rfl,HI3.out,HA3.out,HT3.out,hy3,by omega⟩
        case measure=>simp[intOf];omega
      · obtain rfl:i=l.length:=by omega
        rw[List.take_length]at HI2;go_wp2_with fail;go_end0
        exact⟨rfl,v2,HI2.out,HA2.out,fun k hk=>(HT2.out k hk).imp id (fun h=>by omega)⟩
theorem Aside.box {g:Nat} {w:World} (o:Obj) (q:Nat) (u:Value):Aside (fun k=>k=g) w ((w.setCell ⟨g,q,none⟩ u).alloc o):=
 ⟨rfl,rfl,rfl,by simp[World.setCell],fun k hk hn=>(Below.heap_alloc _ _ _ (by simp[World.setCell];exact hk)).trans (Below.heap_setCell _ _ _ _ (by show k≠g;exact hn))⟩
theorem cell_set_alloc {w:World} {g q b c:Nat} (o:Obj) (u:Value) (hb:b<w.heap.size) (hne:(⟨g,q,none⟩:Addr)≠⟨b,c,none⟩):((w.setCell ⟨g,q,none⟩ u).alloc o).cell? ⟨b,c,none⟩=w.cell? ⟨b,c,none⟩:=
  (World.cell?_alloc_lt _ _ _ (by simp[World.setCell];exact hb)).trans (World.cell?_setCell_other _ _ _ _ hne)
theorem Aside.none {T:Nat→Prop} {w:World} (o:Obj):Aside T w (w.alloc o):=Aside.of_below ((Below.refl _ _).alloc lrM3 _)
def rightF (loose entries:Int) (p:Bool) (t:TM) (x:Int):Bool:=if t.k=1 then p && decide (t.n - x<loose)else if t.k=6∨t.k=7 then p && decide (t.n<entries)else p
theorem tell_right (B g q r:Nat) (n m:Int) (hg:B≤g) (hq:q<B) (hr:r<B):
  Teller B 108 [.pointer (some ⟨g,0,none⟩),.pointer (some ⟨q,0,none⟩),.pointer (some ⟨r,0,none⟩)] (fun p _ w=>Bk w g 4 #[.bool p]∧w.cell? ⟨q,0,none⟩=some (.int .i64 n)∧w.cell? ⟨r,0,none⟩=some (.int .i64 m)) (fun _ k=>k=g) (rightF n m) (fun _=>0) where
 cnt:=fun _ _ _=>by omega
 keep:=fun p v w w' h hb=>⟨h.1.below hb h.1.lt,(hb.cell (p:=⟨q,0,none⟩) (World.block_lt_of_cell? w _ h.2.1)).trans h.2.1,(hb.cell (p:=⟨r,0,none⟩) (World.block_lt_of_cell? w _ h.2.2)).trans h.2.2⟩
 lt:=fun p v w h k hk=>by subst hk;exact⟨hg,h.1.lt⟩
 call:=by
  intro t x lo hi A cap p v w h hn hhi hB hx0 hx1 hn0 hn1 _;obtain⟨b1,b2,b3⟩:=h;have hlt:=b1.lt;have hqw:=World.block_lt_of_cell? w _ b2;have hrw:=World.block_lt_of_cell? w _ b3;simp only at hqw hrw;have c1:=b1.cell 0;simp at c1;have hfz:=b1.cold 0;have hne:(⟨g,0,none⟩:Addr)≠⟨q,0,none⟩:=fun e=>by injection e;omega
  have hne2:(⟨g,0,none⟩:Addr)≠⟨r,0,none⟩:=fun e=>by injection e;omega
  have HB1:=hid b1;have HB2:=hid b2;have HB3:=hid b3;have hfin:∀o u,rightF n m p t x=u→(Bk ((w.setCell ⟨g,0,none⟩ (.bool u)).alloc o) g 4 #[.bool (rightF n m p t x)]∧((w.setCell ⟨g,0,none⟩ (.bool u)).alloc o).cell? ⟨q,0,none⟩=some (.int .i64 n)∧((w.setCell ⟨g,0,none⟩ (.bool u)).alloc o).cell? ⟨r,0,none⟩=some (.int .i64 m))∧
    Aside (fun k=>k=g) w ((w.setCell ⟨g,0,none⟩ (.bool u)).alloc o)∧∀k,k=g→k=g∨w.heap.size≤k:=fun o u e=>by
   refine⟨⟨?_, ?_, ?_⟩,Aside.box o 0 _,fun k hk=> .inl hk⟩
   ·rw[e];exact(HB1.out.at_ 0 (.bool u)).alloc o
   ·rw[cell_set_alloc _ _ hqw hne];exact HB2.out
   ·rw[cell_set_alloc _ _ hrw hne2];exact HB3.out
  have HFIN:=hid hfin;have HSTAY:=hid (fun o (e:rightF n m p t x=p)=>(show(Bk (w.alloc o) g 4 #[.bool (rightF n m p t x)]∧(w.alloc o).cell? ⟨q,0,none⟩=some (.int .i64 n)∧(w.alloc o).cell? ⟨r,0,none⟩=some (.int .i64 m))∧
    Aside (fun k=>k=g) w (w.alloc o)∧∀k,k=g→k=g∨w.heap.size≤k from⟨⟨by rw[e];exact HB1.out.alloc o,(World.cell?_alloc_lt _ _ _ hqw).trans HB2.out,(World.cell?_alloc_lt _ _ _ hrw).trans HB3.out⟩,Aside.none _,fun k hk=> .inl hk⟩))
  have HRF:=hid (show rightF n m p t x=if t.k=1 then p && decide (t.n - x<n)else if t.k=6∨t.k=7 then p && decide (t.n<m)else p from rfl);clear b1 hfin;show Calls _ _ #[termV t A cap,.int .i64 x,.pointer (some ⟨g,0,none⟩),.pointer (some ⟨q,0,none⟩),.pointer (some ⟨r,0,none⟩)] _ _
  unfold termV;by_cases hk:t.k=1
  ·have e1:(t.k==1)=true:=by rw[hk];rfl
   have HF2:=hid (show rightF n m p t x=(p && decide (t.n - x<n))by rw[HRF.out,if_pos hk]);clear hk;cases p with
   | true=>
    go_enter func108,ntmps108;go_wp2_with fail;go_end0
    exact⟨rfl,v,HFIN.out _ _ (by rw[HF2.out];simp)⟩
   | false=>
    go_enter func108,ntmps108;go_wp2_with fail;go_end0
    exact⟨rfl,v,HFIN.out _ _ (by rw[HF2.out];simp)⟩
  have e1:(t.k==1)=false:=by rw[beq_eq_false_iff_ne];exact hk
  by_cases hk6:t.k=6
  ·have e2:(t.k==6)=true:=by rw[hk6];rfl
   have HF2:=hid (show rightF n m p t x=(p && decide (t.n<m))by rw[HRF.out,if_neg hk,if_pos (.inl hk6)]);clear hk hk6;cases p with
   | true=>
    go_enter func108,ntmps108;go_wp2_with fail;go_end0
    exact⟨rfl,v,HFIN.out _ _ (by rw[HF2.out];simp)⟩
   | false=>
    go_enter func108,ntmps108;go_wp2_with fail;go_end0
    exact⟨rfl,v,HFIN.out _ _ (by rw[HF2.out];simp)⟩
  have e2:(t.k==6)=false:=by rw[beq_eq_false_iff_ne];exact hk6
  by_cases hk7:t.k=7
  ·have e3:(t.k==7)=true:=by rw[hk7];rfl
   have HF2:=hid (show rightF n m p t x=(p && decide (t.n<m))by rw[HRF.out,if_neg hk,if_pos (.inr hk7)]);clear hk hk6 hk7;cases p with
   | true=>
    go_enter func108,ntmps108;go_wp2_with fail;go_end0
    exact⟨rfl,v,HFIN.out _ _ (by rw[HF2.out];simp)⟩
   | false=>
    go_enter func108,ntmps108;go_wp2_with fail;go_end0
    exact⟨rfl,v,HFIN.out _ _ (by rw[HF2.out];simp)⟩
  have e3:(t.k==7)=false:=by rw[beq_eq_false_iff_ne];exact hk7
  have HF2:=hid (show rightF n m p t x=p by rw[HRF.out,if_neg hk,if_neg (by omega)]);clear hk hk6 hk7;go_enter func108,ntmps108;go_wp2_with fail;go_end0
  exact⟨rfl,v,HSTAY.out _ HF2.out⟩
def bndR (k:Int) (i:Nat):Int:=if i=1∧k≠5 then 1 else 0
theorem bndR_01 (k:Int) (i:Nat):0≤bndR k i∧bndR k i≤1:=by unfold bndR;split<;>omega
theorem bnd_eq {k:Int} {l:List TM} {i:Nat} (hl:l.length=manyM k) (hi:i<l.length):bndR k i=bnd k i:=by
 unfold bndR bnd;unfold manyM at hl;split at hl
 ·split<;>split<;>omega
 ·split at hl
  ·have:i=0:=by omega
   subst this;simp
  ·omega
mutual
def looseT:TM→Int→Int
 | .node k n l,x=>if k=1∧x≤n then n - x+1 else looseL k 0 l x
def looseL (k:Int) (i:Nat):List TM→Int→Int
 | [],_=>0
 | t::r,x=>max (looseT t (x+bndR k i)) (looseL k (i+1) r x)
end
theorem looseT_node (k n:Int) (l:List TM) (x:Int):looseT (.node k n l) x=if k=1∧x≤n then n - x+1 else looseL k 0 l x:=by rw[looseT]
theorem looseL_nil (k:Int) (i:Nat) (x:Int):looseL k i [] x=0:=by rw[looseL]
theorem looseL_cons (k:Int) (i:Nat) (t:TM) (r:List TM) (x:Int):looseL k i (t::r) x=max (looseT t (x+bndR k i)) (looseL k (i+1) r x):=by rw[looseL]
theorem looseL_snoc:∀(l:List TM) (k:Int) (i:Nat) (t:TM) (x:Int),looseL k i (l++[t]) x=max (looseL k i l x) (max (looseT t (x+bndR k (i+l.length))) 0)
 | [],k,i,t,x=>by rw[List.nil_append,looseL_cons,looseL_nil,looseL_nil];simp;omega
 | u::l,k,i,t,x=>by
  rw[List.cons_append,looseL_cons,looseL_snoc l,looseL_cons];have e:i+1+l.length=i+(u::l).length:=by simp;omega
  rw[e];omega
theorem looseT_nonneg:∀(t:TM) (x:Int),0≤looseT t x:=by
 intro t;induction t using TM.ind with
 | h k n l ih=>
  intro x;rw[looseT_node];split
  ·omega
  ·have:∀(r:List TM) (i:Nat),0≤looseL k i r x:=by
    intro r;induction r with
    | nil=>intro i;rw[looseL_nil];omega
    | cons u r ih2=>intro i;rw[looseL_cons];have:=ih2 (i+1);omega
   exact this l 0
mutual
def colT (f:Int→Bool):TM→List Int
 | .node k n l=>(if f k then[n]else[])++colL f l
def colL (f:Int→Bool):List TM→List Int
 | []=>[]
 | t::r=>colT f t++colL f r
end
theorem colT_node (f:Int→Bool) (k n:Int) (l:List TM):colT f (.node k n l)=(if f k then[n]else[])++colL f l:=by rw[colT]
theorem colL_nil (f:Int→Bool):colL f []=[]:=by rw[colL]
theorem colL_cons (f:Int→Bool) (t:TM) (r:List TM):colL f (t::r)=colT f t++colL f r:=by rw[colL]
theorem colL_append (f:Int→Bool):∀l r:List TM,colL f (l++r)=colL f l++colL f r
 | [],r=>by rw[List.nil_append,colL_nil,List.nil_append]
 | t::l,r=>by rw[List.cons_append,colL_cons,colL_append f l r,colL_cons,List.append_assoc]
theorem colL_take (f:Int→Bool) {l:List TM} {i:Nat} (h:i<l.length):colL f (l.take (i+1))=colL f (l.take i)++colT f l[i]:=by
 rw[take_snocM h,colL_append,colL_cons,colL_nil,List.append_nil]
def numF (f:Int→Bool) (p:List Int) (t:TM) (_:Int):List Int:=if f t.k then p++[t.n]else p
theorem fold_num (f:Int→Bool):∀(t:TM) (p:List Int) (x:Int),foldT (numF f) p t x=p++colT f t:=by
 intro t;induction t using TM.ind with
 | h k v l ih=>
  intro p x;rw[foldT_node,colT_node];have hL:∀(i:Nat),i≤l.length→∀q,foldM (numF f) q k 0 (l.take i) x=q++colL f (l.take i):=by
   intro i;induction i with
   | zero=>intro _ q;rw[List.take_zero,foldM_nil,colL_nil,List.append_nil]
   | succ i ihm=>
    intro hm q;have hml:i<l.length:=by omega
    rw[foldM_take _ _ _ _ hml,ihm (by omega) q,ih _ (List.getElem_mem hml),colL_take f hml,List.append_assoc]
  have hall:=hL l.length lrM3;rw[List.take_length]at hall;rw[hall];unfold numF;show(if f k=true then _ else _)++_=_
  split<;>simp[TM.n]
def entK (k:Int):Bool:=decide (k=6)||decide (k=7)
theorem bool_and6 (a b c d e:Bool):((((a && b) && c) && d) && e)=((a && (b && d)) && (c && e)):=by cases a<;>cases b<;>cases c<;>cases d<;>cases e<;>rfl
theorem fold_right (n m:Int) (hn:0≤n):∀(t:TM) (p:Bool) (x:Int),tgoodB t=true→foldT (rightF n m) p t x=((p && decide (looseT t x≤n)) && (colT entK t).all fun z=>decide (z<m)):=by
 intro t;induction t using TM.ind with
 | h k v l ih=>
  intro p x hg;rw[tgoodB_node,Bool.and_eq_true]at hg;obtain⟨_,_,hlen,_,_,_⟩:=ttop_facts hg.1;rw[foldT_node,looseT_node,colT_node];have hL:∀(i:Nat),i≤l.length→∀q:Bool,foldM (rightF n m) q k 0 (l.take i) x=((q && decide (looseL k 0 (l.take i) x≤n)) && (colL entK (l.take i)).all fun z=>decide (z<m)):=by
   intro i;induction i with
   | zero=>intro _ q;rw[List.take_zero,foldM_nil,looseL_nil,colL_nil,decide_eq_true hn];simp
   | succ i ihm=>
    intro hm q;have hml:i<l.length:=by omega
    rw[foldM_take _ _ _ _ hml,ihm (by omega) q,ih _ (List.getElem_mem hml) _ _ (tgoodL_at hg.2 hml),colL_take _ hml,take_snocM hml,looseL_snoc,List.all_append];have e:0+(l.take i).length=i:=by simp;omega
    rw[e,bnd_eq hlen hml];have h0:=looseT_nonneg l[i] (x+bnd k i);have e2:decide (max (looseL k 0 (l.take i) x) (max (looseT l[i] (x+bnd k i)) 0)≤n)=(decide (looseL k 0 (l.take i) x≤n) && decide (looseT l[i] (x+bnd k i)≤n)):=by
     rw[←Bool.decide_and];congr 1
     apply propext
     omega
    rw[e2,bool_and6]
  have hall:=hL l.length lrM3;rw[List.take_length]at hall;by_cases hk:k=1
  ·subst hk;have hl0:l=[]:=List.eq_nil_of_length_eq_zero (by rw[hlen];rfl);subst hl0;rw[foldM_nil,colL_nil];have e1:rightF n m p (.node 1 v []) x=(p && decide (v - x<n)):=if_pos rfl;have e2:decide (v - x<n)=decide ((if(1:Int)=1∧x≤v then v - x+1 else looseL 1 0 [] x)≤n):=by
    congr 1
    apply propext
    rw[looseL_nil];split<;>omega
   rw[e1,e2];simp[entK]
  ·rw[hall,if_neg (fun h=>hk h.1),List.all_append];by_cases hk6:k=6∨k=7
   ·have e1:rightF n m p (.node k v l) x=(p && decide (v<m)):=(if_neg hk).trans (if_pos hk6);have e2:entK k=true:=by unfold entK;rcases hk6 with rfl|rfl<;>rfl
    rw[e1,e2,if_pos rfl];simp only[List.all_cons,List.all_nil,Bool.and_true];cases p<;>cases decide (v<m)<;>simp
   ·have e1:rightF n m p (.node k v l) x=p:=(if_neg hk).trans (if_neg hk6);have e2:entK k=false:=by
     unfold entK;rw[decide_eq_false (fun h=>hk6 (.inl h)),decide_eq_false (fun h=>hk6 (.inr h))];rfl
    rw[e1,e2];simp
theorem good_num {t:TM} (h:tgoodB t=true):0≤t.n∧t.n≤1048576:=by
 obtain⟨k,n,l⟩:=t;rw[tgoodB_node,Bool.and_eq_true]at h;obtain⟨_,_,_,h4,h5,_⟩:=ttop_facts h.1;have:mostM k≤1048576:=by unfold mostM;split;omega;split<;>omega
 exact⟨h4,by show n≤_;omega⟩
def trightB (t:TM) (n m:Int):Bool:=decide (0≤n) && (shapedB t && (decide (looseT t 0≤n) && (colT entK t).all fun z=>decide (z<m)))
theorem tRight_any (t:TM) (n m:Int) (lo hi:Nat) (A:Option Addr) (cap:Nat) (w:World) (h:IsTerm w lo hi t A cap) (hhi:hi≤w.heap.size) (hS:ShapesM w):
  Calls prog 77 #[termV t A cap,.int .i64 n,.int .i64 m] w fun e w'=>e= .returned (.bool (trightB t n m))∧Below w.heap.size w w':=by
 have hsh:=fun W h1 h2 h3=>shaped_any t lo hi A cap W h1 h2 h3;have HW3:=hid (fun o1 o2 o3=>(((Below.refl w.heap.size w).alloc lrM3 o1).alloc (by simp) o2).alloc (by simp;omega) o3);have HH:=hid (fun W (hb:Below w.heap.size w W)=>h.kept hb hhi);have HSS:=hid (fun W (hb:Below w.heap.size w W)=>hS.kept hb);have hgl:=hS.lt;obtain⟨r,hr⟩:∃r,trightB t n m=r:=⟨_,rfl⟩;rw[hr];unfold trightB at hr;have HR:=hid hr;clear hr h hS;by_cases hn:n<0
 ·have HR2:Hid (r=false):=hid (by rw[←HR.out,decide_eq_false (by omega)];rfl);have e1:decide (n<0)=true:=decide_eq_true hn;unfold termV;clear hn hsh;go_enter func77,ntmps77;go_wp2_with fail;go_ret;exact⟨by rw[HR2.out];rfl,HW3.out _ _ _⟩
 have e1:decide (n<0)=false:=decide_eq_false hn;have EN:Hid (0≤n):=hid (by omega);cases hx:shapedB t with
 | false=>
  rw[hx]at hsh;have HR2:Hid (r=false):=hid (by rw[←HR.out,hx];simp);have HC:=hid hsh;unfold termV at HC⊢;clear hn hsh hx;go_enter func77,ntmps77;go_wp2_with fail;refine(HC.out _ (HH.out _ (HW3.out _ _ _)) (by simp;omega) (HSS.out _ (HW3.out _ _ _))).mono ?_;rintro e w1 ⟨rfl,hb1⟩;go_wp2_with fail;go_ret;exact⟨by rw[HR2.out];rfl,(HW3.out _ _ _).trans (hb1.mono (by simp;omega))⟩
 | true=>
  rw[hx]at hsh;obtain⟨f1,f2,f3⟩:=shapedB_true.1 hx;have HR2:Hid (r=foldT (rightF n m) true t 0):=hid (by rw[←HR.out,hx,decide_eq_true EN.out,fold_right n m EN.out t true 0 f3];simp);have HF:=hid (And.intro f2 (And.intro f3 f1));have HC:=hid hsh;have HE:=hid (fun(B g q s:Nat) (hg:B≤g) (hq:q<B) (hs:s<B) (W:World)=>each_right ⟨g,0,none⟩ ⟨q,0,none⟩ ⟨s,0,none⟩ (tell_right B g q s n m hg hq hs) t 0 lo hi A cap true (.int .i64 0) W);unfold termV at HC HE⊢;clear hn hsh hx f1 f2 f3;go_enter func77,ntmps77;go_wp2_with fail;refine(HC.out _ (HH.out _ (HW3.out _ _ _)) (by simp;omega) (HSS.out _ (HW3.out _ _ _))).mono ?_;rintro e w1 ⟨rfl,hb1⟩;have hz1:=hb1.size;simp at hz1;have hcell:=fun p hp=>hb1.cell (p:=p) hp;have HB1:=hid ((HW3.out (.cells #[.int .i64 t.k,.int .i64 t.n,.slice A t.l.length cap] 25) (.cells #[.int .i64 n] 3) (.cells #[.int .i64 m] 3)).trans (hb1.mono (by simp;omega)));have b1:Bk w1 (w.heap.size+1) 3 #[.int .i64 n]:=by
   have:=((Bk.new (w.alloc (.cells #[.int .i64 t.k,.int .i64 t.n,.slice A t.l.length cap] 25)) 3 #[.int .i64 n]).alloc (.cells #[.int .i64 m] 3)).below hb1 (by simp);simpa using this
  have b2:Bk w1 (w.heap.size+2) 3 #[.int .i64 m]:=by
   have:=(Bk.new ((w.alloc (.cells #[.int .i64 t.k,.int .i64 t.n,.slice A t.l.length cap] 25)).alloc (.cells #[.int .i64 n] 3)) 3 #[.int .i64 m]).below hb1 (by simp);simpa using this
  have b0:Bk w1 w.heap.size 25 #[.int .i64 t.k,.int .i64 t.n,.slice A t.l.length cap]:=(((Bk.new w _ _).alloc _).alloc _).below hb1 (by simp;omega);have c0:w1.cell? ⟨w.heap.size,0,none⟩=some (.int .i64 t.k):=b0.cell 0;have c1:w1.cell? ⟨w.heap.size,1,none⟩=some (.int .i64 t.n):=b0.cell 1;have c2:w1.cell? ⟨w.heap.size,2,none⟩=some (.slice A t.l.length cap):=b0.cell 2;have hl0:w.heap.size<w1.heap.size:=by omega
  have hl1:w.heap.size+1<w1.heap.size:=by omega
  have hl2:w.heap.size+2<w1.heap.size:=by omega
  have HK1:=hid (show w1.cell? ⟨w.heap.size+1,0,none⟩=some (.int .i64 n)from b1.cell 0);have HK2:=hid (show w1.cell? ⟨w.heap.size+2,0,none⟩=some (.int .i64 m)from b2.cell 0);have HBa:=hid (HB1.out.alloc (by omega) (.cells #[.bool true] 4));clear b0 b1 b2 hcell;go_wp2_with fail;refine(HE.out w1.heap.size w1.heap.size (w.heap.size+1) (w.heap.size+2) lrM3 hl1 hl2 _ ⟨Bk.new _ _ _,(World.cell?_alloc_lt _ _ _ hl1).trans HK1.out,(World.cell?_alloc_lt _ _ _ hl2).trans HK2.out⟩ (HH.out _ HBa.out) (by omega) (by simp) (by omega) (by have:=HF.out.1;omega) HF.out.2.1 (HSS.out _ HBa.out) (by omega) (by have:=HF.out.2.2;omega)).mono ?_;rintro e w2 ⟨rfl,v2,⟨b2,_⟩,hA2,_⟩;have c9:=b2.cell 0;simp at c9;have HB2:=hid (HBa.out.trans ((hA2.below (B:=w1.heap.size) (fun k hk=>by omega) (by simp)).mono (by omega)));have hl3:=b2.lt;clear hb1 b2 hA2;go_wp2_with fail;go_ret;exact⟨by rw[HR2.out];rfl,HB2.out⟩
end Go.Proofs.YtchllgkgjompgaaGreatDoor
