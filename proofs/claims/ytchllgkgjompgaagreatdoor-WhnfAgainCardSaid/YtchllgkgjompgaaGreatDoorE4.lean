import Derived.Test.YtchllgkgjompgaaGreatDoorE3
import Derived.Test.YtchllgkgjompgaaGreatDoorI9
import Derived.Test.YtchllgkgjompgaaGreatDoorE2
import Derived.Lib.OwnBridge
import Derived.Lib.LazyBuf
import Derived.Deep.RegionHeld3
import Derived.Test.YtchllgkgjompgaaGreatDoorE1
namespace Go.Proofs.YtchllgkgjompgaaGreatDoor
set_option maxHeartbeats 4000000
set_option maxRecDepth 100000
open Go.RowKit
set_option linter.unusedVariables false
open Lib(hid)
open Go.Proofs.Tryz
theorem lrE4{n:Nat}:n≤n:=Nat.le_refl n
def zT:TM:= .node 0 0 []
structure Rx where
 hd:TM
 ts:List TM
 rs:List TM
def redX (l:List ET) (t:TM):Option Rx:=
 if(takesE l (headT t).k (headT t).n).2=true∧(takesE l (headT t).k (headT t).n).1≤((argsT t).length:Int)then
  some ⟨headT t,(argsT t).take (takesE l (headT t).k (headT t).n).1.toNat,(argsT t).drop (takesE l (headT t).k (headT t).n).1.toNat⟩
 else none
def waitsR (l:List ET) (r:Rx):Bool:=waitsE l r.hd.k r.hd.n
def tgtR (r:Rx):TM:=r.ts.getD (r.ts.length - 1) zT
def meetR (r:Rx) (t:TM):Rx:=⟨r.hd,r.ts.set (r.ts.length - 1) t,r.rs⟩
def ownArg (l:List ET) (t:TM):List TM:=(argsT t).drop (entT l (headT t).n).a.toNat
def famOf9 (l:List ET) (t:TM):Int:=(entT l (headT t).n).f
def ruleR (l:List ET) (r:Rx) (t:TM):TM×Int:=
 stpX (partsAt l (headT t).n.toNat) (entT l r.hd.n).a.toNat (entT l (headT t).n).p.toNat r.hd.n (r.hd.l.getD 0 zT).n (r.ts.take ((entT l r.hd.n).a.toNat+1+(entT l r.hd.n).c.length)) (ownArg l t)
def redR (l:List ET) (r:Rx):Option (TM×Int):=
 if r.hd.k=4 then some (manyX (r.hd.l.getD 1 zT) [r.ts.getD 0 zT])
 else if(entT l r.hd.n).k=3 then some ((entT l r.hd.n).b,0)
 else if conE l (tgtR r)=false then none
 else if r.hd.k=6∧famOf9 l (tgtR r)=(entT l r.hd.n).f then some (fldX l r.hd.n (ownArg l (tgtR r)))
 else if r.hd.k=7∧famOf9 l (tgtR r)=r.hd.n then some (ruleR l r (tgtR r))
 else none
structure Sta where
 wh:TM
 ws:List Rx
 t:TM
inductive Nxt where
 | push (s:Sta)
 | fin (w:TM)
 | err (q:Int)
 | step (s:Option Sta)
def mstpR (l:List ET) (r:Rx) (wh:TM) (ws:List Rx):Nxt:=
 match redR l r with
 | none=> .fin wh
 | some (u,q)=>if q=0 then(if shapedB (applyT u r.rs)then .step (some ⟨wh,ws,applyT u r.rs⟩)else .step none)else .err q
def whR (s:Sta):TM:=if s.ws=[]then s.t else s.wh
def nxtR (l:List ET) (s:Sta):Nxt:=
 match redX l s.t with
 | some r=>if waitsR l r then .push ⟨whR s,r::s.ws,tgtR r⟩else mstpR l r (whR s) s.ws
 | none=>match s.ws with
  | []=> .fin (whR s)
  | r::ws=>mstpR l (meetR r s.t) (whR s) ws
inductive Outc where
 | ok (w:TM) (b:Nat)
 | bad (q:Int) (b:Nat)
inductive Run (l:List ET):Sta→Nat→Outc→Prop where
 | push {s s':Sta} {a:Nat} {o:Outc}:nxtR l s= .push s'→Run l s' a o→Run l s a o
 | fin {s:Sta} {a:Nat} {w:TM}:nxtR l s= .fin w→Run l s a (.ok w a)
 | err {s:Sta} {a:Nat} {q:Int}:nxtR l s= .err q→Run l s a (.bad q a)
 | dry {s:Sta} {x:Option Sta}:nxtR l s= .step x→Run l s 0 (.bad 8 0)
 | long {s:Sta} {a:Nat}:nxtR l s= .step none→Run l s (a+1) (.bad 2 a)
 | step {s s':Sta} {a:Nat} {o:Outc}:nxtR l s= .step (some s')→Run l s' a o→Run l s (a+1) o
theorem run_push {l:List ET} {s s':Sta} {a:Nat} {o:Outc} (h:nxtR l s= .push s') (hr:Run l s a o):Run l s' a o:=by
 cases hr with
 | push h1 h2=>rw[h]at h1;cases h1;exact h2
 | fin h1=>rw[h]at h1;cases h1
 | err h1=>rw[h]at h1;cases h1
 | dry h1=>rw[h]at h1;cases h1
 | long h1=>rw[h]at h1;cases h1
 | step h1 _=>rw[h]at h1;cases h1
theorem run_fin {l:List ET} {s:Sta} {a:Nat} {o:Outc} {w:TM} (h:nxtR l s= .fin w) (hr:Run l s a o):o= .ok w a:=by
 cases hr with
 | push h1 h2=>rw[h]at h1;cases h1
 | fin h1=>rw[h]at h1;cases h1;rfl
 | err h1=>rw[h]at h1;cases h1
 | dry h1=>rw[h]at h1;cases h1
 | long h1=>rw[h]at h1;cases h1
 | step h1 _=>rw[h]at h1;cases h1
theorem run_step {l:List ET} {s s':Sta} {a:Nat} {o:Outc} (h:nxtR l s= .step (some s')) (hr:Run l s a o):(a=0∧o= .bad 8 0)∨∃b,a=b+1∧Run l s' b o:=by
 cases hr with
 | push h1 h2=>rw[h]at h1;cases h1
 | fin h1=>rw[h]at h1;cases h1
 | err h1=>rw[h]at h1;cases h1
 | dry h1=>exact .inl ⟨rfl,rfl⟩
 | long h1=>rw[h]at h1;cases h1
 | step h1 h2=>rw[h]at h1;cases h1;exact .inr ⟨_,rfl,h2⟩
theorem run_det {l:List ET} {s:Sta} {a:Nat} {o:Outc} (h:Run l s a o):∀{o':Outc},Run l s a o'→o'=o:=by
 induction h with
 | push h1 _ ih=>intro o' h';exact ih (run_push h1 h')
 | fin h1=>intro o' h';exact run_fin h1 h'
 | err h1=>
  intro o' h';cases h' with
  | push h2 _=>rw[h1]at h2;cases h2
  | fin h2=>rw[h1]at h2;cases h2
  | err h2=>rw[h1]at h2;cases h2;rfl
  | dry h2=>rw[h1]at h2;cases h2
  | long h2=>rw[h1]at h2;cases h2
  | step h2 _=>rw[h1]at h2;cases h2
 | dry h1=>
  intro o' h';cases h' with
  | push h2 _=>rw[h1]at h2;cases h2
  | fin h2=>rw[h1]at h2;cases h2
  | err h2=>rw[h1]at h2;cases h2
  | dry h2=>rfl
 | long h1=>
  intro o' h';cases h' with
  | push h2 _=>rw[h1]at h2;cases h2
  | fin h2=>rw[h1]at h2;cases h2
  | err h2=>rw[h1]at h2;cases h2
  | long h2=>rfl
  | step h2 _=>rw[h1]at h2;cases h2
 | step h1 _ ih=>
  intro o' h';rcases run_step h1 h' with ⟨h2,_⟩|⟨b,h2,h3⟩
  ·cases h2
  ·cases h2;exact ih h3
theorem redX_con {l:List ET} {t:TM} {r:Rx} (h:redX l t=some r):conE l t=false:=by
 unfold redX at h;split at h
 case isFalse=>cases h
 case isTrue hq=>
  have h1:=hq.1;unfold conE;unfold takesE at h1;by_cases h6:(headT t).k=6
  ·by_cases h2:(entT l (headT t).n).k=2
   ·rw[if_neg (by omega),if_neg (by omega),if_neg (by omega),if_neg (by omega)]at h1;cases h1
   ·simp[h2]
  ·simp[h6]
theorem waits_not {l:List ET} {r:Rx} (h:waitsR l r=true): ¬ r.hd.k=4∧ ¬ (entT l r.hd.n).k=3:=by
 unfold waitsR waitsE at h;simp at h;exact h
theorem waits_no {l:List ET} {r:Rx} (h:waitsR l r=false):r.hd.k=4∨(entT l r.hd.n).k=3:=by
 unfold waitsR waitsE at h;simp only[Bool.and_eq_false_iff,Bool.not_eq_false',decide_eq_true_eq]at h;exact h
theorem tgt_meet {r:Rx} (h:0<r.ts.length) (t:TM):tgtR (meetR r t)=t:=by
 unfold tgtR meetR;simp[List.getD_eq_getElem?_getD,Nat.sub_lt h Nat.zero_lt_one]
theorem redR_stuck {l:List ET} {r:Rx} (hw:waitsR l r=true) (hl:0<r.ts.length) {y:TM} (hy:conE l y=false):redR l (meetR r y)=none:=by
 obtain⟨h1,h2⟩:=waits_not hw;unfold redR;rw[tgt_meet hl];show(if r.hd.k=4 then _ else if(entT l r.hd.n).k=3 then _ else _)=none
 rw[if_neg h1,if_neg h2,if_pos hy]
theorem redR_some {l:List ET} {r:Rx} (hw:waitsR l r=false):redR l r≠none:=by
 unfold redR;rcases waits_no hw with h|h
 ·rw[if_pos h];simp
 ·by_cases h4:r.hd.k=4
  ·rw[if_pos h4];simp
  ·rw[if_neg h4,if_pos h];simp
theorem mstpR_fin {l:List ET} {r:Rx} {wh w:TM} {ws:List Rx} (h:mstpR l r wh ws= .fin w):redR l r=none∧w=wh:=by
 unfold mstpR at h;split at h
 case h_1 hq=>cases h;exact⟨hq,rfl⟩
 case h_2 hq=>split at h<;>first|(split at h<;>cases h)|cases h
theorem mstpR_stuck {l:List ET} {r:Rx} (h:redR l r=none) (wh:TM) (ws:List Rx):mstpR l r wh ws= .fin wh:=by
 unfold mstpR;rw[h]
theorem mstpR_step {l:List ET} {r:Rx} {wh:TM} {ws:List Rx} {s:Sta} (h:mstpR l r wh ws= .step (some s)):∃v,s=⟨wh,ws,v⟩∧∀wh' ws',mstpR l r wh' ws'= .step (some ⟨wh',ws',v⟩):=by
 unfold mstpR at h⊢;split at h
 case h_1=>cases h
 case h_2 u q hq=>
  split at h
  case isTrue h0=>
   split at h
   case isTrue h1=>cases h;exact⟨_,rfl,fun _ _=>by simp[h0,h1]⟩
   case isFalse=>cases h
  case isFalse=>cases h
def Whnf (l:List ET) (x:TM):Prop:=redX l x=none∨∃r,redX l x=some r∧waitsR l r=true∧∀a o,Run l ⟨tgtR r,[],tgtR r⟩ a o→(∃c,o= .bad 8 c)∨∃y c,o= .ok y c∧redR l (meetR r y)=none
def SubOk (l:List ET) (r:Rx) (st:List Rx) (t:TM):Prop:=
 ∀wh,(st≠[]→∃r',redX l wh=some r')→∀a o,Run l ⟨wh,st,t⟩ a o→(∃c,o= .bad 8 c)∨∃y c,o= .ok y c∧redR l (meetR r y)=none
theorem redX_pos {l:List ET} {t:TM} {r:Rx} (hf:formedB l=true) (h:redX l t=some r) (hw:waitsR l r=true):0<r.ts.length:=by
 obtain⟨h1,h2⟩:=waits_not hw;unfold redX at h;split at h
 case isFalse=>cases h
 case isTrue hq=>
  cases h
  have hk:=hq.1;have hle:=hq.2;simp only[List.length_take];revert hk hle
  unfold takesE;rw[if_neg h1];by_cases h6:(headT t).k=6∧(entT l (headT t).n).k=3
  ·exact absurd h6.2 h2
  rw[if_neg h6];by_cases h4:(headT t).k=6∧(entT l (headT t).n).k=4
  ·rw[if_pos h4];intro _ hle;have:=(ent_small hf (.inr h4.2)).1;simp only at hle⊢;omega
  rw[if_neg h4];by_cases h7:(headT t).k=7∧(entT l (headT t).n).k=1
  ·rw[if_pos h7];intro _ hle;have h8:=ent_small hf (.inl h7.2);have h9:=(h8.2.2 h7.2).1;have h10:=h8.1;simp only at hle⊢;omega
  rw[if_neg h7];intro hk;cases hk
theorem run_whnf {l:List ET} (hf:formedB l=true) {s:Sta} {a:Nat} {o:Outc} (h:Run l s a o):∀{x:TM} {b:Nat},o= .ok x b→(∀r∈s.ws,waitsR l r=true∧0<r.ts.length)→
    (s.ws=[]→Whnf l x)∧∀st r,s.ws=st++[r]→Whnf l x∨(x=s.wh∧SubOk l r st s.t):=by
  induction h with
  | @push s s' a o h1 hr ih=>
    intro x b he hws;unfold nxtR at h1;split at h1
    case h_1 r0 hq=>
      split at h1
      case isFalse=>exact absurd h1 (by unfold mstpR;split<;>first|(intro h;cases h)|(split<;>first|(split<;>(intro h;cases h))|(intro h;cases h)))
      case isTrue hw=>
        cases h1
        obtain⟨i1,i2⟩:=ih he (fun r hr=>by
          rcases List.mem_cons.1 hr with rfl|hr
          · exact⟨hw,redX_pos hf hq hw⟩
          · exact hws r hr)
        refine⟨fun h0=> ?_,fun st r h0=> ?_⟩
        · rcases i2 [] r0 (by rw[h0];rfl)with h|⟨hx,hs⟩
          · exact h
          · subst hx;refine .inr ⟨r0, ?_,hw,fun a o hr=>hs _ (fun h=>absurd rfl h) a o hr⟩;show redX l (whR s)=some r0
            unfold whR;rw[if_pos h0];exact hq
        · rcases i2 (r0::st) r (by rw[h0];rfl)with h|⟨hx,hs⟩
          · exact .inl h
          · refine .inr ⟨?_,fun wh hwh a o hr=> ?_⟩
            · rw[hx];show whR s=s.wh
              unfold whR;rw[if_neg (by rw[h0];simp)]
            · refine hs _ (fun _=> ?_) a o (run_push (s':=⟨whR ⟨wh,st,s.t⟩,r0::st,tgtR r0⟩) (by unfold nxtR;rw[hq];simp only;rw[if_pos hw]) hr);unfold whR;by_cases h9:st=[]
              · rw[if_pos h9];exact⟨r0,hq⟩
              · rw[if_neg h9];exact hwh h9
    case h_2 hq=>
      split at h1
      case h_1=>cases h1
      case h_2=>exact absurd h1 (by unfold mstpR;split<;>first|(intro h;cases h)|(split<;>first|(split<;>(intro h;cases h))|(intro h;cases h)))
  | @fin s a w h1=>
    intro x b he hws;cases he
    unfold nxtR at h1;split at h1
    case h_1 r0 hq=>
      split at h1
      case isTrue=>cases h1
      case isFalse hw=>exact absurd (mstpR_fin h1).1 (redR_some (by simpa using hw))
    case h_2 hq=>
      split at h1
      case h_1 h0=>
        cases h1
        refine⟨fun _=> .inl (by unfold whR;rw[if_pos h0];exact hq),fun st r h9=> ?_⟩;rw[h0]at h9;simp at h9
      case h_2 r1 ws h0=>
        obtain⟨h2,h3⟩:=mstpR_fin h1;refine⟨fun h9=> ?_,fun st r h9=> .inr ⟨?_,fun wh hwh a o hr=> ?_⟩⟩
        · rw[h0]at h9;cases h9
        · rw[h3];unfold whR;rw[if_neg (by rw[h0];simp)]
        · have hmem:r∈s.ws:=by rw[h9];simp
          obtain⟨g1,g2⟩:=hws r hmem;rw[h0]at h9;cases st with
          | nil=>
            simp only[List.nil_append,List.cons.injEq]at h9;obtain⟨rfl,rfl⟩:=h9;have:=run_fin (s:=⟨wh,[],s.t⟩) (w:=s.t) (by unfold nxtR;rw[hq];rfl) hr;exact .inr ⟨_,_,this,h2⟩
          | cons r2 st=>
            simp only[List.cons_append,List.cons.injEq]at h9;obtain⟨rfl, -⟩:=h9;obtain⟨r',hr'⟩:=hwh (by simp);have:=run_fin (s:=⟨wh,r1::st,s.t⟩) (w:=wh) (by unfold nxtR;rw[hq];exact mstpR_stuck h2 _ _) hr;exact .inr ⟨_,_,this,redR_stuck g1 g2 (redX_con hr')⟩
  | err=>intro x b he;cases he
  | dry=>intro x b he;cases he
  | long=>intro x b he;cases he
  | @step s s' a o h1 hr ih=>
    intro x b he hws;unfold nxtR at h1;split at h1
    case h_1 r0 hq=>
      split at h1
      case isTrue=>cases h1
      case isFalse hw=>
        obtain⟨v,rfl,hv⟩:=mstpR_step h1;obtain⟨i1,i2⟩:=ih he hws;refine⟨fun h0=>i1 h0,fun st r h0=> ?_⟩;rcases i2 st r h0 with h|⟨hx,hs⟩
        · exact .inl h
        · refine .inr ⟨?_,fun wh hwh a o hr=> ?_⟩
          · rw[hx];show whR s=s.wh
            unfold whR;rw[if_neg (by rw[h0];simp)]
          · rcases run_step (s':=⟨whR ⟨wh,st,s.t⟩,st,v⟩) (by unfold nxtR;rw[hq];simp only;rw[if_neg hw];exact hv _ _) hr with ⟨_,h3⟩|⟨c,_,h3⟩
            · exact .inl ⟨0,h3⟩
            · refine hs _ (fun h9=> ?_) c o h3;unfold whR;rw[if_neg h9];exact hwh h9
    case h_2 hq=>
      split at h1
      case h_1=>cases h1
      case h_2 r1 ws h0=>
        obtain⟨v,rfl,hv⟩:=mstpR_step h1;obtain⟨i1,i2⟩:=ih he (fun r hr=>hws r (by rw[h0];exact List.mem_cons_of_mem _ hr));refine⟨fun h9=>(by rw[h0]at h9;cases h9),fun st r h9=> ?_⟩;rw[h0]at h9;cases st with
        | nil=>
          simp only[List.nil_append,List.cons.injEq]at h9;exact .inl (i1 h9.2)
        | cons r2 st=>
          simp only[List.cons_append,List.cons.injEq]at h9;obtain⟨rfl,h9⟩:=h9;rcases i2 st r h9 with h|⟨hx,hs⟩
          · exact .inl h
          · refine .inr ⟨?_,fun wh hwh a o hr=> ?_⟩
            · rw[hx];show whR s=s.wh
              unfold whR;rw[if_neg (by rw[h0];simp)]
            · rcases run_step (s':=⟨wh,st,v⟩) (by unfold nxtR;rw[hq];exact hv _ _) hr with ⟨_,h3⟩|⟨c,_,h3⟩
              · exact .inl ⟨0,h3⟩
              · exact hs _ (fun _=>hwh (by simp)) c o h3
theorem run_again {l:List ET} (hf:formedB l=true) {t x:TM} {a b:Nat} (h:Run l ⟨t,[],t⟩ a (.ok x b)):Whnf l x:=(run_whnf hf h rfl (fun r hr=>absurd hr (by simp))).1 rfl
structure RxOk (l:List ET) (r:Rx):Prop where
 kd:(r.hd.k=4∧r.ts.length=1)∨(r.hd.k=6∧(entT l r.hd.n).k=3∧r.ts.length=0)∨(r.hd.k=6∧(entT l r.hd.n).k=4∧(r.ts.length:Int)=(entT l r.hd.n).a+1)∨(r.hd.k=7∧(entT l r.hd.n).k=1∧(r.ts.length:Int)=(entT l r.hd.n).a+1+(entT l r.hd.n).c.length+(entT l r.hd.n).i+1)
 hs:shapedB r.hd=true
 st:∀u∈r.ts,shapedB u=true
 sr:∀u∈r.rs,shapedB u=true
 ln:r.ts.length+r.rs.length≤128
theorem redX_ok {l:List ET} (hf:formedB l=true) {t:TM} (hs:shapedB t=true) {r:Rx} (h:redX l t=some r):RxOk l r∧takesE l (headT t).k (headT t).n=((r.ts.length:Int),true)∧r.hd=headT t∧r.ts++r.rs=argsT t∧r.ts=(argsT t).take r.ts.length:=by
 obtain⟨h1,h2⟩:=head_args_shaped hs;obtain⟨q1,q2,q3⟩:=shapedB_true.1 hs;have hd:=args_depth t q3;unfold redX at h;split at h
 case isFalse=>cases h
 case isTrue hq=>
  cases h
  obtain⟨hk,hle⟩:=hq;have hpos:0≤(takesE l (headT t).k (headT t).n).1:=by
   revert hk
   unfold takesE;split
   ·intro _;decide
   split
   ·intro _;decide
   split
   case isTrue h4=>intro _;have:=(ent_small hf (.inr h4.2)).1;simp only;omega
   split
   case isTrue h7=>intro _;have h8:=ent_small hf (.inl h7.2);have h9:=(h8.2.2 h7.2).1;have:=h8.1;simp only;omega
   intro hk;cases hk
  have hlen:((argsT t).take (takesE l (headT t).k (headT t).n).1.toNat).length=(takesE l (headT t).k (headT t).n).1.toNat:=by rw[List.length_take];omega
  have hlen2:(((argsT t).take (takesE l (headT t).k (headT t).n).1.toNat).length:Int)=(takesE l (headT t).k (headT t).n).1:=by rw[hlen];omega
  refine⟨⟨?_,h1,fun u hu=>h2 u (List.mem_of_mem_take hu),fun u hu=>h2 u (List.mem_of_mem_drop hu), ?_⟩, ?_,rfl,List.take_append_drop _ _, ?_⟩
  ·show((headT t).k=4∧_)∨_
   simp only;rw[hlen2];revert hk hlen
   unfold takesE;split
   case isTrue h4=>intro _ hl;exact .inl ⟨h4,by simpa using hl⟩
   split
   case isTrue h6=>intro _ hl;exact .inr (.inl ⟨h6.1,h6.2,by simp⟩)
   split
   case isTrue h6=>intro _ _;exact .inr (.inr (.inl ⟨h6.1,h6.2,rfl⟩))
   split
   case isTrue h7=>intro _ _;exact .inr (.inr (.inr ⟨h7.1,h7.2,rfl⟩))
   intro hk;cases hk
  ·simp only[List.length_take,List.length_drop];omega
  ·simp only;rw[hlen2,←hk]
  ·simp only;rw[hlen]
theorem RxOk.meet {l:List ET} {r:Rx} (h:RxOk l r) {t:TM} (ht:shapedB t=true):RxOk l (meetR r t):=
 ⟨by show _∨_;unfold meetR;simp only[List.length_set];exact h.kd,h.hs,fun u hu=>by
  rcases List.mem_or_eq_of_mem_set hu with h1|h1
  ·exact h.st u h1
  ·rw[h1];exact ht,h.sr,by unfold meetR;simp only[List.length_set];exact h.ln⟩
theorem args_lt:∀(t:TM),tgoodB t=true→∀u∈argsT t,u.depth<t.depth:=by
 intro t;induction t using TM.ind with
 | h k n l ih=>
  intro h u hu;by_cases hk:k=5
  ·subst hk;obtain⟨f,a,rfl,rfl,hf,ha⟩:=app_parts h;rw[argsT_app]at hu;rw[tdepth_node,depthM_cons,depthM_cons];rcases List.mem_append.1 hu with h1|h1
   ·have:=ih f List.mem_cons_self hf u h1;omega
   ·simp only[List.mem_singleton]at h1;subst h1;omega
  ·rw[argsT_not n l hk]at hu;cases hu
theorem tgt_in {r:Rx} (h:0<r.ts.length):tgtR r=r.ts[r.ts.length - 1]'(by omega):=by
 unfold tgtR;rw[List.getD_eq_getElem?_getD,List.getElem?_eq_getElem (by omega)];rfl
theorem tgt_shaped {l:List ET} {r:Rx} (h:RxOk l r) (h0:0<r.ts.length):shapedB (tgtR r)=true:=by
 rw[tgt_in h0];exact h.st _ (List.getElem_mem _)
def GivesRd (l:List ET) (r:Rx) (P:Nat→Prop) (w:World) (e:Ending) (w':World):Prop:=
 match redR l r with
 | none=>e= .returned (.tuple #[.agg #[.int .i64 0,.int .i64 0,.slice none 0 0],.bool false,.int .i64 0])∧Below w.heap.size w w'
 | some p=>GivesSr P p.1 p.2 w e w'
theorem GivesSt.sr {u:TM} {c:Int} {P:Nat→Prop} {w w':World} {e:Ending} (h:GivesSt u true c w e w'):GivesSr P u c w e w':=by
 obtain⟨A,cap,h1,h2,h3⟩:=h;exact⟨A,cap,h1,TermIn.imp (fun _ _ _=>rfl) (fun b hb=>⟨.inr hb.1,hb.2⟩) h2,h3⟩
theorem mreduct_all {l:List ET} {E A B:Option Addr} {hi g ce gr cap bap:Nat} (r:Rx) (hok:RxOk l r) (Ah Bt Rr:Option Addr) (ch ct mr cr:Nat) (P:Nat→Prop) (w:World) (h:MachAt w hi g l E ce gr A B cap bap) (hS:ShapesM w) (hH:TermIn w P r.hd Ah ch) (hB:TermIn w P (.node 0 0 r.ts) Bt ct) (hP:∀b,P b→b<w.heap.size):
    Calls prog 84 #[.pointer (some ⟨g,0,none⟩),.agg #[.int .i64 r.hd.k,.int .i64 r.hd.n,.slice Ah r.hd.l.length ch,.slice Bt r.ts.length ct,.slice Rr mr cr]] w (GivesRd l r (fun b=>b<hi) w):=by
  have hg:tgoodB (.node r.hd.k r.hd.n r.hd.l)=true:=by rw[←r.hd.eta];exact(shapedB_true.1 hok.hs).2.2
  obtain⟨-, -,g3, -, -,g6,g7⟩:=good_parts hg;have hfm:=h.rules.fm;rcases hok.kd with ⟨k4,l1⟩|⟨k6,e3,l0⟩|⟨k6,e4,lf⟩|⟨k7,e1,lg⟩
  · rw[k4]at g3;obtain⟨a,b,hab⟩:∃a b,r.hd.l=[a,b]:=by
      have h2:r.hd.l.length=2:=g3
      match hl:r.hd.l,h2 with
      | [a,b],_=>exact⟨a,b,rfl⟩
    obtain⟨x,hx⟩:∃x,r.ts=[x]:=List.length_eq_one_iff.1 l1;have hred:redR l r=some (manyX b [x]):=by unfold redR;rw[if_pos k4,hab,hx];rfl
    have hE:r.hd= .node 4 r.hd.n [a,b]:=r.hd.eta.trans (by rw[k4,hab]);have hh:IsTerm w 0 w.heap.size (.node 4 r.hd.n [a,b]) Ah ch:=by rw[←hE];exact hH.isT hP
    have hxx:IsTerms w 0 w.heap.size [x] Bt ct:=by
      have:=hB.isT hP;rw[hx]at this;exact this
    have:=mreduct_lam r.hd.n a b x Ah Bt Rr ch ct mr cr w h hh hxx hS;rw[k4,hab,hx];refine this.mono fun e w' hq=> ?_;unfold GivesRd;rw[hred];exact hq.sr
  · have hred:redR l r=some ((entT l r.hd.n).b,0):=by unfold redR;rw[if_neg (by omega),if_pos e3]
    have:=mreduct_def r.hd.n Ah Bt Rr r.hd.l.length ch r.ts.length ct mr cr w h e3;rw[k6];refine this.mono fun e w' hq=> ?_;obtain⟨F,C,h1,h2,h3⟩:=hq;unfold GivesRd;rw[hred];exact⟨F,C,h1,TermIn.imp (fun _ _ _=>rfl) (fun b hb=>⟨.inl hb.2,by have:=h.rules.hl;have:=h3.size;have:=hb.2;omega⟩) h2,h3⟩
  · have hpos:0<r.ts.length:=by have:=(ent_small hfm (.inr e4)).1;omega
    have hw:waitsE l r.hd.k r.hd.n=true:=by unfold waitsE;simp[k6,e4]
    have ht:=tgt_in hpos;have hsT:=tgt_shaped hok hpos;by_cases hst:conE l (tgtR r)=true∧famOf9 l (tgtR r)=(entT l r.hd.n).f
    · have hred:redR l r=some (fldX l r.hd.n (ownArg l (tgtR r))):=by
        unfold redR;rw[if_neg (by omega),if_neg (by omega),if_neg (by rw[hst.1];simp),if_pos ⟨k6,hst.2⟩]
      have:=mreduct_field r.hd.k r.hd.n Ah Bt Rr r.hd.l.length ch r.ts.length ct mr cr (r.ts.length - 1) r.ts P w h hS hB hP (by omega) lrE4 k6 e4 (by rw[←ht];exact hsT) (by rw[←ht];exact hst);refine this.mono fun e w' hq=> ?_;unfold GivesRd;rw[hred];rw[←ht]at hq;exact hq.sr
    · have hred:redR l r=none:=by
        unfold redR;rw[if_neg (by omega),if_neg (by omega)];by_cases hc:conE l (tgtR r)=false
        · rw[if_pos hc]
        · rw[if_neg hc,if_neg (fun h=>hst ⟨by simpa using hc,h.2⟩),if_neg (by omega)]
      have hse:stuckE l r.hd.k r.hd.n (tgtR r):=by
        unfold stuckE;by_cases hc:conE l (tgtR r)=false
        · exact .inl hc
        · exact .inr (.inl ⟨k6,fun h=>hst ⟨by simpa using hc,h⟩⟩)
      have:=mreduct_stuck r.hd.k r.hd.n Ah Bt Rr r.hd.l.length ch r.ts.length ct mr cr (r.ts.length - 1) r.ts P w h hS hB hP (by omega) lrE4 (.inl k6) hw (by rw[←ht];exact hsT) (by rw[←ht];exact hse);refine this.mono fun e w' hq=> ?_;unfold GivesRd;rw[hred];exact hq
  · have hes:=ent_small hfm (.inl e1);obtain⟨he1,he2,he3⟩:=hes.2.2 e1;have he0:=hes.1;have he4:=hes.2.1;have hpos:0<r.ts.length:=by omega
    have hw:waitsE l r.hd.k r.hd.n=true:=by unfold waitsE;simp[k7,e1]
    have ht:=tgt_in hpos;have hsT:=tgt_shaped hok hpos;by_cases hst:conE l (tgtR r)=true∧famOf9 l (tgtR r)=r.hd.n
    · have hred:redR l r=some (ruleR l r (tgtR r)):=by
        unfold redR;rw[if_neg (by omega),if_neg (by omega),if_neg (by rw[hst.1];simp),if_neg (by omega),if_pos ⟨k7,hst.2⟩]
      have h0:0<r.hd.l.length:=by rw[g3,k7];decide
      obtain⟨a0,ha0⟩:∃a0:Nat,(entT l r.hd.n).a=(a0:Int):=⟨(entT l r.hd.n).a.toNat,by omega⟩;obtain⟨m,hm,hnm,hem⟩:=entT_in (l:=l) (n:=(headT (tgtR r)).n) (by
        have h1:=hst.1;unfold conE at h1;simp only[Bool.and_eq_true,decide_eq_true_eq]at h1;rw[h1.2.1];decide)
      have hcc:=hst.1;unfold conE at hcc;simp only[Bool.and_eq_true,decide_eq_true_eq]at hcc;obtain⟨-,c2,c3⟩:=hcc;rw[hem]at c2 c3;obtain⟨d,hd,hc⟩:=con_facts hfm hm c2;have hdn:r.hd.n=(d:Int):=by
        have:=hst.2;unfold famOf9 at this;rw[hem]at this;rw[←this];exact hc.f
      have hed:entT l r.hd.n=l[d]:=by rw[hdn];exact entT_at hd
      obtain⟨q,hq0,hq⟩:=con_place hfm c2 hc;have hv:0≤(r.hd.l[0]'h0).n∧(r.hd.l[0]'h0).n≤7:=by
        have hgs:=g7 _ (List.getElem_mem h0);have hk2:(r.hd.l[0]'h0).k=2:=by
          have:=(ttop_facts g6).2.2.2.2.2 k7;unfold firstM at this
          match hl:r.hd.l,h0 with
          | t::rest,_=>
            rw[hl]at this;simpa [hl]using this
        rw[(r.hd.l[0]'h0).eta,tgoodB_node,Bool.and_eq_true,hk2]at hgs;obtain⟨_,_,_,f4,f5,_⟩:=ttop_facts hgs.1;exact⟨f4,by simpa [mostM]using f5⟩
      have hgd:r.hd.l.getD 0 zT=r.hd.l[0]'h0:=by rw[List.getD_eq_getElem?_getD,List.getElem?_eq_getElem h0];rfl
      have hct:(r.ts.take (a0+1+(entT l r.hd.n).c.length)).length=a0+1+(entT l r.hd.n).c.length:=by rw[List.length_take];omega
      have hsh:=(head_args_shaped hsT).2;have hown:(ownArg l (tgtR r)).length=(partsAt l m).args.length:=by
        have h0:partsAt l m=partsT l[m] (moOf l l[m]):=by unfold partsAt;rw[List.getElem?_eq_getElem hm]
        rw[h0];unfold ownArg;show _=((telT l[m].t).drop l[m].a.toNat).length
        rw[List.length_drop,List.length_drop,(tel_facts hc.sh).1,hem,c3]
      have hE:r.hd= .node r.hd.k r.hd.n r.hd.l:=r.hd.eta;have hrl:ruleR l r (tgtR r)=stpX (partsAt l m) a0 q r.hd.n (r.hd.l[0]'h0).n (r.ts.take (a0+1+(entT l r.hd.n).c.length)) (ownArg l (tgtR r)):=by
        unfold ruleR;rw[hnm,hgd,entT_at hm,hq0,ha0];simp only[Int.toNat_natCast]
      have:=mreduct_elim r.hd.k r.hd.n Ah Bt Rr r.hd.l.length ch r.ts.length ct mr cr (r.ts.length - 1) r.ts P w h hS hB hP (by omega) lrE4 r.hd.l rfl (by rw[←hE];exact hH.isT hP) h0 a0 ha0 (by omega) (by omega) (ruleR l r (tgtR r)).1 (ruleR l r (tgtR r)).2 k7 e1 (by rw[←ht];exact hsT) (by rw[←ht];exact hst) (by
        rw[←ht];intro V hV Bo na co hna hown';have hargs:IsTerms V 0 V.heap.size (r.ts.take (a0+1+(entT l r.hd.n).c.length)) Bt ct:=IsTerms.take (((hB.isT hP).kept hV lrE4).wide lrE4 hV.size) _;have hgo:=istep_go l A B cap bap hi gr m d a0 q (r.hd.l[0]'h0).n hm hd (r.ts.take (a0+1+(entT l r.hd.n).c.length)) (ownArg l (tgtR r)) Bt Bo ct co V (h.below hV).rules c2 hc (by rw[←hed];exact ha0) hq0 hq hv hargs hown'
          (by
            unfold shN;rw[Bool.and_eq_true];refine⟨decide_eq_true ?_,List.all_eq_true.2 fun u hu=>hok.st u (List.mem_of_mem_take hu)⟩;rw[hct,hed];omega)
          (by
            unfold shN;rw[Bool.and_eq_true];exact⟨decide_eq_true (by rw[hown]),List.all_eq_true.2 fun u hu=>hsh u (List.mem_of_mem_drop hu)⟩)
          (hS.kept hV)
        rw[hct]at hgo;subst hna;rw[←hnm,←hdn]at hgo;rw[hrl];exact hgo)
      refine this.mono fun e w' hq=> ?_;unfold GivesRd;rw[hred];exact hq.sr
    · have hred:redR l r=none:=by
        unfold redR;rw[if_neg (by omega),if_neg (by omega)];by_cases hc:conE l (tgtR r)=false
        · rw[if_pos hc]
        · rw[if_neg hc,if_neg (by omega),if_neg (fun h=>hst ⟨by simpa using hc,h.2⟩)]
      have hse:stuckE l r.hd.k r.hd.n (tgtR r):=by
        unfold stuckE;by_cases hc:conE l (tgtR r)=false
        · exact .inl hc
        · exact .inr (.inr ⟨k7,fun h=>hst ⟨by simpa using hc,h⟩⟩)
      have:=mreduct_stuck r.hd.k r.hd.n Ah Bt Rr r.hd.l.length ch r.ts.length ct mr cr (r.ts.length - 1) r.ts P w h hS hB hP (by omega) lrE4 (.inr k7) hw (by rw[←ht];exact hsT) (by rw[←ht];exact hse);refine this.mono fun e w' hq=> ?_;unfold GivesRd;rw[hred];exact hq
theorem stuck_of {l:List ET} (hf:formedB l=true) {r:Rx} (hok:RxOk l r) (h:redR l r=none):(r.hd.k=6∨r.hd.k=7)∧waitsE l r.hd.k r.hd.n=true∧0<r.ts.length∧stuckE l r.hd.k r.hd.n (tgtR r):=by
 unfold redR at h;rcases hok.kd with ⟨k4,l1⟩|⟨k6,e3,l0⟩|⟨k6,e4,lf⟩|⟨k7,e1,lg⟩
 ·rw[if_pos k4]at h;cases h
 ·rw[if_neg (by omega),if_pos e3]at h;cases h
 ·rw[if_neg (by omega),if_neg (by omega)]at h;refine⟨.inl k6,by unfold waitsE;simp[k6,e4],by have:=(ent_small hf (.inr e4)).1;omega, ?_⟩;unfold stuckE;by_cases hc:conE l (tgtR r)=false
  ·exact .inl hc
  ·rw[if_neg hc]at h;by_cases hq:famOf9 l (tgtR r)=(entT l r.hd.n).f
   ·rw[if_pos ⟨k6,hq⟩]at h;cases h
   ·exact .inr (.inl ⟨k6,hq⟩)
 ·have hes:=ent_small hf (.inl e1);have he3:=(hes.2.2 e1).1;rw[if_neg (by omega),if_neg (by omega)]at h;refine⟨.inr k7,by unfold waitsE;simp[k7,e1],by have:=hes.1;omega, ?_⟩;unfold stuckE;by_cases hc:conE l (tgtR r)=false
  ·exact .inl hc
  ·rw[if_neg hc,if_neg (by omega)]at h;by_cases hq:famOf9 l (tgtR r)=r.hd.n
   ·rw[if_pos ⟨k7,hq⟩]at h;cases h
   ·exact .inr (.inr ⟨k7,hq⟩)
def MachM (w:World) (hi g:Nat) (l:List ET):Prop:=∃E ce gr A B cap bap,MachAt w hi g l E ce gr A B cap bap
theorem MachM.below {w w':World} {hi g B:Nat} {l:List ET} (h:MachM w hi g l) (hb:Below B w w') (hB:w.heap.size≤B):MachM w' hi g l:=by
 obtain⟨E,ce,gr,A,B,cap,bap,h⟩:=h;exact⟨E,ce,gr,A,B,cap,bap,h.below (hb.mono hB)⟩
theorem MachM.fm {w:World} {hi g:Nat} {l:List ET} (h:MachM w hi g l):formedB l=true:=by
 obtain⟨E,ce,gr,A,B,cap,bap,h⟩:=h;exact h.rules.fm
theorem MachM.hl {w:World} {hi g:Nat} {l:List ET} (h:MachM w hi g l):hi≤w.heap.size:=by
 obtain⟨E,ce,gr,A,B,cap,bap,h⟩:=h;exact h.rules.hl
structure EnvW (w0 w:World) (l:List ET) (hi g gf:Nat) (f:Int) (a:Nat):Prop where
 b:Below w0.heap.size w0 w
 le:w0.heap.size≤gf
 s:ShapesM w0
 m:MachM w0 hi g l
 t:Mt w gf f a
 n:a≤1048576
theorem EnvW.below {w0 w V:World} {l:List ET} {hi g gf a:Nat} {f:Int} (h:EnvW w0 w l hi g gf f a) (hb:Below w.heap.size w V):EnvW w0 V l hi g gf f a:=⟨h.b.trans (hb.mono h.b.size),h.le,h.s,h.m,h.t.over hb,h.n⟩
theorem EnvW.up {w0 w V:World} {l:List ET} {hi g gf a b:Nat} {f:Int} (h:EnvW w0 w l hi g gf f a) (hu:Up gf w V) (ht:Mt V gf f b) (hn:b≤1048576):EnvW w0 V l hi g gf f b:=⟨h.b.trans (hu.below h.le h.b.size),h.le,h.s,h.m,ht,hn⟩
theorem EnvW.mach {w0 w:World} {l:List ET} {hi g gf a:Nat} {f:Int} (h:EnvW w0 w l hi g gf f a):MachM w hi g l:=h.m.below h.b lrE4
theorem EnvW.shp {w0 w:World} {l:List ET} {hi g gf a:Nat} {f:Int} (h:EnvW w0 w l hi g gf f a):ShapesM w:=h.s.kept h.b
def zTV:Value:= .agg #[.int .i64 0,.int .i64 0,.slice none 0 0]
def StpOut (l:List ET) (hi gf:Nat) (f:Int) (r:Rx) (P:Nat→Prop) (a:Nat) (w:World) (e:Ending) (w':World):Prop:=
  Up gf w w'∧((redR l r=none∧e= .returned (.tuple #[zTV,.bool false,.int .i64 0])∧Mt w' gf f a)∨
  (∃u q,redR l r=some (u,q)∧q≠0∧e= .returned (.tuple #[zTV,.bool false,.int .i64 q])∧Mt w' gf f a)∨
  (∃u,redR l r=some (u,0)∧a=0∧e= .returned (.tuple #[zTV,.bool false,.int .i64 8])∧Mt w' gf f a)∨
  (∃u b,redR l r=some (u,0)∧a=b+1∧shapedB (applyT u r.rs)=false∧e= .returned (.tuple #[zTV,.bool false,.int .i64 2])∧Mt w' gf f (b:Nat))∨
  (∃u b F cF,redR l r=some (u,0)∧a=b+1∧shapedB (applyT u r.rs)=true∧e= .returned (.tuple #[termV (applyT u r.rs) F cF,.bool true,.int .i64 0])∧TermIn w' (fun x=>((P x∨x<hi)∨w.heap.size≤x)∧x<w'.heap.size) (applyT u r.rs) F cF∧Mt w' gf f (b:Nat)))
theorem GivesSr.wide {P P':Nat→Prop} {u:TM} {c:Int} {w w':World} {e:Ending} (h:GivesSr P u c w e w') (hP:∀b,P b→P' b):GivesSr P' u c w e w':=by
 obtain⟨A,cap,h1,h2,h3⟩:=h;exact⟨A,cap,h1,TermIn.imp (fun _ _ _=>rfl) (fun b hb=>⟨hb.1.imp (hP b) id,hb.2⟩) h2,h3⟩
theorem mstep_all {l:List ET} {hi g gf a:Nat} {f:Int} (w0:World) (r:Rx) (hok:RxOk l r) (Ah Bt Rr:Option Addr) (ch ct cr:Nat) (P:Nat→Prop) (w:World) (h:EnvW w0 w l hi g gf f a) (hH:TermIn w P r.hd Ah ch) (hB:TermIn w P (.node 0 0 r.ts) Bt ct) (hR:TermIn w P (.node 0 0 r.rs) Rr cr) (hP:∀b,P b→b<w.heap.size∧b≠gf):
    Calls prog 59 #[.pointer (some ⟨g,0,none⟩),.agg #[.int .i64 r.hd.k,.int .i64 r.hd.n,.slice Ah r.hd.l.length ch,.slice Bt r.ts.length ct,.slice Rr r.rs.length cr],.pointer (some ⟨gf,0,none⟩)] w (StpOut l hi gf f r P a w):=by
  obtain⟨E,ce,gr,A,B,cap,bap,hm⟩:=h.mach;have hfm:=hm.rules.fm;have hhi:hi≤w.heap.size:=hm.rules.hl;have hgf:hi≤gf:=Nat.le_trans h.m.hl h.le;have hn:=h.n;have hcall:∀V,Below w.heap.size w V→Calls prog 84 #[.pointer (some ⟨g,0,none⟩),.agg #[.int .i64 r.hd.k,.int .i64 r.hd.n,.slice Ah r.hd.l.length ch,.slice Bt r.ts.length ct,.slice Rr r.rs.length cr]] V (GivesRd l r (fun b=>b<hi) V):=fun V hV=>
    mreduct_all r hok Ah Bt Rr ch ct r.rs.length cr P V (hm.below hV) (h.shp.kept hV) (hH.keptQ hV (fun b hb=>(hP b hb).1)) (hB.keptQ hV (fun b hb=>(hP b hb).1)) (fun b hb=>Nat.lt_of_lt_of_le (hP b hb).1 hV.size)
  cases hr:redR l r with
  | none=>
    obtain⟨h1,h2,h3,h4⟩:=stuck_of hfm hok hr;have ht:=tgt_in h3;refine(mstep_stuck r.hd.k r.hd.n Ah Bt Rr r.hd.l.length ch r.ts.length ct r.rs.length cr (r.ts.length - 1) (some ⟨gf,0,none⟩) r.ts P w hm h.shp hB (fun b hb=>(hP b hb).1) (by omega) lrE4 h1 h2 (by rw[←ht];exact tgt_shaped hok h3) (by rw[←ht];exact h4)).mono ?_;rintro e w' ⟨he,hb⟩;exact⟨Up.of hb,.inl ⟨hr,he,h.t.over hb⟩⟩
  | some p=>
    obtain⟨u,q⟩:=p;have hred:∀V,Below w.heap.size w V→Calls prog 84 #[.pointer (some ⟨g,0,none⟩),.agg #[.int .i64 r.hd.k,.int .i64 r.hd.n,.slice Ah r.hd.l.length ch,.slice Bt r.ts.length ct,.slice Rr r.rs.length cr]] V (GivesSr (fun b=>P b∨b<hi) u q V):=fun V hV=>
      (hcall V hV).mono fun e w' hq=>by
        unfold GivesRd at hq;rw[hr]at hq;exact GivesSr.wide hq (fun b hb=> .inr hb)
    by_cases hq:q=0
    · subst hq;have hP':∀b,(P b∨b<hi)→b<w.heap.size∧b≠gf:=fun b hb=>by
        rcases hb with hb|hb
        · exact hP b hb
        · exact⟨by omega,by omega⟩
      have hR':TermIn w (fun b=>P b∨b<hi) (.node 0 0 r.rs) Rr cr:=hR.imp (fun _ _ _=>rfl) (fun b hb=> .inl hb);cases a with
      | zero=>
        refine(mstep_dry gf (some ⟨g,0,none⟩) r.hd.k r.hd.n u Ah Bt Rr r.hd.l.length r.ts.length r.rs.length ch ct cr _ w hred f _ h.t rfl).mono ?_;rintro e w' ⟨he,hm',hu⟩;exact⟨hu,.inr (.inr (.inl ⟨u,hr,rfl,he,hm'⟩))⟩
      | succ b=>
        have e1:(((b+1:Nat):Int) - 1)=((b:Nat):Int):=by omega
        cases hs:shapedB (applyT u r.rs)with
        | false=>
          refine(mstep_long gf (some ⟨g,0,none⟩) r.hd.k r.hd.n u Ah Bt Rr r.hd.l.length r.ts.length r.rs.length ch ct cr _ w hred r.rs rfl hR' hP' _ rfl hs f _ h.t (by omega) w0 h.b h.le h.s).mono ?_;rintro e w' ⟨he,hm',hu⟩;rw[e1]at hm';exact⟨hu,.inr (.inr (.inr (.inl ⟨u,b,hr,rfl,hs,he,hm'⟩)))⟩
        | true=>
          refine(mstep_ok gf (some ⟨g,0,none⟩) r.hd.k r.hd.n u Ah Bt Rr r.hd.l.length r.ts.length r.rs.length ch ct cr _ w hred r.rs rfl hR' hP' _ rfl hs f _ h.t (by omega) w0 h.b h.le h.s).mono ?_;rintro e w' ⟨F,cF,he,ht,hm',hu⟩;rw[e1]at hm';exact⟨hu,.inr (.inr (.inr (.inr ⟨u,b,F,cF,hr,rfl,hs,he,ht,hm'⟩)))⟩
    · refine(mstep_err (some ⟨g,0,none⟩) r.hd.k r.hd.n u q hq (some ⟨gf,0,none⟩) Ah Bt Rr r.hd.l.length r.ts.length r.rs.length ch ct cr _ w hred).mono ?_;rintro e w' ⟨he,hb⟩;exact⟨Up.of hb,.inr (.inl ⟨u,q,hr,hq,he,h.t.over hb⟩)⟩
structure WR where
 r:Rx
 A:Option Addr
 c:Nat
 b:Nat
 d:Nat
def restA (p:WR):Option Addr:=if p.d=p.r.ts.length then some ⟨p.b,0,none⟩else some ⟨p.b,p.r.ts.length*3,none⟩
def cellsW (p:WR):List Value:=[.int .i64 p.r.hd.k,.int .i64 p.r.hd.n,.slice p.A p.r.hd.l.length p.c,.slice (some ⟨p.b,0,none⟩) p.r.ts.length p.d,.slice (restA p) p.r.rs.length (p.d - p.r.ts.length)]
def flatW (ps:List WR):List Value:=ps.flatMap cellsW
theorem cellsW_len (p:WR):(cellsW p).length=5:=rfl
theorem flatW_snoc (ps:List WR) (p:WR):flatW (ps++[p])=flatW ps++cellsW p:=by unfold flatW;simp
theorem flatW_len (ps:List WR):(flatW ps).length=ps.length*5:=by
 induction ps with
 | nil=>rfl
 | cons p ps ih=>
  have:(flatW (p::ps)).length=5+(flatW ps).length:=by unfold flatW;simp[cellsW_len]
  rw[this,ih,List.length_cons];omega
theorem flatW_app (ps qs:List WR):flatW (ps++qs)=flatW ps++flatW qs:=by unfold flatW;simp
theorem flatW_take (ps:List WR) (n:Nat) (h:n≤ps.length):(flatW ps).take (n*5)=flatW (ps.take n):=by
 have e:flatW ps=flatW (ps.take n)++flatW (ps.drop n):=by rw[←flatW_app,List.take_append_drop]
 rw[e,List.take_append_of_le_length (by rw[flatW_len,List.length_take];omega)];exact List.take_of_length_le (by rw[flatW_len,List.length_take];omega)
theorem flatW_at (ps:List WR) (j q:Nat) (hj:j<ps.length) (hq:q<5):(flatW ps)[j*5+q]? =(cellsW ps[j])[q]? :=by
 have e:flatW ps=flatW (ps.take j)++(cellsW ps[j]++flatW (ps.drop (j+1))):=by
  have h1:ps=ps.take j++ps[j]::ps.drop (j+1):=by rw[List.getElem_cons_drop hj,List.take_append_drop]
  have h2:flatW (ps[j]::ps.drop (j+1))=cellsW ps[j]++flatW (ps.drop (j+1)):=by unfold flatW;rw[List.flatMap_cons]
  rw[←h2,←flatW_app,←h1]
 have hl:(flatW (ps.take j)).length=j*5:=by rw[flatW_len,List.length_take];omega
 rw[e,List.getElem?_append_right (by omega),hl,show j*5+q - j*5=q by omega,List.getElem?_append_left (by rw[cellsW_len];omega)]
theorem flatW_one (ps:List WR):∀u∈flatW ps,u.oneCell'=true:=by
 intro u hu;unfold flatW at hu;obtain⟨p, -,hp⟩:=List.mem_flatMap.1 hu;unfold cellsW at hp;simp only[List.mem_cons,List.not_mem_nil,or_false]at hp;rcases hp with rfl|rfl|rfl|rfl|rfl<;>rfl
theorem infoW9:(prog.info? 97).map (fun i=>(i.zero,i.size,i.bytes))=some (some (.agg #[.int .i64 0,.int .i64 0,.slice none 0 0,.slice none 0 0,.slice none 0 0]),5,88):=by kernel_rfl
theorem own_take {w:World} {base:Nat} {e:TypeId} {size n m cap:Nat} {a:Option Addr} {xs:List Value} (h:w.ownsRow base e size (.slice a n cap) n xs) (hm:m≤n):w.ownsRow base e size (.slice a m cap) m (xs.take (m*size)):=by
 have hms:m*size≤n*size:=Nat.mul_le_mul_right _ hm;refine⟨by rw[List.length_take,h.1];omega, ?_⟩;rcases h.2 with ⟨hv,h0⟩|⟨g,cap',cur,hv,h1,h2,h3,h4,h5,h6⟩
 ·injection hv with e1 e2 e3;have:m=0:=by omega
  subst this;exact .inl ⟨by rw[e1,e3],rfl⟩
 ·injection hv with e1 e2 e3;subst e3;exact .inr ⟨g,cap,cur,by rw[e1],h1,h2,by omega,h4,h5,by rw[←h6,List.take_take,Nat.min_eq_left hms]⟩
theorem own_at {w:World} {base:Nat} {ps:List WR} {a:Option Addr} {cap:Nat} (h:w.ownsRow base 97 5 (.slice a ps.length cap) ps.length (flatW ps)) (h0:0<ps.length):∃g,a=some ⟨g,0,none⟩∧base≤g∧g<w.heap.size∧ps.length≤cap∧cap≤maxLen∧∀j q (hj:j<ps.length),q<5→w.cell? ⟨g,j*5+q,none⟩=(cellsW ps[j])[q]? :=by
 rcases h.2 with ⟨hv,h1⟩|⟨g,cap',cur,hv,h1,h2,h3,h4,h5,h6⟩
 ·omega
 ·injection hv with e1 e2 e3;subst e3;have hl:=h.lt g (by rw[e1];rfl);refine⟨g,e1,hl.1,hl.2,h3,h4,fun j q hj hq=> ?_⟩;rw[cell_of_row w g _ _ _ (0,0) h2,←flatW_at ps j q hj hq,←h6,List.getElem?_take,if_pos (by omega),Array.getElem?_toList]
def ReachOut (base left:Nat) (ps:List WR) (w:World) (A:Option Addr) (e:Ending) (w':World):Prop:=
 ∃a c ks n,e= .returned (.slice a ks.length c)∧w'.ownsRow base 97 5 (.slice a ks.length c) ks.length (flatW ks)∧Below w.heap.size w w'∧ks=ps.drop n∧(n=0∨left<ks.length)∧ks.length≤2*(left+1)∧(a=A∨∀b,(Value.slice a ks.length c).ownBlock=some b→w.heap.size≤b)
theorem cloneR_any (ps:List WR) (n:Nat) (hn:n<ps.length) (base:Nat) (A:Option Addr) (cap:Nat) (w:World) (h:w.ownsRow base 97 5 (.slice A ps.length cap) ps.length (flatW ps)) (hbase:base≤w.heap.size) (hlen:ps.length≤4000000) (g:Nat) (hA:A=some ⟨g,0,none⟩):
  Calls prog 113 #[.slice (some ⟨g,n*5,none⟩) (ps.length - n) (cap - n)] w fun e w'=>∃a c,e= .returned (.slice a (ps.drop n).length c)∧w'.ownsRow w.heap.size 97 5 (.slice a (ps.drop n).length c) (ps.drop n).length (flatW (ps.drop n))∧Below w.heap.size w w':=by
 obtain⟨i0,hi0,hz0,hz1,hz2⟩:=info_parts infoW9;have q22:∀(w:World) (a:Option Addr) (n c n' c':Nat),(binOp .eql 128 (.slice a n c) (.slice none n' c')).run prog w= .ok (.bool a.isNone) w:=fun w a n c n' c'=>Lib.run_eql_slice_nil w _ _ a n c n' c' Tryz.underlying128;obtain⟨g',hg', -,hgl, -, -,hcell⟩:=own_at h (by omega);obtain rfl:g=g':=by rw[hA]at hg';injection hg' with e;injection e
 have hdl:(ps.drop n).length=ps.length - n:=List.length_drop;have HOM:=hid (show(w.alloc (.cells #[] 97)).ownsRow w.heap.size 97 5 (.slice (some ⟨w.heap.size,0,none⟩) 0 0) 0 []from World.ownsRow_made w #[] 0 lrE4 (Nat.zero_le _) rfl);have HB1:=hid (show Below w.heap.size w (w.alloc (.cells #[] 97))from(Below.refl _ _).alloc lrE4 _);have HSRC:Hid (Src (w.alloc (.cells #[] 97)) 5 (some ⟨g,n*5,none⟩) (ps.length - n) (flatW (ps.drop n))):=hid ⟨by rw[flatW_len,hdl],fun h0=>by
  refine⟨_,rfl,fun j u hj=> ?_⟩;rw[Addr.add_lit];refine(HB1.out.cell (p:=⟨g,n*5+j,none⟩) hgl).trans ?_;have hjl:j<(flatW (ps.drop n)).length:=by
   rcases Nat.lt_or_ge j (flatW (ps.drop n)).length with h1|h1
   ·exact h1
   ·rw[List.getElem?_eq_none h1]at hj;cases hj
  rw[flatW_len,hdl]at hjl;have hq:j/5<(ps.drop n).length:=by rw[hdl];omega
  have e1:=flatW_at (ps.drop n) (j/5) (j % 5) hq (by omega);rw[show j/5*5+j % 5=j by omega,hj]at e1;rw[e1,List.getElem_drop,show n*5+j=(n+j/5)*5+j % 5 by omega];exact hcell _ _ (by omega) (by omega)⟩
 have HDL:=hid hdl;obtain⟨k,hk⟩:∃k,ps.length - n=k:=⟨_,rfl⟩;obtain⟨ds,hds⟩:∃ds,ps.drop n=ds:=⟨_,rfl⟩;rw[hk,hds]at HDL HSRC;rw[hk,hds];have hml:k≤4000000:=by omega
 clear h hA hg' hcell hgl hdl hk hds hlen hn hbase;go_enter func113,ntmps113;go_wp2_with (at_builtin;refine wpList_app rfl _ _ 128 rfl w.heap.size 97 i0 (.agg #[.int .i64 0,.int .i64 0,.slice none 0 0,.slice none 0 0,.slice none 0 0]) 5 88 Tryz.underlying128 hi0 hz0 hz1 hz2 rfl (by decide) _ _ _ rfl HOM.out (some ⟨g,n*5,none⟩) k (cap - n) (flatW ds) rfl HSRC.out (flatW_one _) ?c3 ?c4 ?c5 ?_)
 case c3=>unfold maxLen;omega
 case c4=>omega
 case c5=>simp
 rintro v2 w4 ⟨ha1,ha2,ha3⟩;obtain⟨a4,c4,rfl⟩:=own_sliceM ha1;have HBF:=hid (HB1.out.grown ha2 (by simp) (fun g e=>by simp[Value.ownBlock]at e;omega));have HA1:=hid ha1;clear ha1 ha2 ha3;go_wp2_with fail;go_ret;exact⟨a4,c4,by rw[HDL.out];rfl,by rw[HDL.out];exact HA1.out,HBF.out⟩
theorem reachable_any (ps:List WR) (base left:Nat) (hleft:left≤1048576) (A:Option Addr) (cap:Nat) (w:World) (h:w.ownsRow base 97 5 (.slice A ps.length cap) ps.length (flatW ps)) (hbase:base≤w.heap.size) (hlen:ps.length≤4000000):
  Calls prog 82 #[.slice A ps.length cap,.int .i64 left] w (ReachOut base left ps w A):=by
 have HH:=hid h;obtain⟨N,hN⟩:∃N,ps.length=N:=⟨_,rfl⟩;have HN:=hid hN;by_cases hb:2*(left+1)<N
 ·obtain⟨g,hg, -, -,hcl,hcm, -⟩:=own_at h (by omega);have CC:=hid (cloneR_any ps (N - (left+1)) (by omega) base A cap w h hbase hlen g hg);subst hg;rw[hN]at CC hcl hlen;rw[hN];obtain⟨n,hn⟩:∃n,N - (left+1)=n:=⟨_,rfl⟩;rw[hn]at CC;have hw1:IntKind.i64.wrap ((left:Int)+1)=(left:Int)+1:=IntWalk.i64_in _ (by omega);have hw2:IntKind.i64.wrap (2*((left:Int)+1))=2*((left:Int)+1):=IntWalk.i64_in _ (by omega);have hw3:IntKind.i64.wrap ((N:Int) - ((left:Int)+1))=(n:Int):=by rw[IntWalk.i64_in _ (by omega)];omega
  have t1:decide ((N:Int)>2*((left:Int)+1))=true:=decide_eq_true (by omega);have t2:decide (2*((left:Int)+1)<(N:Int))=true:=decide_eq_true (by omega);have h1:(n:Int)≤(N:Int):=by omega
  have h2:(N:Int)≤(cap:Int):=by omega
  have h3:(n:Int)≤(cap:Int):=by omega
  have hnc: ¬ cap=n:=by omega
  have HX:=hid (show(ps.drop n).length=left+1 from by rw[List.length_drop,hN];omega);clear h hN hb hn hcl hcm hlen;go_enter func82,ntmps82;go_wp2_with fail;refine CC.out.mono ?_;rintro e w1 ⟨a,c,rfl,ho,hb1⟩;have HO:=hid ho;have HB:=hid hb1;clear ho hb1;go_wp2_with fail;go_ret;have ho:=HO.out;refine⟨a,c,ps.drop n,n,by rw[List.length_drop];rfl,⟨ho.1,ho.2.imp id fun⟨g',c',cu,z1,z2,z3⟩=>⟨g',c',cu,z1,by omega,z3⟩⟩,HB.out,rfl,.inr (by rw[HX.out];omega),by rw[HX.out];omega,.inr fun b hb=>(ho.lt b hb).1⟩
 ·rw[hN];have hw1:IntKind.i64.wrap ((left:Int)+1)=(left:Int)+1:=IntWalk.i64_in _ (by omega);have hw2:IntKind.i64.wrap (2*((left:Int)+1))=2*((left:Int)+1):=IntWalk.i64_in _ (by omega);have t1:decide ((N:Int)>2*((left:Int)+1))=false:=decide_eq_false (by omega);have t2:decide (2*((left:Int)+1)<(N:Int))=false:=decide_eq_false (by omega);have HX:=hid (show N≤2*(left+1)from by omega);clear h hN hb hlen;go_enter func82,ntmps82;go_wp2_with fail;go_ret;exact⟨A,cap,ps,0,by rw[HN.out];rfl,HH.out,Below.refl _ _,rfl,.inl rfl,by rw[HN.out];exact HX.out,.inl rfl⟩
theorem target_at (k n:Int) (Ah Rr:Option Addr) (b o:Nat) (mh ch m ct mr cr q:Nat) (x:TM) (Fq:Option Addr) (Cq:Nat) (w:World) (hm:m=q+1) (hmm:m≤maxLen) (hbw:b<w.heap.size) (hq:Cells3 w b (o+q*3) x Fq Cq):
  Calls prog 57 #[.agg #[.int .i64 k,.int .i64 n,.slice Ah mh ch,.slice (some ⟨b,o,none⟩) m ct,.slice Rr mr cr]] w fun e w'=>e= .returned (termV x Fq Cq)∧Below w.heap.size w w':=by
 obtain⟨l0,l1,l2⟩:=hq;unfold termV;obtain⟨X,hX⟩:∃X,(w.alloc (.cells #[.int .i64 k,.int .i64 n,.slice Ah mh ch,.slice (some ⟨b,o,none⟩) m ct,.slice Rr mr cr] 97)).alloc (.cells #[.int .i64 0,.int .i64 0,.slice none 0 0] 25)=X:=⟨_,rfl⟩;have HBX:=hid (show Below w.heap.size w X from by rw[←hX];exact((Below.refl _ _).alloc lrE4 _).alloc (by simp) _);have HKR:=hid (show Bk X w.heap.size 97 #[.int .i64 k,.int .i64 n,.slice Ah mh ch,.slice (some ⟨b,o,none⟩) m ct,.slice Rr mr cr]from by rw[←hX];exact(Bk.new _ _ _).alloc _);have HKT:=hid (show Bk X (w.heap.size+1) 25 #[.int .i64 0,.int .i64 0,.slice none 0 0]from by rw[←hX];exact Bk.last _ _ _ (by simp));have y3:X.cell? ⟨w.heap.size,3,none⟩=some (.slice (some ⟨b,o,none⟩) m ct):=HKR.out.cell 3;have x0:X.cell? ⟨b,o+q*3,none⟩=some (.int .i64 x.k):=(HBX.out.cell (p:=⟨b,o+q*3,none⟩) hbw).trans l0;have x1:X.cell? ⟨b,o+q*3+1,none⟩=some (.int .i64 x.n):=(HBX.out.cell (p:=⟨b,_,none⟩) hbw).trans l1;have x2:X.cell? ⟨b,o+q*3+2,none⟩=some (.slice Fq x.l.length Cq):=(HBX.out.cell (p:=⟨b,_,none⟩) hbw).trans l2;have hlr:=HKT.out.lt;have hfr:∀p,X.frozen? ⟨w.heap.size+1,p,none⟩=false:=fun p=>HKT.out.cold p;have r0:X.cell? ⟨w.heap.size+1,0,none⟩=some (.int .i64 0):=HKT.out.cell 0;have r1:X.cell? ⟨w.heap.size+1,1,none⟩=some (.int .i64 0):=HKT.out.cell 1;have r2:X.cell? ⟨w.heap.size+1,2,none⟩=some (.slice none 0 0):=HKT.out.cell 2;have B5:=((HKT.out.at_ 0 (.int .i64 x.k)).at_ 1 (.int .i64 x.n)).at_ 2 (.slice Fq x.l.length Cq);have HS0:=hid (B5.cell 0);have HS1:=hid (B5.cell 1);have HS2:=hid (B5.cell 2);have hw:IntKind.i64.wrap ((m:Int) - 1)=(q:Int):=by rw[IntWalk.i64_in _ (by unfold maxLen at hmm;omega)];omega
 have hqm:(q:Int)<(m:Int):=by omega
 clear B5 l0 l1 l2 hm hmm;go_enter func57,ntmps57;go_wp2_with fail;refine bodyPost_ret (v:= .agg #[.int .i64 x.k,.int .i64 x.n,.slice Fq x.l.length Cq]) (by simp[results,results57,go_sem,HS0.out,HS1.out,HS2.out]) rfl ?_;exact⟨rfl,Below.st (g:=w.heap.size+1) (q:=2) (Below.st (g:=w.heap.size+1) (q:=1) (Below.st (g:=w.heap.size+1) (q:=0) HBX.out (by omega) _) (by omega) _) (by omega) _⟩
end Go.Proofs.YtchllgkgjompgaaGreatDoor
