import Derived.Test.YtchllgkgjompgaaGreatDoorE4
namespace Go.Proofs.YtchllgkgjompgaaGreatDoor
open Go.RowKit
set_option linter.unusedVariables false
set_option maxRecDepth 100000
theorem TermIn.same {V W:World} {Q:Nat→Prop} {t:TM} {A:Option Addr} {c:Nat} (h:TermIn V Q t A c) (hs:∀b,Q b→W.heap[b]? =V.heap[b]?):TermIn W Q t A c:=
 h.imp (fun b o hb=>World.cell?_of_block (a:=⟨b,o,none⟩) (hs b hb)) (fun _ h=>h)
theorem RowT.same {V W:World} {Q:Nat→Prop} {ts:List TM} {A:Option Addr} {d:Nat} (h:RowT V Q ts A d) (hz:V.heap.size≤W.heap.size) (hs:∀b,Q b→b<V.heap.size→W.heap[b]? =V.heap[b]?) (hA:∀b,A=some ⟨b,0,none⟩→b<V.heap.size→W.heap[b]? =V.heap[b]?):RowT W Q ts A d:=
 h.kept hz (fun b hb hl=>by
  have e:W.heap[b]? =V.heap[b]? :=hb.elim (fun h=>hs b h hl) (fun h=>hA b h hl);exact⟨fun o=>World.cell?_of_block (a:=⟨b,o,none⟩) e,fun o=>World.frozen?_of_block (a:=⟨b,o,none⟩) e⟩)
theorem RowT.mono {V:World} {Q Q':Nat→Prop} {ts:List TM} {A:Option Addr} {d:Nat} (h:RowT V Q ts A d) (hQ:∀b,Q b→Q' b) (hA:∀b,A=some ⟨b,0,none⟩→ ¬ Q' b):RowT V Q' ts A d:=by
 obtain⟨F,C,h1,h2,h3,h4⟩:=h;refine⟨F,C,h1,h2,fun h0=> ?_,fun i hi=>TermIn.imp (fun _ _ _=>rfl) (fun b hb=>⟨hQ b hb.1,hb.2⟩) (h4 i hi)⟩;obtain⟨b,e,k1,k2,k3⟩:=h3 h0;exact⟨b,e,k1,hA b e,k3⟩
theorem RowT.blk {V:World} {Q:Nat→Prop} {ts:List TM} {b d:Nat} (h:RowT V Q ts (some ⟨b,0,none⟩) d) (h0:0<ts.length):b<V.heap.size∧ ¬ Q b:=by
 obtain⟨F,C,h1,h2,h3,h4⟩:=h;obtain⟨b',e,k1,k2,k3⟩:=h3 h0;injection e with e;injection e with e;subst e;exact⟨k1,k2⟩
theorem least_ex {P:Nat→Prop} (h:∃n,P n):∃n,P n∧∀m,P m→n≤m:=by
 obtain⟨n,hn⟩:=h;induction n using Nat.strongRecOn with
 | _ n ih=>
  by_cases hq:∃m,m<n∧P m
  ·obtain⟨m,h1,h2⟩:=hq;exact ih m h1 h2
  ·exact⟨n,hn,fun m hm=>by
    rcases Nat.lt_or_ge m n with h|h
    ·exact absurd ⟨m,h,hm⟩ hq
    ·exact h⟩
noncomputable def leastN (P:Nat→Prop):Nat:= @Classical.epsilon Nat ⟨0⟩ fun n=>P n∧∀m,P m→n≤m
theorem leastN_spec {P:Nat→Prop} (h:∃n,P n):P (leastN P)∧∀m,P m→leastN P≤m:=Classical.epsilon_spec (p:=fun n=>P n∧∀m,P m→n≤m) (least_ex h)
structure BrI (l:List ET) (hi g gf:Nat) (f:Int) (w0 w:World) (Q0:Nat→Prop) (ps:List WR) (wh t:TM) (H:Option Addr) (cH:Nat) (F:Option Addr) (cF:Nat) (a:Nat) (Q:Nat→Prop) (sv:Value) (V:World):Prop where
 env:EnvW w0 V l hi g gf f a
 gfl:gf<w.heap.size
 up:Up gf w V
 bt:Bk V w.heap.size 25 #[.int .i64 t.k,.int .i64 t.n,.slice F t.l.length cF]
 br:Bk V (w.heap.size+1) 25 #[.int .i64 0,.int .i64 0,.slice none 0 0]
 bw:Bk V (w.heap.size+1+1) 25 #[.int .i64 wh.k,.int .i64 wh.n,.slice H wh.l.length cH]
 tin:TermIn V Q t F cF
 win:TermIn V Q wh H cH
 ts:shapedB t=true
 ws:shapedB wh=true
 row:V.ownsRow (w.heap.size+3) 97 5 sv ps.length (flatW ps)
 len:ps.length≤2097155
 rq:∀b,Q b→sv.ownBlock≠some b
 rp:∀p∈ps,sv.ownBlock≠some p.b
 wt:∀p∈ps,TermIn V Q p.r.hd p.A p.c∧RowT V Q (p.r.ts++p.r.rs) (some ⟨p.b,0,none⟩) p.d∧p.r.ts.length≤p.d∧RxOk l p.r∧waitsR l p.r=true∧w.heap.size+3≤p.b∧p.b<V.heap.size
 nd:(ps.map (·.b)).Nodup
 ql:∀b,Q b→b<V.heap.size∧b≠gf∧b≠w.heap.size∧b≠w.heap.size+1∧b≠w.heap.size+1+1
 qh:∀b,b<hi→Q b
 qi:∀b,Q b→Q0 b∨w.heap.size≤b
theorem BrI.below {l:List ET} {hi g gf:Nat} {f:Int} {w0 w V W:World} {ps:List WR} {wh t:TM} {H F:Option Addr} {cH cF a:Nat} {Q Q0:Nat→Prop} {sv:Value} (h:BrI l hi g gf f w0 w Q0 ps wh t H cH F cF a Q sv V) (hb:Below V.heap.size V W):BrI l hi g gf f w0 w Q0 ps wh t H cH F cF a Q sv W where
 env:=h.env.below hb
 gfl:=h.gfl
 up:=h.up.trans (Up.of hb)
 bt:=h.bt.below hb h.bt.lt
 br:=h.br.below hb h.br.lt
 bw:=h.bw.below hb h.bw.lt
 tin:=h.tin.same (fun b hq=>hb.block b (h.ql b hq).1)
 win:=h.win.same (fun b hq=>hb.block b (h.ql b hq).1)
 ts:=h.ts
 ws:=h.ws
 row:=h.row.kept (row:=none) ⟨hb.os,hb.tape,hb.output,hb.size,fun k hk _=>hb.block k hk⟩ (by
  cases sv.ownBlock with
  | none=>exact .inl rfl
  | some b=>exact .inr (by simp))
 len:=h.len
 rq:=h.rq
 rp:=h.rp
 wt:=fun p hp=>by
  obtain⟨k1,k2,k3,k4,k5,k6,k7⟩:=h.wt p hp;exact⟨k1.same (fun b hq=>hb.block b (h.ql b hq).1),k2.below hb,k3,k4,k5,k6,Nat.lt_of_lt_of_le k7 hb.size⟩
 nd:=h.nd
 ql:=fun b hq=>by
  obtain⟨k1,k2⟩:=h.ql b hq;exact⟨Nat.lt_of_lt_of_le k1 hb.size,k2⟩
 qh:=h.qh
 qi:=h.qi
theorem BrI.ft {l:List ET} {hi g gf:Nat} {f:Int} {w0 w V:World} {ps:List WR} {wh t:TM} {H F:Option Addr} {cH cF a:Nat} {Q Q0:Nat→Prop} {sv:Value} (h:BrI l hi g gf f w0 w Q0 ps wh t H cH F cF a Q sv V):w.heap.size+3≤V.heap.size:=by have:=h.bw.lt;omega
theorem own_same {V W:World} {base:Nat} {e:TypeId} {size:Nat} {v:Value} {n:Nat} {xs:List Value} (h:V.ownsRow base e size v n xs) (hs:∀k,v.ownBlock=some k→W.heap[k]? =V.heap[k]?):W.ownsRow base e size v n xs:=by
 refine⟨h.1,h.2.imp id ?_⟩;rintro⟨g,cap,cur,hv,h1,h2,h3⟩;exact⟨g,cap,cur,hv,h1,(hs g (by rw[hv];rfl)).trans h2,h3⟩
theorem ok_pos {l:List ET} (hf:formedB l=true) {r:Rx} (hok:RxOk l r) (hw:waitsR l r=true):0<r.ts.length:=by
 obtain⟨h1,h2⟩:=waits_not hw;rcases hok.kd with ⟨k4,l1⟩|⟨k6,e3,l0⟩|⟨k6,e4,lf⟩|⟨k7,e1,lg⟩
 ·exact absurd k4 h1
 ·exact absurd e3 h2
 ·have:=(ent_small hf (.inr e4)).1;omega
 ·have hes:=ent_small hf (.inl e1);have:=(hes.2.2 e1).1;have:=hes.1;omega
section
variable {l:List ET} {hi g gf:Nat} {f:Int} {w0 w V:World} {ps:List WR} {wh t:TM} {H F:Option Addr} {cH cF a:Nat} {Q Q0:Nat→Prop} {sv:Value}
theorem BrI.pb (h:BrI l hi g gf f w0 w Q0 ps wh t H cH F cF a Q sv V) {p:WR} (hp:p∈ps): ¬ Q p.b:=by
 obtain⟨k1,k2,k3,k4,k5,k6,k7⟩:=h.wt p hp;have:=ok_pos h.env.m.fm k4 k5;exact(k2.blk (by rw[List.length_append];omega)).2
structure St1 (V Z:World) (g:Nat):Prop where
 os:Z.os=V.os
 tape:Z.tape=V.tape
 output:Z.output=V.output
 size:Z.heap.size=V.heap.size
 block:∀k,k≠g→Z.heap[k]? =V.heap[k]?
theorem st1_three (V:World) (g:Nat) (u0 u1 u2:Value):St1 V (((V.setCell ⟨g,0,none⟩ u0).setCell ⟨g,1,none⟩ u1).setCell ⟨g,2,none⟩ u2) g:=
 ⟨rfl,rfl,rfl,size_three _ _ _ _ _,fun k hk=>by
  rw[Below.heap_setCell _ ⟨g,2,none⟩ u2 k hk,Below.heap_setCell _ ⟨g,1,none⟩ u1 k hk,Below.heap_setCell _ ⟨g,0,none⟩ u0 k hk]⟩
theorem BrI.whole (h:BrI l hi g gf f w0 w Q0 [] wh t H cH F cF a Q sv V) {Z:World} (hs:St1 V Z (w.heap.size+1+1)) (hb:Bk Z (w.heap.size+1+1) 25 #[.int .i64 t.k,.int .i64 t.n,.slice F t.l.length cF]):BrI l hi g gf f w0 w Q0 [] t t F cF F cF a Q sv Z:=by
 have hgl:=h.gfl;have hq:∀b,Q b→Z.heap[b]? =V.heap[b]? :=fun b hq=>hs.block b (h.ql b hq).2.2.2.2;have h0:w0.heap.size≤w.heap.size:=by have:=h.env.le;omega
 refine⟨⟨⟨hs.os.trans h.env.b.os,hs.tape.trans h.env.b.tape,hs.output.trans h.env.b.output,by rw[hs.size];exact h.env.b.size,fun k hk=>(hs.block k (by omega)).trans (h.env.b.block k hk)⟩,h.env.le,h.env.s,h.env.m,(hs.block gf (by omega)).trans h.env.t,h.env.n⟩,hgl,⟨hs.os.trans h.up.os,hs.tape.trans h.up.tape,hs.output.trans h.up.output,by rw[hs.size];exact h.up.size,fun k hk hr=>(hs.block k (by omega)).trans (h.up.block k hk hr)⟩,(hs.block _ (by omega)).trans h.bt,(hs.block _ (by omega)).trans h.br,hb,h.tin.same hq,h.tin.same hq,h.ts,h.ts,own_same h.row (fun k hk=>hs.block k (by have:=(h.row.lt k hk).1;omega)),h.len,h.rq,fun p hp=>(by cases hp),fun p hp=>(by cases hp),h.nd,fun b hb'=> ?_,h.qh,h.qi⟩;rw[hs.size];exact h.ql b hb'
theorem BrI.push (h:BrI l hi g gf f w0 w Q0 ps wh t H cH F cF a Q sv V) (p:WR) (n:Nat) (h1:TermIn V Q p.r.hd p.A p.c) (h2:RowT V Q (p.r.ts++p.r.rs) (some ⟨p.b,0,none⟩) p.d) (h3:p.r.ts.length≤p.d) (h4:RxOk l p.r) (h5:waitsR l p.r=true) (h6:w.heap.size+3≤p.b) (h7:sv.ownBlock≠some p.b) (h8:∀q∈ps,q.b≠p.b)
    {W:World} {sv':Value} (hz:V.heap.size≤W.heap.size) (hos:W.os=V.os) (htp:W.tape=V.tape) (hop:W.output=V.output) (hs:∀k,k<V.heap.size→k≠w.heap.size→some k≠sv.ownBlock→W.heap[k]? =V.heap[k]?)
    (hrow:W.ownsRow (w.heap.size+3) 97 5 sv' ((ps.drop n).length+1) (flatW (ps.drop n++[p]))) (hown:sv'.ownBlock=sv.ownBlock∨∀b,sv'.ownBlock=some b→V.heap.size≤b) (hlen:(ps.drop n).length+1≤2097155)
    {tg:TM} {F':Option Addr} {cF':Nat} (hbt:Bk W w.heap.size 25 #[.int .i64 tg.k,.int .i64 tg.n,.slice F' tg.l.length cF']) (htin:TermIn V Q tg F' cF') (htg:shapedB tg=true):
    BrI l hi g gf f w0 w Q0 (ps.drop n++[p]) wh tg H cH F' cF' a Q sv' W:=by
  have hgl:=h.gfl;have hft:=h.ft;have hrow0:∀k,sv.ownBlock=some k→w.heap.size+3≤k:=fun k hk=>(h.row.lt k hk).1;have hlo:∀k,k<w.heap.size+3→k≠w.heap.size→W.heap[k]? =V.heap[k]? :=fun k hk h1=>hs k (by omega) h1 (fun e=>by have:=hrow0 k e.symm;omega);have hq:∀b,Q b→W.heap[b]? =V.heap[b]? :=fun b hb=>hs b (h.ql b hb).1 (h.ql b hb).2.2.1 (fun e=>h.rq b hb e.symm);have h0:w0.heap.size≤w.heap.size:=by have:=h.env.le;omega
  have hpos:=ok_pos h.env.m.fm h4 h5;have hpb:=h2.blk (by rw[List.length_append];omega);have hown':∀b,b<V.heap.size→sv'.ownBlock=some b→sv.ownBlock=some b:=fun b hb e=>by
    rcases hown with h|h
    · rw[←h];exact e
    · have:=h b e;omega
  refine⟨⟨⟨hos.trans h.env.b.os,htp.trans h.env.b.tape,hop.trans h.env.b.output,Nat.le_trans h.env.b.size hz,fun k hk=>(hlo k (by omega) (by omega)).trans (h.env.b.block k hk)⟩,h.env.le,h.env.s,h.env.m,(hlo gf (by omega) (by omega)).trans h.env.t,h.env.n⟩,hgl,⟨hos.trans h.up.os,htp.trans h.up.tape,hop.trans h.up.output,Nat.le_trans h.up.size hz,fun k hk hr=>(hlo k (by omega) (by omega)).trans (h.up.block k hk hr)⟩,hbt,(hlo _ (by omega) (by omega)).trans h.br,(hlo _ (by omega) (by omega)).trans h.bw,htin.same hq,h.win.same hq,htg,h.ws,by rw[List.length_append];exact hrow,by rw[List.length_append];exact hlen,fun b hb e=>h.rq b hb (hown' b (h.ql b hb).1 e),fun q hq' e=> ?_,fun q hq'=> ?_, ?_,fun b hb=>⟨Nat.lt_of_lt_of_le (h.ql b hb).1 hz,(h.ql b hb).2⟩,h.qh,h.qi⟩
  · rcases List.mem_append.1 hq' with hq'|hq'
    · have hm:=List.mem_of_mem_drop hq';exact h.rp q hm (hown' _ (h.wt q hm).2.2.2.2.2.2 e)
    · simp only[List.mem_singleton]at hq';subst hq';exact h7 (hown' _ hpb.1 e)
  · rcases List.mem_append.1 hq' with hq'|hq'
    · have hm:=List.mem_of_mem_drop hq';obtain⟨k1,k2,k3,k4,k5,k6,k7⟩:=h.wt q hm;exact⟨k1.same hq,k2.same hz (fun b hb _=>hq b hb) (fun b e _=>by injection e with e;injection e with e;subst e;exact hs _ k7 (by omega) (fun e=>h.rp q hm e.symm)),k3,k4,k5,k6,Nat.lt_of_lt_of_le k7 hz⟩
    · simp only[List.mem_singleton]at hq';subst hq';exact⟨h1.same hq,h2.same hz (fun b hb _=>hq b hb) (fun b e _=>by injection e with e;injection e with e;subst e;exact hs _ hpb.1 (by omega) (fun e=>h7 e.symm)),h3,h4,h5,h6,Nat.lt_of_lt_of_le hpb.1 hz⟩
  · rw[List.map_append,List.nodup_append];refine⟨?_,by simp, ?_⟩
    · rw[List.map_drop];exact h.nd.sublist (List.drop_sublist _ _)
    · intro x hx y hy e;simp only[List.map_cons,List.map_nil,List.mem_singleton]at hy;obtain⟨q,hq',rfl⟩:=List.mem_map.1 hx;exact h8 q (List.mem_of_mem_drop hq') (e.trans hy)
theorem BrI.stepped (h:BrI l hi g gf f w0 w Q0 ps wh t H cH F cF a Q sv V) (ps':List WR) (pb:Option Nat) (hps:(ps'=ps∧pb=none)∨∃p,ps=ps'++[p]∧pb=some p.b)
    {W:World} {sv':Value} {b:Nat} {v:TM} {F':Option Addr} {cF':Nat} (hz:V.heap.size≤W.heap.size) (hos:W.os=V.os) (htp:W.tape=V.tape) (hop:W.output=V.output) (hs:∀k,k<V.heap.size→k≠gf→k≠w.heap.size→some k≠pb→W.heap[k]? =V.heap[k]?)
    (hm:Mt W gf f b) (hb:b≤1048576) (hbt:Bk W w.heap.size 25 #[.int .i64 v.k,.int .i64 v.n,.slice F' v.l.length cF']) (htin:TermIn W (fun x=>(Q x∨some x=pb∨V.heap.size≤x)∧x<W.heap.size) v F' cF') (hv:shapedB v=true)
    (hrow:V.ownsRow (w.heap.size+3) 97 5 sv' ps'.length (flatW ps')) (hown:sv'.ownBlock=sv.ownBlock):
    BrI l hi g gf f w0 w Q0 ps' wh v H cH F' cF' b (fun x=>(Q x∨some x=pb∨V.heap.size≤x)∧x<W.heap.size) sv' W:=by
  have hgl:=h.gfl;have hft:=h.ft;have hsub:∀p∈ps',p∈ps:=fun p hp=>by
    rcases hps with ⟨e,_⟩|⟨q,e,_⟩
    · rw[←e];exact hp
    · rw[e];exact List.mem_append_left _ hp
  have hpbin:∀x,some x=pb→∃p∈ps,p.b=x∧∀q∈ps',q.b≠x:=fun x hx=>by
    rcases hps with ⟨_,e⟩|⟨q,e,e2⟩
    · rw[e]at hx;cases hx
    · rw[e2]at hx;injection hx with hx;refine⟨q,by rw[e];simp,hx.symm,fun p hp e3=> ?_⟩;have:=h.nd;rw[e,List.map_append,List.nodup_append]at this;exact this.2.2 p.b (List.mem_map.2 ⟨p,hp,rfl⟩) q.b (by simp) (e3.trans hx)
  have hpge:∀x,some x=pb→w.heap.size+3≤x∧x<V.heap.size∧ ¬ Q x:=fun x hx=>by
    obtain⟨p,hp,rfl,_⟩:=hpbin x hx;have:=h.wt p hp;exact⟨this.2.2.2.2.2.1,this.2.2.2.2.2.2,h.pb hp⟩
  have hrow0:∀k,sv.ownBlock=some k→w.heap.size+3≤k∧k<V.heap.size:=fun k hk=>h.row.lt k hk;have hlo:∀k,k<w.heap.size+3→k≠gf→k≠w.heap.size→W.heap[k]? =V.heap[k]? :=fun k hk h1 h2=>hs k (by omega) h1 h2 (fun e=>by have:=(hpge k e).1;omega);have hq:∀x,Q x→W.heap[x]? =V.heap[x]? :=fun x hx=>hs x (h.ql x hx).1 (h.ql x hx).2.1 (h.ql x hx).2.2.1 (fun e=>(hpge x e).2.2 hx);have hQ:∀x,Q x→(Q x∨some x=pb∨V.heap.size≤x)∧x<W.heap.size:=fun x hx=>⟨.inl hx,Nat.lt_of_lt_of_le (h.ql x hx).1 hz⟩;have h0:w0.heap.size≤gf:=h.env.le;have hrp:∀x,some x=pb→sv.ownBlock≠some x:=fun x hx e=>by
    obtain⟨p,hp,rfl,_⟩:=hpbin x hx;exact h.rp p hp e
  have hlen:ps'.length≤ps.length:=by
    rcases hps with ⟨e,_⟩|⟨q,e,_⟩
    · rw[e];exact Nat.le_refl _
    · rw[e,List.length_append];omega
  refine⟨⟨⟨hos.trans h.env.b.os,htp.trans h.env.b.tape,hop.trans h.env.b.output,Nat.le_trans h.env.b.size hz,fun k hk=>(hlo k (by omega) (by omega) (by omega)).trans (h.env.b.block k hk)⟩,h0,h.env.s,h.env.m,hm,hb⟩,hgl,⟨hos.trans h.up.os,htp.trans h.up.tape,hop.trans h.up.output,Nat.le_trans h.up.size hz,fun k hk hr=>(hlo k (by omega) (fun e=>hr (by rw[e])) (by omega)).trans (h.up.block k hk hr)⟩,hbt,(hlo _ (by omega) (by omega) (by omega)).trans h.br,(hlo _ (by omega) (by omega) (by omega)).trans h.bw,htin,(h.win.same hq).imp (fun _ _ _=>rfl) hQ,hv,h.ws,own_same hrow (fun k hk=> ?_),Nat.le_trans hlen h.len,fun x hx e=> ?_,fun p hp e=>h.rp p (hsub p hp) (hown ▸ e),fun p hp=> ?_, ?_,fun x hx=> ?_,fun x hx=>hQ x (h.qh x hx),fun x hx=>hx.1.elim (h.qi x) (fun e=> .inr (e.elim (fun e=>by have:=(hpge x e).1;omega) (fun e=>by omega)))⟩
  · rw[hown]at hk;exact hs k (hrow0 k hk).2 (by have:=(hrow0 k hk).1;omega) (by have:=(hrow0 k hk).1;omega) (fun e=>hrp k e hk)
  · rw[hown]at e;rcases hx.1 with hx|hx|hx
    · exact h.rq x hx e
    · exact hrp x hx e
    · have:=(hrow0 x e).2;omega
  · have hp':=hsub p hp;obtain⟨k1,k2,k3,k4,k5,k6,k7⟩:=h.wt p hp';have hnpb:some p.b≠pb:=fun e=>by
      obtain⟨_,_,_,hne⟩:=hpbin p.b e;exact hne p hp rfl
    refine⟨(k1.same hq).imp (fun _ _ _=>rfl) hQ,(k2.same hz (fun b hb _=>hq b hb) (fun b e _=>by injection e with e;injection e with e;subst e;exact hs _ k7 (by omega) (by omega) hnpb)).mono hQ (fun b e hx=> ?_),k3,k4,k5,k6,Nat.lt_of_lt_of_le k7 hz⟩;injection e with e;injection e with e;subst e;rcases hx.1 with hx|hx|hx
    · exact h.pb hp' hx
    · exact hnpb hx
    · omega
  · have:=h.nd;rcases hps with ⟨e,_⟩|⟨q,e,_⟩
    · rw[e];exact this
    · rw[e,List.map_append,List.nodup_append]at this;exact this.1
  · refine⟨hx.2, ?_⟩;rcases hx.1 with hx|hx|hx
    · exact(h.ql x hx).2
    · have:=(hpge x hx).1;exact⟨by omega,by omega,by omega,by omega⟩
    · exact⟨by omega,by omega,by omega,by omega⟩
end
theorem redX_none_hk {l:List ET} {t:TM} (h:redX l t=none):(takesE l (headT t).k (headT t).n).2=false∨(((argsT t).length:Nat):Int)<(takesE l (headT t).k (headT t).n).1:=by
 unfold redX at h;split at h
 case isTrue=>cases h
 case isFalse hq=>
  cases h2:(takesE l (headT t).k (headT t).n).2 with
  | false=>exact .inl rfl
  | true=>exact .inr (by
    by_cases h:(((argsT t).length:Nat):Int)<(takesE l (headT t).k (headT t).n).1
    ·exact h
    ·exact absurd ⟨h2,by omega⟩ hq)
theorem nxt_push {l:List ET} {s:Sta} {r:Rx} (h:redX l s.t=some r) (hw:waitsR l r=true):nxtR l s= .push ⟨whR s,r::s.ws,tgtR r⟩:=by unfold nxtR;rw[h];simp only;rw[if_pos hw]
theorem nxt_step {l:List ET} {s:Sta} {r:Rx} (h:redX l s.t=some r) (hw:waitsR l r=false):nxtR l s=mstpR l r (whR s) s.ws:=by unfold nxtR;rw[h];simp only;rw[if_neg (by rw[hw];simp)]
theorem nxt_fin {l:List ET} {s:Sta} (h:redX l s.t=none) (hw:s.ws=[]):nxtR l s= .fin s.t:=by
 have e:whR s=s.t:=by unfold whR;rw[if_pos hw]
 unfold nxtR;rw[h];simp only;rw[e];split
 ·rfl
 ·rename_i h9;rw[hw]at h9;cases h9
theorem nxt_pop {l:List ET} {s:Sta} {r:Rx} {ws:List Rx} (h:redX l s.t=none) (hw:s.ws=r::ws):nxtR l s=mstpR l (meetR r s.t) s.wh ws:=by
 have e:whR s=s.wh:=by unfold whR;rw[if_neg (by rw[hw];simp)]
 unfold nxtR;rw[h];simp only;rw[e];split
 ·rename_i h9;rw[hw]at h9;cases h9
 ·rename_i h9;rw[hw]at h9;cases h9;rfl
theorem StpOut.three {l:List ET} {hi gf a:Nat} {f:Int} {r:Rx} {P:Nat→Prop} {w w':World} {e:Ending} (h:StpOut l hi gf f r P a w e w') {s:Sta} {wh:TM} {ws:List Rx} (hn:nxtR l s=mstpR l r wh ws):Up gf w w'∧
    ((e= .returned (.tuple #[zTV,.bool false,.int .i64 0])∧Mt w' gf f a∧Run l s a (.ok wh a))∨
     (∃q b,q≠0∧e= .returned (.tuple #[zTV,.bool false,.int .i64 q])∧Mt w' gf f (b:Nat)∧b≤a∧Run l s a (.bad q b))∨
     (∃v b F cF,a=b+1∧shapedB v=true∧e= .returned (.tuple #[.agg #[.int .i64 v.k,.int .i64 v.n,.slice F v.l.length cF],.bool true,.int .i64 0])∧TermIn w' (fun x=>((P x∨x<hi)∨w.heap.size≤x)∧x<w'.heap.size) v F cF∧Mt w' gf f (b:Nat)∧∀o,Run l ⟨wh,ws,v⟩ b o→Run l s a o)):=by
  obtain⟨hu,h⟩:=h;refine⟨hu, ?_⟩;unfold mstpR at hn;rcases h with ⟨hr,he,hm⟩|⟨u,q,hr,hq,he,hm⟩|⟨u,hr,rfl,he,hm⟩|⟨u,b,hr,rfl,hs,he,hm⟩|⟨u,b,F,cF,hr,rfl,hs,he,ht,hm⟩
  · rw[hr]at hn;exact .inl ⟨he,hm,.fin hn⟩
  · rw[hr]at hn;simp only at hn;rw[if_neg hq]at hn;exact .inr (.inl ⟨q,a,hq,he,hm,Nat.le_refl _,.err hn⟩)
  · rw[hr]at hn;simp only at hn;rw[if_pos trivial]at hn;refine .inr (.inl ⟨8,0,by decide,he,hm,Nat.le_refl _, ?_⟩);by_cases hs:shapedB (applyT u r.rs)=true
    · rw[if_pos hs]at hn;exact .dry hn
    · rw[if_neg hs]at hn;exact .dry hn
  · rw[hr]at hn;simp only at hn;rw[if_pos trivial,if_neg (by rw[hs];simp)]at hn;exact .inr (.inl ⟨2,b,by decide,he,hm,by omega,.long hn⟩)
  · rw[hr]at hn;simp only at hn;rw[if_pos trivial,if_pos hs]at hn;exact .inr (.inr ⟨_,b,F,cF,rfl,hs,he,ht,hm,fun o ho=> .step hn ho⟩)
structure Kp (V W:World) (gf:Nat) (pb:Option Nat):Prop where
 os:W.os=V.os
 tape:W.tape=V.tape
 output:W.output=V.output
 size:V.heap.size≤W.heap.size
 block:∀k,k<V.heap.size→k≠gf→some k≠pb→W.heap[k]? =V.heap[k]?
theorem Kp.of {V W:World} {gf:Nat} {pb:Option Nat} (h:Below V.heap.size V W):Kp V W gf pb:=⟨h.os,h.tape,h.output,h.size,fun k hk _ _=>h.block k hk⟩
theorem Kp.up {V W W':World} {gf:Nat} {pb:Option Nat} (h:Kp V W gf pb) (hu:Up gf W W'):Kp V W' gf pb:=⟨hu.os.trans h.os,hu.tape.trans h.tape,hu.output.trans h.output,Nat.le_trans h.size hu.size,fun k hk h1 h2=>(hu.block k (Nat.lt_of_lt_of_le hk h.size) (fun e=>h1 (by injection e))).trans (h.block k hk h1 h2)⟩
theorem Kp.below {V W W':World} {gf:Nat} {pb:Option Nat} (h:Kp V W gf pb) (hb:Below W.heap.size W W'):Kp V W' gf pb:=h.up (Up.of hb)
theorem Kp.put {V W W':World} {gf b o:Nat} {t:TM} {F:Option Addr} {C:Nat} (h:Kp V W gf (some b)) (hp:Put3 W b o t F C W'):Kp V W' gf (some b):=by
 obtain⟨X,hX,rfl⟩:=hp;have hk:=h.below hX;refine⟨hk.os,hk.tape,hk.output,by simpa [World.setCell]using hk.size,fun k h1 h2 h3=> ?_⟩;have hne:k≠b:=fun e=>h3 (by rw[e]);rw[Below.heap_setCell _ ⟨b,o+2,none⟩ _ k hne,Below.heap_setCell _ ⟨b,o+1,none⟩ _ k hne,Below.heap_setCell _ ⟨b,o,none⟩ _ k hne];exact hk.block k h1 h2 h3
section
variable {l:List ET} {hi g gf:Nat} {f:Int} {w0 w V:World} {ps:List WR} {wh t:TM} {H F:Option Addr} {cH cF a:Nat} {Q Q0:Nat→Prop} {sv:Value}
def PbOk (w:World) (Q:Nat→Prop) (pb:Option Nat):Prop:=∀x,some x=pb→w.heap.size+3≤x∧ ¬ Q x
theorem BrI.boxes (h:BrI l hi g gf f w0 w Q0 ps wh t H cH F cF a Q sv V) {W:World} {pb:Option Nat} (k:Kp V W gf pb) (hp:PbOk w Q pb):
  Bk W w.heap.size 25 #[.int .i64 t.k,.int .i64 t.n,.slice F t.l.length cF]∧Bk W (w.heap.size+1) 25 #[.int .i64 0,.int .i64 0,.slice none 0 0]∧Bk W (w.heap.size+1+1) 25 #[.int .i64 wh.k,.int .i64 wh.n,.slice H wh.l.length cH]:=by
 have hgl:=h.gfl;have hft:=h.ft;have hs:∀x,x<w.heap.size+3→x≠gf→W.heap[x]? =V.heap[x]? :=fun x hx h1=>k.block x (by omega) h1 (fun e=>by have:=(hp x e).1;omega);exact⟨(hs _ (by omega) (by omega)).trans h.bt,(hs _ (by omega) (by omega)).trans h.br,(hs _ (by omega) (by omega)).trans h.bw⟩
theorem BrI.upK (h:BrI l hi g gf f w0 w Q0 ps wh t H cH F cF a Q sv V) {W:World} {pb:Option Nat} (k:Kp V W gf pb) (hp:PbOk w Q pb):Up gf w W:=by
 have hft:=h.ft;exact⟨k.os.trans h.up.os,k.tape.trans h.up.tape,k.output.trans h.up.output,Nat.le_trans h.up.size k.size,fun x hx hr=>(k.block x (by omega) (fun e=>hr (by rw[e])) (fun e=>by have:=(hp x e).1;omega)).trans (h.up.block x hx hr)⟩
theorem BrI.keptQ (h:BrI l hi g gf f w0 w Q0 ps wh t H cH F cF a Q sv V) {W:World} {pb:Option Nat} (k:Kp V W gf pb) (hp:PbOk w Q pb):∀x,Q x→W.heap[x]? =V.heap[x]? :=
 fun x hx=>k.block x (h.ql x hx).1 (h.ql x hx).2.1 (fun e=>(hp x e).2 hx)
theorem BrI.done (h:BrI l hi g gf f w0 w Q0 ps wh t H cH F cF a Q sv V) {W W':World} {pb:Option Nat} (k:Kp V W gf pb) (hp:PbOk w Q pb) {b:Nat} (hm:Mt W gf f (b:Nat)) (hs:St1 W W' (w.heap.size+1)):Up gf w W'∧Mt W' gf f (b:Nat)∧TermIn W' (fun y=>(Q0 y∨w.heap.size≤y)∧y≠gf∧y<W'.heap.size) wh H cH:=by
 have hgl:=h.gfl;have hu:=h.upK k hp;refine⟨⟨hs.os.trans hu.os,hs.tape.trans hu.tape,hs.output.trans hu.output,by rw[hs.size];exact hu.size,fun x hx hr=>(hs.block x (by omega)).trans (hu.block x hx hr)⟩,(hs.block gf (by omega)).trans hm, ?_⟩;refine TermIn.imp (fun _ _ _=>rfl) (fun x hx=> ?_) (h.win.same (W:=W') (fun x hx=>(hs.block x (h.ql x hx).2.2.2.1).trans (h.keptQ k hp x hx)));exact⟨h.qi x hx,(h.ql x hx).2.1,by rw[hs.size];exact Nat.lt_of_lt_of_le (h.ql x hx).1 k.size⟩
theorem BrI.goes (h:BrI l hi g gf f w0 w Q0 ps wh t H cH F cF a Q sv V) (ps':List WR) (pb:Option Nat) (hps:(ps'=ps∧pb=none)∨∃p,ps=ps'++[p]∧pb=some p.b) {U W W':World} (k:Kp V W gf pb) (hp:PbOk w Q pb) {P:Nat→Prop} (hP:∀x,P x→Q x∨some x=pb∨V.heap.size≤x) (hU:V.heap.size≤U.heap.size)
    {b:Nat} {v:TM} {F':Option Addr} {cF':Nat} (hz0:U.heap.size≤W.heap.size) {n3:Nat} (hn3:n3≤W.heap.size) (ht:TermIn W (fun x=>((P x∨x<hi)∨U.heap.size≤x)∧x<n3) v F' cF') (hv:shapedB v=true) (hm:Mt W gf f (b:Nat)) (hb:b≤1048576)
    (hs:St1 W W' w.heap.size) (hbt:Bk W' w.heap.size 25 #[.int .i64 v.k,.int .i64 v.n,.slice F' v.l.length cF']) {sv':Value} (hrow:V.ownsRow (w.heap.size+3) 97 5 sv' ps'.length (flatW ps')) (hown:sv'.ownBlock=sv.ownBlock):
    ∃Q',BrI l hi g gf f w0 w Q0 ps' wh v H cH F' cF' b Q' sv' W':=by
  have hgl:=h.gfl;have hft:=h.ft;have hq:∀x,((P x∨x<hi)∨U.heap.size≤x)∧x<n3→(Q x∨some x=pb∨V.heap.size≤x)∧x≠w.heap.size:=fun x hx=>by
    have h1:Q x∨some x=pb∨V.heap.size≤x:=by
      rcases hx.1 with (h2|h2)|h2
      · exact hP x h2
      · exact .inl (h.qh x h2)
      · exact .inr (.inr (by omega))
    refine⟨h1, ?_⟩;rcases h1 with h2|h2|h2
    · exact(h.ql x h2).2.2.1
    · have:=(hp x h2).1;omega
    · omega
  refine⟨_,h.stepped ps' pb hps (by rw[hs.size];exact k.size) (hs.os.trans k.os) (hs.tape.trans k.tape) (hs.output.trans k.output) (fun x hx h1 h2 h3=>(hs.block x h2).trans (k.block x hx h1 h3)) ((hs.block gf (by omega)).trans hm) hb hbt ?_ hv hrow hown⟩;refine TermIn.imp (fun x o hx=>World.cell?_of_block (a:=⟨x,o,none⟩) (hs.block x (hq x hx).2)) (fun x hx=>⟨(hq x hx).1,by rw[hs.size];exact Nat.lt_of_lt_of_le hx.2 hn3⟩) ht
end
def BrOut (l:List ET) (s0:Sta) (a0 gf:Nat) (f:Int) (Q0:Nat→Prop) (w:World) (e:Ending) (w':World):Prop:=
  Up gf w w'∧((∃x b F cF,Run l s0 a0 (.ok x b)∧e= .returned (.tuple #[.agg #[.int .i64 x.k,.int .i64 x.n,.slice F x.l.length cF],.int .i64 0])∧shapedB x=true∧TermIn w' (fun y=>(Q0 y∨w.heap.size≤y)∧y≠gf∧y<w'.heap.size) x F cF∧Mt w' gf f (b:Nat)∧b≤a0)∨
    (∃q b,q≠0∧Run l s0 a0 (.bad q b)∧e= .returned (.tuple #[.agg #[.int .i64 0,.int .i64 0,.slice none 0 0],.int .i64 q])∧Mt w' gf f (b:Nat)∧b≤a0))
def BrN (l:List ET) (hi g gf:Nat) (f:Int) (w0 w:World) (Q0:Nat→Prop) (s0:Sta) (a0 n:Nat) (sv:Value) (V:World):Prop:=
 ∃ps lost wh t H cH F cF a Q,n=a*1000+t.depth∧BrI l hi g gf f w0 w Q0 ps wh t H cH F cF a Q sv V∧(lost=[]∨a<ps.length)∧a≤a0∧∀o,Run l ⟨wh,(ps.map (·.r)).reverse++lost,t⟩ a o→Run l s0 a0 o
def BrRel (l:List ET) (hi g gf:Nat) (f:Int) (w0 w:World) (Q0:Nat→Prop) (s0:Sta) (a0:Nat) (sv:Value) (V:World):Prop:=∃n,BrN l hi g gf f w0 w Q0 s0 a0 n sv V
theorem BrRel.least {l:List ET} {hi g gf:Nat} {f:Int} {w0 w:World} {Q0:Nat→Prop} {s0:Sta} {a0:Nat} {sv:Value} {V:World} (h:BrRel l hi g gf f w0 w Q0 s0 a0 sv V):∃m,leastN (fun n=>BrN l hi g gf f w0 w Q0 s0 a0 n sv V)=m∧BrN l hi g gf f w0 w Q0 s0 a0 m sv V:=⟨_,rfl,(leastN_spec h).1⟩
theorem BrN.less {l:List ET} {hi g gf:Nat} {f:Int} {w0 w:World} {Q0:Nat→Prop} {s0:Sta} {a0 n m:Nat} {sv:Value} {V:World} (h:BrN l hi g gf f w0 w Q0 s0 a0 n sv V) (hm:n<m):leastN (fun n=>BrN l hi g gf f w0 w Q0 s0 a0 n sv V)<m:=Nat.lt_of_le_of_lt ((leastN_spec ⟨n,h⟩).2 n h) hm
theorem gr_below {U V W:World} {row:Option Nat} (h:U.grownBy V row) (hb:Below V.heap.size V W):U.grownBy W row:=⟨hb.os.trans h.os,hb.tape.trans h.tape,hb.output.trans h.output,Nat.le_trans h.size hb.size,fun k hk hr=>(hb.block k (Nat.lt_of_lt_of_le hk h.size)).trans (h.block k hk hr)⟩
theorem gr_of {U V:World} {row:Option Nat} (hb:Below U.heap.size U V):U.grownBy V row:=⟨hb.os,hb.tape,hb.output,hb.size,fun k hk _=>hb.block k hk⟩
theorem gr_app {U V W:World} {row r2:Option Nat} (h:U.grownBy V row) (ha:V.grownBy W r2) (h2:r2=row∨∀b,r2=some b→U.heap.size≤b):U.grownBy W row:=
 ⟨ha.os.trans h.os,ha.tape.trans h.tape,ha.output.trans h.output,Nat.le_trans h.size ha.size,fun k hk hr=>(ha.block k (Nat.lt_of_lt_of_le hk h.size) (fun e=>by
  rcases h2 with h2|h2
  ·exact hr (e.trans h2)
  ·have:=h2 k e.symm;omega)).trans (h.block k hk hr)⟩
theorem row_tgt {w:World} {Q:Nat→Prop} {r:Rx} {b d:Nat} (h:RowT w Q (r.ts++r.rs) (some ⟨b,0,none⟩) d) (h0:0<r.ts.length):
  ∃F C,Cells3 w b (0+(r.ts.length - 1)*3) (tgtR r) F C∧TermIn w Q (tgtR r) F C∧b<w.heap.size∧∀q,q<3→w.frozen? ⟨b,0+(r.ts.length - 1)*3+q,none⟩=false:=by
 obtain⟨F,C,h1,h2,h3,h4⟩:=h;obtain⟨b',e,k1,k2,k3,k4⟩:=h3 (by rw[List.length_append];omega);injection e with e;injection e with e;subst e;have hl:r.ts.length - 1<(r.ts++r.rs).length:=by rw[List.length_append];omega
 have he:(r.ts++r.rs)[r.ts.length - 1]=tgtR r:=by rw[List.getElem_append_left (by omega),tgt_in h0]
 have c1:=k4 _ hl;have c2:=h4 _ hl;rw[he]at c1 c2;exact⟨_,_,c1,c2.imp (fun _ _ _=>rfl) (fun _ h=>h.1),k1,fun q hq=>k3 _ (by omega)⟩
theorem rest_eq {r:Rx} {A RR:Option Addr} {c b d:Nat} (h:RR=(if d=r.ts.length then some ⟨b,0,none⟩else(some (⟨b,0,none⟩:Addr)).map (fun x=>x.add (r.ts.length*3)))):restA ⟨r,A,c,b,d⟩=RR:=by
 rw[h];unfold restA;simp only[Option.map_some];rw[Addr.add_lit,Nat.zero_add]
section
variable {l:List ET} {hi g gf:Nat} {f:Int} {w0 w V:World} {ps:List WR} {wh t:TM} {H F:Option Addr} {cH cF a:Nat} {Q Q0:Nat→Prop} {sv:Value}
theorem BrI.pushW (h:BrI l hi g gf f w0 w Q0 ps wh t H cH F cF a Q sv V) (p:WR) (n:Nat) (h1:TermIn V Q p.r.hd p.A p.c) (h2:RowT V Q (p.r.ts++p.r.rs) (some ⟨p.b,0,none⟩) p.d) (h3:p.r.ts.length≤p.d) (h4:RxOk l p.r) (h5:waitsR l p.r=true) (h6:w.heap.size+3≤p.b) (h7:sv.ownBlock≠some p.b) (h8:∀q∈ps,q.b≠p.b)
  {W:World} {sv':Value} (hg:V.grownBy W sv.ownBlock) (hrow:W.ownsRow (w.heap.size+3) 97 5 sv' ((ps.drop n).length+1) (flatW (ps.drop n++[p]))) (hown:sv'.ownBlock=sv.ownBlock∨∀b,sv'.ownBlock=some b→V.heap.size≤b) (hlen:(ps.drop n).length+1≤2097155)
  {tg:TM} {F':Option Addr} {cF':Nat} (htin:TermIn V Q tg F' cF') (htg:shapedB tg=true):
  BrI l hi g gf f w0 w Q0 (ps.drop n++[p]) wh tg H cH F' cF' a Q sv' (((W.setCell ⟨w.heap.size,0,none⟩ (.int .i64 tg.k)).setCell ⟨w.heap.size,1,none⟩ (.int .i64 tg.n)).setCell ⟨w.heap.size,2,none⟩ (.slice F' tg.l.length cF')):=by
 have hft:=h.ft;have hst:=st1_three W w.heap.size (.int .i64 tg.k) (.int .i64 tg.n) (.slice F' tg.l.length cF');have hbt:Bk W w.heap.size 25 #[.int .i64 t.k,.int .i64 t.n,.slice F t.l.length cF]:=(hg.block _ (by omega) (fun e=>by have:=(h.row.lt _ e.symm).1;omega)).trans h.bt;exact h.push p n h1 h2 h3 h4 h5 h6 h7 h8 (by rw[hst.size];exact hg.size) (hst.os.trans hg.os) (hst.tape.trans hg.tape) (hst.output.trans hg.output) (fun k hk h9 h10=>(hst.block k h9).trans (hg.block k hk h10)) (own_same hrow (fun k hk=>hst.block k (by have:=(hrow.lt k hk).1;omega))) hown hlen (((hbt.at_ 0 _).at_ 1 _).at_ 2 _) htin htg
theorem env_put {l:List ET} {hi g gf a:Nat} {f:Int} {w0 U W:World} (h:EnvW w0 U l hi g gf f a) {b o:Nat} {t:TM} {F:Option Addr} {C:Nat} (hp:Put3 U b o t F C W) (hb:gf<b):EnvW w0 W l hi g gf f a:=by
 obtain⟨X,hX,rfl⟩:=hp;have hk:=h.below hX;have hs:∀k,k≠b→(((X.setCell ⟨b,o,none⟩ (.int .i64 t.k)).setCell ⟨b,o+1,none⟩ (.int .i64 t.n)).setCell ⟨b,o+2,none⟩ (.slice F t.l.length C)).heap[k]? =X.heap[k]? :=fun k hne=>by
  rw[Below.heap_setCell _ ⟨b,o+2,none⟩ _ k hne,Below.heap_setCell _ ⟨b,o+1,none⟩ _ k hne,Below.heap_setCell _ ⟨b,o,none⟩ _ k hne]
 have hle:=h.le;exact⟨⟨hk.b.os,hk.b.tape,hk.b.output,by simpa [World.setCell]using hk.b.size,fun k h1=>(hs k (by omega)).trans (hk.b.block k h1)⟩,hk.le,hk.s,hk.m,(hs gf (by omega)).trans hk.t,hk.n⟩
theorem put_size {U W:World} {b o:Nat} {t:TM} {F:Option Addr} {C:Nat} (hp:Put3 U b o t F C W):U.heap.size≤W.heap.size:=by
 obtain⟨X,hX,rfl⟩:=hp;simpa [World.setCell]using hX.size
theorem put_block {U W:World} {b o:Nat} {t:TM} {F:Option Addr} {C:Nat} (hp:Put3 U b o t F C W) {k:Nat} (hk:k<U.heap.size) (hne:k≠b):W.heap[k]? =U.heap[k]? :=by
 obtain⟨X,hX,rfl⟩:=hp;rw[Below.heap_setCell _ ⟨b,o+2,none⟩ _ k hne,Below.heap_setCell _ ⟨b,o+1,none⟩ _ k hne,Below.heap_setCell _ ⟨b,o,none⟩ _ k hne];exact hX.block k hk
theorem put_row {U W:World} {r:Rx} {b d:Nat} (h:RowT U Q (r.ts++r.rs) (some ⟨b,0,none⟩) d) (h0:0<r.ts.length) (hq:∀x,Q x→x<U.heap.size) (ht:TermIn U Q t F cF) (hp:Put3 U b (0+(r.ts.length - 1)*3) t F cF W):RowT W Q ((meetR r t).ts++(meetR r t).rs) (some ⟨b,0,none⟩) d:=by
 have:=h.put (q:=r.ts.length - 1) (by rw[List.length_append];omega) hp (ht.imp (fun _ _ _=>rfl) (fun x hx=>⟨hx,hq x hx⟩))
 rwa [List.set_append_left _ _ (by omega)]at this
theorem pop_row {g9:Nat} {pl:WR} {ps':List WR} {Aw:Option Addr} {k cw base:Nat} {U:World} (h:U.ownsRow base 97 5 (.slice Aw (k+1) cw) (ps'++[pl]).length (flatW (ps'++[pl]))) (hk:ps'.length=k):U.ownsRow base 97 5 (.slice Aw k cw) ps'.length (flatW ps'):=by
 have hl:(ps'++[pl]).length=k+1:=by rw[List.length_append,hk];rfl
 rw[hl]at h;have:=own_take (m:=k) h (by omega);rw[flatW_take _ _ (by omega),List.take_left' hk]at this;rw[hk];exact this
end
end Go.Proofs.YtchllgkgjompgaaGreatDoor
