/-
  package order: rows of ints that grow, in a row of their own.
-/
import Derived.Test.YtmgfakcccfahaaaGreatDoorN20
namespace Go.Proofs.YtmgfakcccfahaaaGreatDoor
open Go.RowKit Go.Maps
def bS(w:World)(base nb:Nat)(F:Nat→Prop)(ls:List (List Int)):Prop:=
 ∃vs:List Value,w.heap[nb]?=some (.cells vs.toArray 30 (0,0))∧vs.length=ls.length∧base≤nb∧(∀k,F k→k<w.heap.size) ∧
  (∀(i:Nat) (v:Value) (l:List Int),vs[i]?=some v→ls[i]?=some l→w.ownsRow base 3 1 v l.length (l.map (Value.int .i64))∧∀k,v.ownBlock=some k→k≠nb∧¬F k) ∧
  ∀(i j:Nat) (v u:Value),i≠j→vs[i]?=some v→vs[j]?=some u→∀k,v.ownBlock=some k→u.ownBlock≠some k
theorem bS.move{w w':World}{base nb:Nat}{F:Nat→Prop}{ls:List (List Int)}(h:bS w base nb F ls)(hs:w.heap.size≤w'.heap.size)(hk:∀k,base≤k→¬F k→k<w.heap.size→w'.heap[k]?=w.heap[k]?)(hn:w'.heap[nb]?=w.heap[nb]?):bS w' base nb F ls:=by
 obtain⟨vs,h1,h2,h3,h4,h5,h6⟩:=h
 refine⟨vs,hn.trans h1,h2,h3,fun k hF=>Nat.lt_of_lt_of_le (h4 k hF) hs,fun i v l hv hl=>?_,h6⟩
 obtain⟨g1,g2⟩:=h5 i v l hv hl
 exact⟨gP g1 (fun k hb=>hk k (g1.lt k hb).1 (g2 k hb).2 (g1.lt k hb).2),g2⟩
theorem bS.alloc{w:World}{base nb:Nat}{F:Nat→Prop}{ls:List (List Int)}(h:bS w base nb F ls)(o:Obj):bS (w.alloc o) base nb F ls:=by
 have hb:Bw w (w.alloc o):=aH
 refine h.move hb.size (fun k _ _ hk=>hb.block k hk) (hb.block nb ?_)
 obtain⟨vs,h1,_⟩:=h
 exact(bE h1).1
theorem bS.below{w w':World}{base nb:Nat}{F:Nat→Prop}{ls:List (List Int)}(h:bS w base nb F ls)(hb:Bw w w'):bS w' base nb F ls:=by
 refine h.move hb.size (fun k _ _ hk=>hb.block k hk) (hb.block nb ?_)
 obtain⟨vs,h1,_⟩:=h
 exact(bE h1).1
theorem bS.fewer{w:World}{base nb:Nat}{F F':Nat→Prop}{ls:List (List Int)}(h:bS w base nb F ls)(hF:∀k,F' k→F k):bS w base nb F' ls:=by
 obtain⟨vs,h1,h2,h3,h4,h5,h6⟩:=h
 exact⟨vs,h1,h2,h3,fun k hk=>h4 k (hF k hk),fun i v l hv hl=>⟨(h5 i v l hv hl).1,fun k hk=>⟨((h5 i v l hv hl).2 k hk).1,fun hf=>((h5 i v l hv hl).2 k hk).2 (hF k hf)⟩⟩,h6⟩
theorem bS.lt{w:World}{base nb:Nat}{F:Nat→Prop}{ls:List (List Int)}(h:bS w base nb F ls):nb<w.heap.size:=by
 obtain⟨vs,h1,_⟩:=h
 exact(bE h1).1
theorem bS.at{w:World}{base nb:Nat}{F:Nat→Prop}{ls:List (List Int)}(h:bS w base nb F ls){i:Nat}{l:List Int}(hl:ls[i]?=some l):∃o c,w.cell? ⟨nb,i,none⟩=some (.slice o l.length c)∧w.frozen? ⟨nb,i,none⟩=false∧w.ownsRow base 3 1 (.slice o l.length c) l.length (l.map (Value.int .i64))∧∀k,(Value.slice o l.length c).ownBlock=some k→k≠nb∧¬F k:=by
 obtain⟨vs,h1,h2,h3,h4,h5,h6⟩:=h
 obtain⟨v,hv⟩:∃v,vs[i]?=some v:=⟨_,List.getElem?_eq_getElem (by have:=(aX hl).1;omega)⟩
 obtain⟨g1,g2⟩:=h5 i v l hv hl
 obtain⟨o,c,rfl,_⟩:=uR g1
 refine⟨o,c,?_,by simp [World.frozen?,h1],g1,g2⟩
 rw[cell_of_row w nb i _ _ (0,0) h1]
 simpa using hv
theorem bS.grown{w w':World}{base nb:Nat}{F:Nat→Prop}{ls:List (List Int)}(h:bS w base nb F ls){i:Nat}{l l':List Int}(hl:ls[i]?=some l){o:Option Addr}{c g cap:Nat}(hc:w.cell? ⟨nb,i,none⟩=some (.slice o l.length c))(hg:w.grownBy w' (Value.slice o l.length c).ownBlock)(ha:(Value.slice o l.length c).ownBlock=some g∨g=w.heap.size)(ho:w'.ownsRow base 3 1 (.slice (some ⟨g,0,none⟩) l'.length cap) l'.length (l'.map (Value.int .i64))):bS (w'.setCell ⟨nb,i,none⟩ (.slice (some ⟨g,0,none⟩) l'.length cap)) base nb F (ls.set i l'):=by
 have hlt:=h.lt
 obtain⟨vs,h1,h2,h3,h4,h5,h6⟩:=h
 have hil:=(aX hl).1
 have hvi:vs[i]?=some (.slice o l.length c):=by
  rw[cell_of_row w nb i _ _ (0,0) h1] at hc
  simpa using hc
 obtain⟨g1,g2⟩:=h5 i _ l hvi hl
 have hnb:w'.heap[nb]?=some (.cells vs.toArray 30 (0,0)):=(hg.block nb hlt (fun e=>(g2 nb e.symm).1 rfl)).trans h1
 have hset:∀q,q≠nb→(w'.setCell ⟨nb,i,none⟩ (.slice (some ⟨g,0,none⟩) l'.length cap)).heap[q]?=w'.heap[q]?:=fun q hq=>Below.heap_setCell w' ⟨nb,i,none⟩ _ q hq
 have hgn:g≠nb∧¬F g:=by
  rcases ha with ha | rfl
  ·exact g2 g ha
  ·exact⟨fun e=>by omega,fun hF=>by have:=h4 _ hF;omega⟩
 have hkeep:∀q,q<w.heap.size→(Value.slice o l.length c).ownBlock≠some q→q≠nb→(w'.setCell ⟨nb,i,none⟩ (.slice (some ⟨g,0,none⟩) l'.length cap)).heap[q]?=w.heap[q]?:=fun q hq hne hqn=>(hset q hqn).trans (hg.block q hq (fun e=>hne e.symm))
 refine⟨vs.set i (.slice (some ⟨g,0,none⟩) l'.length cap),?_,by simp [h2],h3,fun k hF=>?_,fun j v l2 hv hl2=>?_,fun j k v u hjk hv hu q hq hq2=>?_⟩
 ·rw[heap_setCell_same w' nb i _ _ _ hnb]
  simp
 ·rw[size_setCell]
  exact Nat.lt_of_lt_of_le (h4 k hF) hg.size
 ·by_cases e:i=j
  ·subst e
   rw[List.getElem?_set_self (by omega)] at hv hl2
   obtain rfl:=Option.some.inj hv
   obtain rfl:=Option.some.inj hl2
   refine⟨gP ho (fun k hk=>hset k ?_),fun k hk=>?_⟩
   ·obtain rfl:g=k:=by simpa [Value.ownBlock] using hk
    exact hgn.1
   ·obtain rfl:g=k:=by simpa [Value.ownBlock] using hk
    exact hgn
  ·rw[List.getElem?_set_ne e] at hv hl2
   obtain⟨f1,f2⟩:=h5 j v l2 hv hl2
   exact⟨gP f1 (fun k hk=>hkeep k (f1.lt k hk).2 (fun e2=>h6 i j _ v e hvi hv k e2 hk) (f2 k hk).1),f2⟩
 ·by_cases e:i=j
  ·subst e
   rw[List.getElem?_set_self (by omega)] at hv
   obtain rfl:=Option.some.inj hv
   obtain rfl:g=q:=by simpa [Value.ownBlock] using hq
   rw[List.getElem?_set_ne hjk] at hu
   obtain⟨l2,hl2⟩:∃l2,ls[k]?=some l2:=⟨_,List.getElem?_eq_getElem (by have:=(aX hu).1;omega)⟩
   rcases ha with ha | rfl
   ·exact h6 i k _ u hjk hvi hu g ha hq2
   ·have:=((h5 k u l2 hu hl2).1.lt _ hq2).2;omega
  ·rw[List.getElem?_set_ne e] at hv
   by_cases e2:i=k
   ·subst e2
    rw[List.getElem?_set_self (by omega)] at hu
    obtain rfl:=Option.some.inj hu
    obtain rfl:g=q:=by simpa [Value.ownBlock] using hq2
    obtain⟨l2,hl2⟩:∃l2,ls[j]?=some l2:=⟨_,List.getElem?_eq_getElem (by have:=(aX hv).1;omega)⟩
    rcases ha with ha | rfl
    ·exact h6 j i v _ hjk hv hvi g hq ha
    ·have:=((h5 j v l2 hv hl2).1.lt _ hq).2;omega
   ·rw[List.getElem?_set_ne e2] at hu
    exact h6 j k v u hjk hv hu q hq hq2
set_option maxRecDepth 100000
set_option maxHeartbeats 2000000

structure dS(w0:World)(p3 p6 p7 K nK nb:Nat)(num:List UInt8→Option Int)(i:Nat)(ls:List (List Int))(wr:World):Prop where
 c3:wr.heap[p3]?=some (.cells #[.map (some K)] 96 (0,0))
 c6:wr.heap[p6]?=some (.cells #[.slice (some ⟨nb,0,none⟩) ls.length ls.length] 80 (0,0))
 c7:wr.heap[p7]?=some (.cells #[.int .i64 i] 3 (0,0))
 fn:aR wr K nK (aS num)
 rows:bS wr w0.heap.size nb (fun k=>k=p3∨k=p6∨k=p7∨k=K) ls
 ne:p3≠nb∧p6≠nb∧p7≠nb∧K≠nb
 below:Bw w0 wr
theorem dS.keep{w0 wr w':World}{p3 p6 p7 K nK nb i:Nat}{num:List UInt8→Option Int}{ls:List (List Int)}(h:dS w0 p3 p6 p7 K nK nb num i ls wr)(hb:Bw wr w'):dS w0 p3 p6 p7 K nK nb num i ls w':=
 ⟨aG hb h.c3,aG hb h.c6,aG hb h.c7,h.fn.kept (hb.block _ h.fn.lt),h.rows.below hb,h.ne,h.below.trans (hb.mono h.below.size)⟩
theorem dS.grown{w0 wr w':World}{p3 p6 p7 K nK nb i:Nat}{num:List UInt8→Option Int}{ls:List (List Int)}(h:dS w0 p3 p6 p7 K nK nb num i ls wr){l l':List Int}(hl:ls[i]?=some l){o:Option Addr}{c g cap:Nat}(hc:wr.cell? ⟨nb,i,none⟩=some (.slice o l.length c))(hw:wr.ownsRow w0.heap.size 3 1 (.slice o l.length c) l.length (l.map (Value.int .i64))∧∀k,(Value.slice o l.length c).ownBlock=some k→k≠nb∧¬(k=p3∨k=p6∨k=p7∨k=K))(hg:wr.grownBy w' (Value.slice o l.length c).ownBlock)(ha:(Value.slice o l.length c).ownBlock=some g∨g=wr.heap.size)(ho:w'.ownsRow w0.heap.size 3 1 (.slice (some ⟨g,0,none⟩) l'.length cap) l'.length (l'.map (Value.int .i64))):dS w0 p3 p6 p7 K nK nb num i (ls.set i l') (w'.setCell ⟨nb,i,none⟩ (.slice (some ⟨g,0,none⟩) l'.length cap)):=by
 have hset:∀q,q≠nb→(w'.setCell ⟨nb,i,none⟩ (.slice (some ⟨g,0,none⟩) l'.length cap)).heap[q]?=w'.heap[q]?:=fun q hq=>Below.heap_setCell w' ⟨nb,i,none⟩ _ q hq
 have hk:∀q,q<wr.heap.size→(q=p3∨q=p6∨q=p7∨q=K)→q≠nb→(w'.setCell ⟨nb,i,none⟩ (.slice (some ⟨g,0,none⟩) l'.length cap)).heap[q]?=wr.heap[q]?:=fun q hq hF hn=>(hset q hn).trans (hg.block q hq (fun e=>(hw.2 q e.symm).2 hF))
 have hlt:∀{k:Nat} {o:Obj},wr.heap[k]?=some o→k<wr.heap.size:=fun h=>(bE h).1
 refine⟨(hk p3 (hlt h.c3) (.inl rfl) h.ne.1).trans h.c3,?_,(hk p7 (hlt h.c7) (.inr (.inr (.inl rfl))) h.ne.2.2.1).trans h.c7,h.fn.kept (hk K h.fn.lt (.inr (.inr (.inr rfl))) h.ne.2.2.2),h.rows.grown hl hc hg ha ho,h.ne,?_⟩
 ·rw[List.length_set]
  exact(hk p6 (hlt h.c6) (.inr (.inl rfl)) h.ne.2.1).trans h.c6
 ·have h1:Bw w0 w':=h.below.grown hg h.below.size (fun k hk=>(hw.1.lt k hk).1)
  obtain⟨vs,_,_,h3,_⟩:=h.rows
  exact⟨h1.os,h1.tape,h1.output,by rw[size_setCell];exact h1.size,fun k hk=>(hset k (by omega)).trans (h1.block k hk)⟩
theorem set_self{α:Type}{l:List α}{i:Nat}{x:α}(h:l[i]?=some x):l.set i x=l:=by
 apply List.ext_getElem?
 intro j
 by_cases e:i=j
 ·subst e
  rw[List.getElem?_set_self (aX h).1,h]
 ·rw[List.getElem?_set_ne e]
theorem IE{w0 w:World}{p3 p6 p7 K nK nb i:Nat}{num:List UInt8→Option Int}{ls:List (List Int)}(h:dS w0 p3 p6 p7 K nK nb num i ls w){l:List Int}(hl:ls[i]?=some l)(s:ByteArray)(hs:s.size≤maxLen)(hb:l.length+1≤1000000) :
  Calls Tryz.prog 81 #[.string s,.pointer (some ⟨p3,0,none⟩),.pointer (some ⟨p6,0,none⟩),.pointer (some ⟨p7,0,none⟩)] w fun e w'=>e=.returned (.tuple #[])∧dS w0 p3 p6 p7 K nK nb num i (ls.set i (l++(num s.data.toList).toList)) w':=by
 obtain⟨i0,hi0,hz0,hz1,hz2⟩:=info_parts Tryz.lH
 have c3:w.cell? ⟨p3,0,none⟩=some (.map (some K)):=cr h.c3 rfl
 have hlk:=h.fn.look Tryz.underlying96 (jL w) s hs
 have e1:(aS num s.data.toList).getD (.int .i64 0)=.int .i64 ((num s.data.toList).getD 0):=lT _
 have e2:(aS num s.data.toList).isSome=(num s.data.toList).isSome:=by unfold aS;cases num s.data.toList<;>rfl
 rw[e1,e2] at hlk
 cases hn:num s.data.toList with
 | none=>
  rw[hn] at hlk
  have hlk':(Instr.lookup 96 (.map (some K)) (.string s) true).run Tryz.prog w=.ok (.tuple #[.int .i64 0,.bool false]) w:=hlk
  have HE:Hid (dS w0 p3 p6 p7 K nK nb num i (ls.set i (l++(none:Option Int).toList)) w):=by
   unfold Hid
   rw[Option.toList_none,List.append_nil,set_self hl]
   exact h
  clear h hl hs hb e1 e2 hn hlk
  go_enter Tryz.func81,Tryz.ntmps81
  go_wp2
  go_end0
  exact⟨rfl,HE.out⟩
 | some x=>
  rw[hn] at hlk
  have hlk':(Instr.lookup 96 (.map (some K)) (.string s) true).run Tryz.prog w=.ok (.tuple #[.int .i64 x,.bool true]) w:=hlk
  obtain⟨o,c,hc,hfz,how,hob⟩:=h.rows.at hl
  have hil:=(aX hl).1
  have HH:=aA h
  have c6:w.drew.cell? ⟨p6,0,none⟩=some (.slice (some ⟨nb,0,none⟩) ls.length ls.length):=by rw[cell_of_row w.drew _ _ _ _ (0,0) (show w.drew.heap[p6]?=_ from h.c6)];rfl
  have c7:w.drew.cell? ⟨p7,0,none⟩=some (.int .i64 i):=by rw[cell_of_row w.drew _ _ _ _ (0,0) (show w.drew.heap[p7]?=_ from h.c7)];rfl
  have cn:w.drew.cell? ⟨nb,i,none⟩=some (.slice o l.length c):=hc
  have i0':(0:Int)≤(i:Int):=by omega
  have i1':(i:Int)<(ls.length:Int):=by omega
  clear hlk e1 e2
  go_enter Tryz.func81,Tryz.ntmps81
  go_wp2
  refine nG 10 (fun w'=>w'.cell? ⟨p6,0,none⟩=some (.slice (some ⟨nb,0,none⟩) ls.length ls.length)∧w'.cell? ⟨p7,0,none⟩=some (.int .i64 i)) (fun w'=>w'.cell? ⟨nb,i,none⟩=some (.slice o l.length c)) (by kernel_rfl) ⟨c6,c7⟩ cn (fun hh=>?_)
  refine tj 0 14 (.slice (some ⟨nb,0,none⟩) ls.length ls.length) rfl (by rintro w ⟨a1,a2⟩;go_simp) hh ?_
  refine tj 1 15 (.int .i64 i) rfl (by rintro w ⟨a1,a2⟩;go_simp) hh ?_
  refine tj 2 16 (.slice (some ⟨nb,0,none⟩) ls.length ls.length) rfl (by rintro w ⟨a1,a2⟩;go_simp) hh ?_
  refine tj 3 17 (.int .i64 i) rfl (by rintro w ⟨a1,a2⟩;go_simp) hh ?_
  refine tj 4 18 (.pointer (some ⟨nb,i,none⟩)) rfl (by rintro w ⟨a1,a2⟩;go_simp) hh ?_
  refine wZ 8 (i:=5) (oi:=⟨some 19,_,_,_,_,_⟩) (v:=.slice o l.length c) rfl rfl (by kernel_rfl) (by kernel_rfl) (by kernel_rfl) (by kernel_rfl) (by kernel_rfl) (by kernel_rfl) (by kernel_rfl) (fun _ _ _ h=>h) (Or.inl ⟨by rfl,?_⟩) hh ?_
  ·intro w hSw;(try dsimp only at hSw);go_simp
  try simp only[tp]
  refine tj 6 20 (.int .i64 x) rfl (by rintro w ⟨a1,a2⟩;go_simp) hh ?_
  refine j6 (rs:=[7]) (by kernel_rfl) (by simp) ?_
  refine dB.cons (o:=⟨some 21,_,_,_,_,_⟩) rfl (fun Q hQ=>?_) dB.nil
  go_simp
  have hba:Bw w (w.alloc (.cells #[.int .i64 x] 3)).drew:=(aH).drew
  have H1:dS w0 p3 p6 p7 K nK nb num i ls (w.alloc (.cells #[.int .i64 x] 3)).drew:=HH.out.keep hba
  have HS1:∀{W:World},dS w0 p3 p6 p7 K nK nb num i ls W→W.cell? ⟨p6,0,none⟩=some (.slice (some ⟨nb,0,none⟩) ls.length ls.length)∧W.cell? ⟨p7,0,none⟩=some (.int .i64 i):=fun {W} h=>⟨cr h.c6 rfl,cr h.c7 rfl⟩
  have hc1:=aF hba hc
  refine hQ.out _ _ ⟨HS1 H1,fun _=>hc1⟩ (fun hh=>?_)
  clear hQ Q
  try simp only[tp]
  refine j6 (rs:=[8]) (by kernel_rfl) (by simp) ?_
  refine dB.cons (o:=⟨some 22,_,_,_,_,_⟩) rfl (fun Q hQ=>?_) dB.nil
  refine step_append_lies _ rfl (.tmp 19) (.tmp 21) 30 rfl w0.heap.size 3 i0 _ 1 8 Tryz.underlying30 hi0 hz0 hz1 hz2 rfl (by omega) (.slice o l.length c) l.length _ (by simp [Act.eval]) (how.alloc (.cells #[.int .i64 x] 3)) ⟨w.heap.size,0,none⟩ 1 1 [.int .i64 x] (by simp [Act.eval]) rfl (World.news_of_block (heap_alloc_new w (.cells #[.int .i64 x] 3))) (by simp [Value.oneCell']) (by omega) (by unfold maxLen;omega) (by omega) H1.below.size _ rfl ?_
  intro g cap w7 hown7 hgrow hat hlt7
  have hob1:=HH.out.rows.at hl
  have hnb7:∀q,q<(w.alloc (.cells #[.int .i64 x] 3)).drew.heap.size→(q=p3∨q=p6∨q=p7∨q=K∨q=nb)→w7.heap[q]?=(w.alloc (.cells #[.int .i64 x] 3)).drew.heap[q]?:=fun q hq hF=>hgrow.block q hq (fun e=>by
   have:=hob q e.symm
   rcases hF with h | h | h | h | h
   ·exact this.2 (.inl h)
   ·exact this.2 (.inr (.inl h))
   ·exact this.2 (.inr (.inr (.inl h)))
   ·exact this.2 (.inr (.inr (.inr h)))
   ·exact this.1 h)
  have hlt1:∀{k:Nat} {o:Obj},(w.alloc (.cells #[.int .i64 x] 3)).drew.heap[k]?=some o→k<(w.alloc (.cells #[.int .i64 x] 3)).drew.heap.size:=fun h=>(bE h).1
  have e6:w7.cell? ⟨p6,0,none⟩=some (.slice (some ⟨nb,0,none⟩) ls.length ls.length):=by rw[cell_of_row w7 _ _ _ _ (0,0) ((hnb7 p6 (hlt1 H1.c6) (.inr (.inl rfl))).trans H1.c6)];rfl
  have e7:w7.cell? ⟨p7,0,none⟩=some (.int .i64 i):=by rw[cell_of_row w7 _ _ _ _ (0,0) ((hnb7 p7 (hlt1 H1.c7) (.inr (.inr (.inl rfl)))).trans H1.c7)];rfl
  have hqn:=hnb7 nb H1.rows.lt (.inr (.inr (.inr (.inr rfl))))
  have en:w7.cell? ⟨nb,i,none⟩=some (.slice o l.length c):=(World.cell?_of_block (a:=⟨nb,i,none⟩) hqn).trans hc1
  have fz:w7.frozen? ⟨nb,i,none⟩=false:=(World.frozen?_of_block (a:=⟨nb,i,none⟩) hqn).trans (by obtain⟨_,_,_,h,_⟩:=H1.rows.at hl;exact h)
  refine hQ.out _ _ ⟨⟨e6,e7⟩,fun _=>en⟩ (fun hh=>?_)
  clear hQ Q
  try simp only[tp]
  refine tj 9 23 (.pointer (some ⟨nb,i,none⟩)) rfl (by rintro w ⟨a1,a2⟩;go_simp) hh ?_
  refine j6 (rs:=[10]) (by kernel_rfl) (by simp) ?_
  refine dB.cons (o:=⟨none,_,_,_,_,_⟩) rfl (fun Q hQ=>?_) dB.nil
  go_simp
  have hks:∀q,q≠nb→(w7.setCell ⟨nb,i,none⟩ (.slice (some ⟨g,0,none⟩) (l.length+1) cap)).heap[q]?=w7.heap[q]?:=fun q hq=>Below.heap_setCell w7 ⟨nb,i,none⟩ _ q hq
  have hfin:dS w0 p3 p6 p7 K nK nb num i (ls.set i (l++[x])) (w7.setCell ⟨nb,i,none⟩ (.slice (some ⟨g,0,none⟩) (l.length+1) cap)):=by
   have:=H1.grown (l':=l++[x]) (g:=g) (cap:=cap) (w':=w7) hl hc1 ⟨how.alloc _,hob⟩ hgrow hat (by simpa using hown7)
   simpa using this
  refine hQ.out _ _ (Till.last ?_) (fun hh=>?_)
  ·have h6:=hfin.c6
   have h7:=hfin.c7
   rw[List.length_set] at h6
   exact⟨cr h6 rfl,cr h7 rfl⟩
  clear hQ Q
  try simp only[tp]
  refine kH (by kernel_rfl) ?_ _
  have HFIN:=aA hfin
  clear h hl hs hb hfin hks hnb7 hob1 hlt1 e6 e7 hqn en fz hown7 hgrow hat hlt7 hc1 H1 HS1 hba hc hfz how hob hh HH hil c6 c7 cn hlk' c3 hn
  go_wp2
  go_end0
  exact⟨rfl,HFIN.out⟩
end Go.Proofs.YtmgfakcccfahaaaGreatDoor
