/-
  lustrumlaw1.varsOf, ExprOf, weightOf BY THEIR CONTRACTS, for a cut without the tree's reader.
-/
import Derived.Test.YtmgfakcccfahaaaGreatDoorN30
namespace Go.Proofs.YtmgfakcccfahaaaGreatDoor
open Go.RowKit
attribute [local go_sem ↓] Go.wp_at_zero Go.wp_at_succ
abbrev Mv(ba:Nat)(w w':World):Prop:=w.grownBy w' (some ba)
theorem Mv.of_below{ba:Nat}{w w':World}(h:Bw w w'):Mv ba w w':=⟨h.os,h.tape,h.output,h.size,fun k hk _=>h.block k hk⟩
theorem Mv.setAt(b o:Nat)(w:World)(v:Value):Mv b w (w.setCell ⟨b,o,none⟩ v):=
 ⟨rfl,rfl,rfl,by simp [World.setCell],fun k _ hn=>Below.heap_setCell _ _ _ _ (fun e=>hn (by rw[e]))⟩
theorem BO{ba base:Nat}{w w':World}{e:TypeId}{size:Nat}{v:Value}{n:Nat}{xs:List Value}(h:w.ownsRow base e size v n xs)(hm:Mv ba w w')(hb:ba<base):w'.ownsRow base e size v n xs:=by
 obtain⟨h1,h2⟩:=h
 refine⟨h1,?_⟩
 rcases h2 with h2 | ⟨g,cap,cur,hv,hg,hh,r⟩
 ·exact Or.inl h2
 ·refine Or.inr ⟨g,cap,cur,hv,hg,?_,r⟩
  have hl:g<w.heap.size:=by
   rcases Nat.lt_or_ge g w.heap.size with h | h
   ·exact h
   ·rw[Array.getElem?_eq_none h] at hh;cases hh
  rw[hm.block g hl (by intro e;injection e with e;omega)];exact hh
theorem MW{base g n cap b:Nat}{u:Value}{wr w4 w5:World}{o:Obj}(hmm:Mv b wr w4)(hb:b<base)(hgrow:(w4.alloc o).grownBy w5 u.ownBlock)(hat:u.ownBlock=some g∨g=w4.heap.size+1):aP (fun k=>base≤k∧u.ownBlock≠some k) (fun k=>base≤k∧(Value.slice (some ⟨g,0,none⟩) n cap).ownBlock≠some k) wr w5:=fun k hk hl=>by
 have hs:=hmm.size
 have h1:=hmm.block k hl (by intro e;injection e with e;have:=hk.1;omega)
 have h2:=hgrow.block k (by simp;omega) (fun e=>hk.2 e.symm)
 have h3:(w4.alloc o).heap[k]?=w4.heap[k]?:=heap_alloc_old w4 o (by omega)
 refine⟨⟨hk.1,?_⟩,h2.trans (h3.trans h1)⟩
 intro e
 simp only[Value.ownBlock,Option.some.injEq] at e
 subst e
 rcases hat with h | h
 ·exact hk.2 h
 ·omega
theorem MX{base H g n cap:Nat}{u:Value}{w4 w5:World}{o:Obj}(hH:base≤H)(hu:∀k,u.ownBlock=some k→k<H)(hgrow:(w4.alloc o).grownBy w5 u.ownBlock)(hat:u.ownBlock=some g∨g=w4.heap.size+1):aP (From H) (fun k=>base≤k∧(Value.slice (some ⟨g,0,none⟩) n cap).ownBlock≠some k) w4 w5:=fun k hk hl=>by
 unfold From at hk
 have h2:=hgrow.block k (by simp;omega) (fun e=>by have:=hu k e.symm;omega)
 have h3:(w4.alloc o).heap[k]?=w4.heap[k]?:=heap_alloc_old w4 o hl
 refine⟨⟨by omega,?_⟩,h2.trans h3⟩
 intro e
 simp only[Value.ownBlock,Option.some.injEq] at e
 subst e
 rcases hat with h | h
 ·have:=hu _ h;omega
 ·omega
theorem pM{w:World}{N k:Nat}{v:Value}{cur:Array Value}{t:TypeId}(h:w.heap[N]?=some (.cells cur t (0,0))):(w.setCell ⟨N,k,none⟩ v).heap[N]?=some (.cells (cur.setIfInBounds k v) t (0,0)):=by
 simp [World.setCell,Array.getElem?_modify,h]
theorem heap_alloc_new'{w:World}{n:Nat}(h:n=w.heap.size)(o:Obj):(w.alloc o).heap[n]?=some o:=by subst h;exact heap_alloc_new w o
def nL(w:World)(N:Nat)(a b c e:Value):World:=(((w.setCell ⟨N,0,none⟩ a).setCell ⟨N,1,none⟩ b).setCell ⟨N,2,none⟩ c).setCell ⟨N,3,none⟩ e
section
variable {w:World} {N:Nat} {a b c e:Value}
theorem Bo{k:Nat}(h:k≠N):(nL w N a b c e).heap[k]?=w.heap[k]?:=by
 unfold nL
 rw[Below.heap_setCell _ _ _ _ h,Below.heap_setCell _ _ _ _ h,Below.heap_setCell _ _ _ _ h,Below.heap_setCell _ _ _ _ h]
theorem Iw:(nL w N a b c e).heap.size=w.heap.size:=by simp [nL,World.setCell]
theorem Iz{H:Nat}(h:H≤N):Below H w (nL w N a b c e):=⟨rfl,rfl,rfl,by rw[Iw];exact Nat.le_refl _,fun k hk=>Bo (by omega)⟩
theorem Iu{S S':Nat→Prop}(hs:∀k,S k→k≠N∧S' k):aP S S' w (nL w N a b c e):=fun k hk _=>⟨(hs k hk).2,Bo (hs k hk).1⟩
end
theorem Iy{w:World}{N:Nat}{a b c e x y z u:Value}{t:TypeId}(h:w.heap[N]?=some (.cells #[x,y,z,u] t (0,0))):(nL w N a b c e).heap[N]?=some (.cells #[a,b,c,e] t (0,0)):=
 pM (pM (pM (pM h)))
theorem BP{base:Nat}{w:World}{e:TypeId}{size:Nat}{v:Value}{n:Nat}{xs:List Value}(h:w.ownsRow base e size v n xs){k:Nat}(hk:v.ownBlock=some k):base≤k∧k<w.heap.size:=by
 obtain⟨_,h2⟩:=h
 rcases h2 with⟨rfl,_⟩ | ⟨g,cap,cur,rfl,hg,hh,r⟩
 ·cases hk
 ·have e:g=k:=by simpa [Value.ownBlock] using hk
  subst e
  refine⟨hg,?_⟩
  rcases Nat.lt_or_ge g w.heap.size with h | h
  ·exact h
  ·rw[Array.getElem?_eq_none h] at hh;cases hh
theorem FW(l:List Ex)(e:Ex):bR (l++[e])=bR l++[.string e.op,.int .i64 e.n]:=by simp [bR]
theorem Tryz.MK:(Tryz.prog.info? 92).map (fun i=>(i.zero,i.size,i.bytes))=some (some (.agg #[.string ⟨#[]⟩,.int .i64 0,.string ⟨#[]⟩,.slice none 0 0]),4,64):=by kernel_rfl
theorem FV(vs:List Ex)(i:Nat)(hi:i<vs.length):bR (vs.take (i+1))=bR (vs.take i)++[.string vs[i].op,.int .i64 vs[i].n]:=by
 rw[←FW,List.take_succ_eq_append_getElem hi]
inductive Fit(N:Nat):List Ex→Prop
 | nil:Fit N []
 | cons (op:ByteArray) (n:Int) (s:ByteArray) (l es:List Ex):l.length≤N→Fit N l→Fit N es→Fit N (.mk op n s l::es)
theorem Fit.at{N:Nat}{l:List Ex}(h:Fit N l):∀{i:Nat} (hi:i<l.length) {op:ByteArray} {n:Int} {s:ByteArray} {es:List Ex},l[i]=.mk op n s es→es.length≤N∧Fit N es:=by
 induction h with
 | nil=>intro i hi;simp at hi
 | cons op n s l es h1 h2 _ _ ih=>
  intro i hi op' n' s' es' e
  cases i with
  | zero=>
   simp only[List.getElem_cons_zero,Ex.mk.injEq] at e
   obtain⟨_,_,_,rfl⟩:=e
   exact⟨h1,h2⟩
  | succ i=>exact ih (i:=i) (by simpa using hi) (by simpa using e)
theorem aP.below{S S':Nat→Prop}{w w':World}(h:Bw w w')(hs:∀k,S k→S' k):aP S S' w w':=fun k hk hl=>⟨hs k hk,h.block k hl⟩
theorem aP.set{S S':Nat→Prop}{w:World}{p:Addr}(v:Value)(hs:∀k,S k→k≠p.block∧S' k):aP S S' w (w.setCell p v):=fun k hk _=>⟨(hs k hk).2,Below.heap_setCell _ _ _ _ (hs k hk).1⟩
abbrev qK(op:ByteArray)(n:Int)(s:ByteArray)(v:Value):Obj:=.cells #[.string op,.int .i64 n,.string s,v] 79
abbrev pJ:Obj:=.cells #[.string ⟨#[]⟩,.int .i64 0,.string ⟨#[]⟩,.slice none 0 0] 92
def oC(k:Int)(w:World)(e:Ending)(w':World):Prop:=e=.returned (.int .i64 k)∧Bw w w'
abbrev ER(k:Int)(op:ByteArray)(n:Int)(s:ByteArray)(l:List Ex):Prop:=∀(w:World) (S:Nat→Prop) (o:Option Addr) (c:Nat) (ys:List Value),aB w S 4 (.slice o l.length c) l.length ys→aI w S l ys →
  Calls Tryz.prog 33 #[.agg #[.string op,.int .i64 n,.string s,.slice o l.length c]] w (oC k w)
def rF(s0:Int)(val:Nat→Int):Nat→Int
 | 0=>s0
 | i+1=>wrap64 (rF s0 val i+val i)
set_option maxRecDepth 100000
set_option maxHeartbeats 4000000

section
variable {P:Program}
theorem OU{w:World}{base n size:Nat}{v:Value}{xs:List Value}{t e:TypeId}{i:TypeInfo}(ht:P.underlying t=some (.slice e))(hi:P.info? e=some i)(hown:w.ownsRow base e size v n xs)(p:Option Addr)(c:Nat)(ty:TypeId) :
  (Builtin.append_ #[t,t] ty #[v,.slice p 0 c]).run P w=.ok v w:=by
 rcases hown.2 with⟨rfl,rfl⟩ | ⟨g,cap,cur,rfl,_,_,hnc,_⟩
 ·cases p<;>simp [Builtin.append_,run_underlying ht,sizeOf,typeInfo,hi,Builtin.lenOf,Builtin.firstCells,loadCells,loadCellsFrom]
 ·cases p<;>simp [Builtin.append_,run_underlying ht,sizeOf,typeInfo,hi,Builtin.lenOf,Builtin.firstCells,hnc,loadCells,loadCellsFrom,storeCells]
theorem FM(w:World){o:Oper}{a:Act}{K:Act→World→Prop}{Q:Exit→Act→World→Prop}(s x:Operand)(t:TypeId)
  (ho:o.op=.call { callee:=.builtin .append,args:=#[s,x],argTypes:=#[t,t] })
  (base:Nat) (e:TypeId) (i:TypeInfo) (z:Value) (size bytes:Nat) (ht:P.underlying t=some (.slice e)) (hi:P.info? e=some i) (hz:i.zero=some z)
  (hsize:i.size=size) (hby:i.bytes=bytes) (hzs:z.cells.size=size) (hsz:0<size)
  (v:Value) (n:Nat) (xs:List Value) (hs:a.eval s=v) (hown:w.ownsRow base e size v n xs)
  (S:Nat→Prop) (ao:Option Addr) (m c:Nat) (news:List Value) (hx:a.eval x=.slice ao m c) (hrow:aB w S size (.slice ao m c) m news) (h1:∀u∈news,u.oneCell'=true)
  (h63:n+m≤maxLen) (hbytes:(n+m)*bytes≤140737488355328) (hbase:base≤w.heap.size)
  (h:∀v' w',w'.ownsRow base e size v' (n+m) (xs++news)→w.grownBy w' v.ownBlock→(∀k,v'.ownBlock=some k→v.ownBlock=some k∨k=w.heap.size)→K (a.put o.dst v') w'):o.wp P a w K Q:=by
 by_cases hm:m=0
 ·subst hm
  obtain rfl:news=[]:=List.eq_nil_of_length_eq_zero (by rw[hrow.1,Nat.zero_mul])
  have hr:=OU ht hi hown ao c o.type
  refine Lib.wp_append_run w s x t t ho v (.slice ao 0 c) hs hx v w hr (h v w ?_ ⟨rfl,rfl,rfl,Nat.le_refl _,fun _ _ _=>rfl⟩ (fun k hk=>.inl hk))
  rw[Nat.add_zero,List.append_nil]
  exact hown
 ·have hl:=hrow.1
  obtain⟨b,off,c',ev,_,_,hc⟩:=hrow.at (by rw[hl];exact Nat.mul_pos (by omega) hsz)
  obtain⟨rfl,rfl⟩:ao=some ⟨b,off,none⟩∧c=c':=by simpa using ev
  refine wp_append_lies w s x t ho base e i z size bytes ht hi hz hsize hby hzs hsz v n xs hs hown ⟨b,off,none⟩ m c news hx hl (fun j u hj=>by rw[Addr.add_lit];exact hc j u hj) h1 (by omega) h63 hbytes hbase w.heap.size rfl fun g cap w' h2 h3 h4 _=>h _ w' h2 h3 fun k hk=>?_
  have e':g=k:=by simpa [Value.ownBlock] using hk
  rw[←e']
  exact h4
theorem tZ(w:World){ops:Array Oper}{rest:List Oper}{o:Oper}{a:Act}{Q:Exit→Act→World→Prop}(hgd:o.guard=none)(s x:Operand)(t:TypeId)
  (ho:o.op=.call { callee:=.builtin .append,args:=#[s,x],argTypes:=#[t,t] })
  (base:Nat) (e:TypeId) (i:TypeInfo) (z:Value) (size bytes:Nat) (ht:P.underlying t=some (.slice e)) (hi:P.info? e=some i) (hz:i.zero=some z)
  (hsize:i.size=size) (hby:i.bytes=bytes) (hzs:z.cells.size=size) (hsz:0<size)
  (v:Value) (n:Nat) (xs:List Value) (hs:a.eval s=v) (hown:w.ownsRow base e size v n xs)
  (S:Nat→Prop) (ao:Option Addr) (m c:Nat) (news:List Value) (hx:a.eval x=.slice ao m c) (hrow:aB w S size (.slice ao m c) m news) (h1:∀u∈news,u.oneCell'=true)
  (h63:n+m≤maxLen) (hbytes:(n+m)*bytes≤140737488355328) (hbase:base≤w.heap.size)
  (h:∀v' w',w'.ownsRow base e size v' (n+m) (xs++news)→w.grownBy w' v.ownBlock→(∀k,v'.ownBlock=some k→v.ownBlock=some k∨k=w.heap.size)→wpList P ops Q rest (a.put o.dst v') w'):wpList P ops Q (o::rest) a w:=
 wpList_plain hgd fun _ hK=>FM w s x t ho base e i z size bytes ht hi hz hsize hby hzs hsz v n xs hs hown S ao m c news hx hrow h1 h63 hbytes hbase fun v' w' h2 h3 h4=>hK _ _ (h v' w' h2 h3 h4)
end
theorem uS{w:World}{base n size:Nat}{e:TypeId}{v:Value}{xs:List Value}(h:w.ownsRow base e size v n xs):∃o c,v=.slice o n c:=by
 obtain⟨o,c,rfl,_⟩:=uR h
 exact⟨o,c,rfl⟩
theorem Tryz.MH:(Tryz.prog.info? 79).map (fun i=>(i.zero,i.size,i.bytes))=some (some (.agg #[.string ⟨#[]⟩,.int .i64 0,.string ⟨#[]⟩,.slice none 0 0]),4,64):=by kernel_rfl
theorem xG(w:World)(S:Nat→Prop)(p:Pg)(o1 o2 o3 o4 o5:Option Addr)(c1 c2 c3 c4 c5:Nat)(h:fE w S p (.slice o1 p.ins.length c1) (.slice o2 p.outs.length c2) (.slice o3 p.fs.length c3) (.slice o4 p.asserts.length c4) (.slice o5 p.checks.length c5))(hs:(aD p).length≤2097152) :
  Calls Tryz.prog 32 #[.agg #[.slice o1 p.ins.length c1,.slice o2 p.outs.length c2,.slice o3 p.fs.length c3,.slice o4 p.asserts.length c4,.slice o5 p.checks.length c5]] w fun e w'=>∃so sc xs,e=.returned (.slice so (aD p).length sc)∧aB w' (fun _=>True) 4 (.slice so (aD p).length sc) (aD p).length xs∧aI w' (fun _=>True) (aD p) xs∧Bw w w':=by
 obtain⟨i0,hi0,hz0,hz1,hz2⟩:=info_parts Tryz.MH
 have hlt:(aD p).length=p.fs.length+(p.asserts.length+p.checks.length):=by unfold aD;simp
 obtain⟨_,_,⟨x3,h3,g3⟩,⟨x4,h4,g4⟩,⟨x5,h5,g5⟩⟩:=h
 obtain⟨ys,hys,hyx⟩:=g3.terms
 obtain⟨N,hN⟩:∃N,N=p.fs.length:=⟨_,rfl⟩
 obtain⟨w1,hw1⟩:∃w1,w1=w.alloc (.cells #[.slice o1 p.ins.length c1,.slice o2 p.outs.length c2,.slice o3 N c3,.slice o4 p.asserts.length c4,.slice o5 p.checks.length c5] 27):=⟨_,rfl⟩
 obtain⟨B,hB⟩:∃B,B=w.heap.size:=⟨_,rfl⟩
 have hb1:Bw w w1:=by rw[hw1];exact aH
 have hr1:w1.heap[B]?=some (.cells #[.slice o1 p.ins.length c1,.slice o2 p.outs.length c2,.slice o3 N c3,.slice o4 p.asserts.length c4,.slice o5 p.checks.length c5] 27 (0,0)):=by rw[hw1,hB];exact heap_alloc_new _ _
 have HSZ:Hid (N=p.fs.length∧N+(p.asserts.length+p.checks.length)≤2097152∧(aD p).length=N+p.asserts.length+p.checks.length):=by unfold Hid;omega
 have HY:Hid (aB w S 6 (.slice o3 N c3) N x3∧cB w S p.fs x3∧aI w S (p.fs.map fun f=>f.e) ys∧(∀i k,k<4→i<p.fs.length→ys[i*4+k]?=x3[i*6+2+k]?)∧ys.length=N*4):=⟨by rw[hN];exact h3,g3,hys,hyx,by rw[hys.length,List.length_map,hN]⟩
 have H4:Hid (aB w S 4 (.slice o4 p.asserts.length c4) p.asserts.length x4∧aI w S p.asserts x4):=⟨h4,g4⟩
 have H5:Hid (aB w S 4 (.slice o5 p.checks.length c5) p.checks.length x5∧aI w S p.checks x5):=⟨h5,g5⟩
 have HB:Hid (Bw w w1∧B=w.heap.size∧w1.heap.size=B+1):=⟨hb1,hB,by rw[hw1,hB,World.size_alloc]⟩
 have HC:Hid (∀W,Bw w1 W→W.cell? ⟨B,0+2,none⟩=some (.slice o3 N c3)∧W.cell? ⟨B,0+3,none⟩=some (.slice o4 p.asserts.length c4)∧W.cell? ⟨B,0+4,none⟩=some (.slice o5 p.checks.length c5)):=fun W hW=>by
  have hr:=aG hW hr1
  refine⟨?_,?_,?_⟩<;>(rw[cell_of_row W _ _ _ _ (0,0) hr];rfl)
 have HW1:Hid (w.alloc (.cells #[.slice o1 p.ins.length c1,.slice o2 p.outs.length c2,.slice o3 N c3,.slice o4 p.asserts.length c4,.slice o5 p.checks.length c5] 27)=w1∧w.heap.size=B):=⟨hw1.symm,hB.symm⟩
 rw[←hN]
 clear hs hlt h3 g3 h4 g4 h5 g5 hys hyx hN hw1 hB hb1 hr1
 go_enter Tryz.func32,Tryz.ntmps32
 go_upto_region 1 with fail
 rw[HW1.out.1,HW1.out.2]
 go_wp2
 go_loopw [3,4] (fun v t wr=>∃(j:Nat) (so:Option Addr) (sc:Nat),j≤N∧t=.int .i64 j∧v=.slice so j sc∧Hid (wr.ownsRow w1.heap.size 79 4 (.slice so j sc) j (ys.take (j*4))∧Bw w1 wr)) (fun _ t _=>N-(intOf t).toNat)
 case atStart=>exact⟨0,none,0,Nat.zero_le _,rfl,rfl,by rw[Nat.zero_mul,List.take_zero];exact World.ownsRow_nil _ _ _ _,Below.refl _ _⟩
 case round=>
  obtain⟨j,so,sc,hj,rfl,rfl,HR⟩:=hrel
  obtain⟨b2,b3,b4⟩:=HC.out wr HR.out.2
  by_cases hjl:j<N
  ·obtain⟨name,kind,op,n,s,es,oo,cc,zs,ej,_,_,k2,k3,k4,k5,_,_⟩:=HY.out.2.1.at (i:=j) (by have:=HSZ.out.1;omega)
   obtain⟨b,off,c',ev,_,_,gg⟩:=(HY.out.1.keep (S':=fun _=>True) (fun b _ hl=>⟨trivial,((HB.out.1.trans (HR.out.2.mono HB.out.1.size)).block b hl)⟩)).at (by rw[HY.out.1.1];omega)
   obtain⟨rfl,rfl⟩:o3=some ⟨b,off,none⟩∧c3=c':=by simpa using ev
   have y0:=gg _ _ k2
   have y1:=gg _ _ k3
   have y2:=gg _ _ k4
   have y3:=gg _ _ k5
   rw[←Nat.add_assoc] at y0 y1 y2 y3
   have e0:=HY.out.2.2.2.1 j 0 (by omega) (by have:=HSZ.out.1;omega)
   have e1:=HY.out.2.2.2.1 j 1 (by omega) (by have:=HSZ.out.1;omega)
   have e2:=HY.out.2.2.2.1 j 2 (by omega) (by have:=HSZ.out.1;omega)
   have e3:=HY.out.2.2.2.1 j 3 (by omega) (by have:=HSZ.out.1;omega)
   rw[Nat.add_zero] at e0
   have HT:Hid (ys.take ((j+1)*4)=ys.take (j*4)++[.string op,.int .i64 n,.string s,.slice oo es.length cc]):=xI (e0.trans k2) (e1.trans k3) (e2.trans k4) (e3.trans k5)
   have HOW:Hid ((wr.alloc (.cells #[.string op,.int .i64 n,.string s,.slice oo es.length cc] 79)).ownsRow w1.heap.size 79 4 (.slice so j sc) j (ys.take (j*4))∧w1.heap.size≤(wr.alloc (.cells #[.string op,.int .i64 n,.string s,.slice oo es.length cc] 79)).heap.size):=by
    have hba:Bw wr (wr.alloc (.cells #[.string op,.int .i64 n,.string s,.slice oo es.length cc] 79)):=aH
    exact⟨l9 HR.out.1 hba,Nat.le_trans HR.out.2.size hba.size⟩
   have HN':Hid _:=World.news_of_block (heap_alloc_new wr (.cells #[.string op,.int .i64 n,.string s,.slice oo es.length cc] 79))
   have HM:Hid (j+1≤maxLen∧(j+1)*64≤140737488355328):=by have:=HSZ.out.2.1;unfold Hid maxLen;omega
   have HFIN:Hid (∀g cap w3,w3.ownsRow w1.heap.size 79 4 (.slice (some ⟨g,0,none⟩) (j+1) cap) (j+1) (ys.take (j*4)++[.string op,.int .i64 n,.string s,.slice oo es.length cc])→(wr.alloc (.cells #[.string op,.int .i64 n,.string s,.slice oo es.length cc] 79)).grownBy w3 (Value.slice so j sc).ownBlock→w3.ownsRow w1.heap.size 79 4 (.slice (some ⟨g,0,none⟩) (j+1) cap) (j+1) (ys.take ((j+1)*4))∧Bw w1 w3):=fun g cap w3 h1 h2=>by
    refine⟨by rw[HT.out];exact h1,?_⟩
    have hba:Bw w1 (wr.alloc (.cells #[.string op,.int .i64 n,.string s,.slice oo es.length cc] 79)):=HR.out.2.alloc HR.out.2.size _
    exact hba.grown h2 hba.size (fun k hk=>(HR.out.1.lt k hk).1)
   have N4:Hid (wrap64 ((j:Int)+1)=(j:Int)+1):=by have:=HSZ.out.2.1;unfold Hid wrap64;omega
   have HJ:=aA hjl
   have i0':(0:Int)≤(j:Int):=by omega
   have i1':(j:Int)<(N:Int):=by omega
   clear ej k2 k3 k4 k5 ev gg e0 e1 e2 e3 hjl hj HR b3 b4
   go_wp2_with (first | (at_builtin;refine wpList_append_lies _ rfl _ _ 25 rfl w1.heap.size 79 i0 _ 4 64 Tryz.underlying25 hi0 hz0 hz1 hz2 rfl (by omega) (.slice so j sc) j (ys.take (j*4)) rfl HOW.out.1 ⟨wr.heap.size,0,none⟩ 1 1 [.string op,.int .i64 n,.string s,.slice oo es.length cc] rfl rfl HN'.out (by simp [Value.oneCell']) (by omega) HM.out.1 HM.out.2 HOW.out.2 _ rfl ?_;intro g cap w3 hown3 hgrow hat hlt3) | go_in)
   exact⟨⟨j+1,_,_,HJ.out,by rw[N4.out];rfl,rfl,HFIN.out g cap w3 hown3 hgrow⟩,by rw[N4.out];have:=HJ.out;simp [intOf];omega⟩
  ·obtain rfl:N=j:=by omega
   have HO:Hid (wr.ownsRow w1.heap.size 79 4 (.slice so N sc) N ys∧Bw w1 wr):=by
    have h:=HR.out
    rw[List.take_of_length_le (by rw[HY.out.2.2.2.2];exact Nat.le_refl _)] at h
    exact h
   have HR4:Hid (∀W,Bw w1 W→aB W (fun _=>True) 4 (.slice o4 p.asserts.length c4) p.asserts.length x4∧aB W (fun _=>True) 4 (.slice o5 p.checks.length c5) p.checks.length x5):=fun W hW=>by
    have hb:Bw w W:=HB.out.1.trans (hW.mono HB.out.1.size)
    exact⟨H4.out.1.keep (fun b _ hl=>⟨trivial,hb.block b hl⟩),H5.out.1.keep (fun b _ hl=>⟨trivial,hb.block b hl⟩)⟩
   have HM:Hid (N+p.asserts.length≤maxLen∧(N+p.asserts.length)*64≤140737488355328∧N+p.asserts.length+p.checks.length≤maxLen∧(N+p.asserts.length+p.checks.length)*64≤140737488355328):=by have:=HSZ.out.2.1;unfold Hid maxLen;omega
   clear hj hjl HR
   go_wp2_with (first | (at_builtin;refine tZ wr rfl _ _ 25 rfl w1.heap.size 79 i0 _ 4 64 Tryz.underlying25 hi0 hz0 hz1 hz2 rfl (by omega) (.slice so N sc) N ys rfl HO.out.1 _ o4 p.asserts.length c4 x4 rfl (HR4.out wr HO.out.2).1 (qZ H4.out.2) HM.out.1 HM.out.2.1 HO.out.2.size ?_;intro v2 w2 hown2 hgrow2 _;obtain⟨q1,q2,rfl⟩:=uS hown2;have HB2:Hid (Bw w1 w2):=HO.out.2.grown hgrow2 HO.out.2.size (fun k hk=>(HO.out.1.lt k hk).1);obtain⟨_,_,b4⟩:=HC.out w2 HB2.out) | (at_builtin;refine tZ w2 rfl _ _ 25 rfl w1.heap.size 79 i0 _ 4 64 Tryz.underlying25 hi0 hz0 hz1 hz2 rfl (by omega) (.slice q1 (N+p.asserts.length) q2) (N+p.asserts.length) (ys++x4) rfl hown2 _ o5 p.checks.length c5 x5 rfl (HR4.out w2 HB2.out).2 (qZ H5.out.2) HM.out.2.2.1 HM.out.2.2.2 HB2.out.size ?_;intro v3 w3 hown3 hgrow3 _;obtain⟨q3,q4,rfl⟩:=uS hown3;have HB3:Hid (Bw w1 w3):=HB2.out.grown hgrow3 HB2.out.size (fun k hk=>(hown2.lt k hk).1)) | go_in)
   go_ret
   have hb3:Bw w w3:=HB.out.1.trans (HB3.out.mono HB.out.1.size)
   have hst:aP S (fun _=>True) w w3:=fun b _ hl=>⟨trivial,hb3.block b hl⟩
   refine⟨q3,q4,by rw[HSZ.out.2.2];rfl,ys++x4++x5,?_,?_,hb3⟩
   ·rw[HSZ.out.2.2]
    exact(aB.qM hown3).keep (fun _ _ _=>⟨trivial,rfl⟩)
   ·have h:=((HY.out.2.2.1.keep hst).append (H4.out.2.keep hst)).append (H5.out.2.keep hst)
    unfold aD
    rw[←List.append_assoc]
    exact h
mutual
def fG:Ex→Nat
 | .mk _ _ s l=>1+s.size+bQ l
def bQ:List Ex→Nat
 | []=>0
 | e::es=>fG e+bQ es
end
theorem Al:∀(l:List Ex) (e:Ex),bQ (l++[e])=bQ l+fG e
 | [],e=>by simp [bQ]
 | x::l,e=>by rw[List.cons_append,bQ,bQ,Al l e];omega
theorem wW(l:List Ex)(i:Nat)(h:i<l.length):bQ (l.take (i+1))=bQ (l.take i)+fG l[i]:=by
 rw[List.take_succ_eq_append_getElem h,Al]
theorem tQ:∀(l:List Ex) (i:Nat),bQ (l.take i)≤bQ l
 | [],i=>by simp [bQ]
 | x::l,0=>by simp [bQ]
 | x::l,i+1=>by have:=tQ l i;rw[List.take_succ_cons,bQ,bQ];omega
mutual
theorem GZ:∀e:Ex,aJ e≤fG e
 | .mk op n s l=>by have:=uI l;unfold aJ fG;omega
theorem uI:∀l:List Ex,aC l≤bQ l
 | []=>by simp [aC]
 | e::l=>by have:=GZ e;have:=uI l;unfold aC bQ;omega
end
theorem EP(s0:Nat)(l:List Ex)(hw:s0+bQ l≤4611686018427387904):∀i,i≤l.length→rF (s0:Int) (fun i=>((l[i]?.map fG).getD 0:Nat)) i=((s0+bQ (l.take i):Nat):Int)
 | 0,_=>by simp [rF,bQ]
 | i+1,hi=>by
  have h1:=wW l i hi
  have h2:=tQ l (i+1)
  unfold rF
  rw[EP s0 l hw i (by omega),List.getElem?_eq_getElem hi,Option.map_some,Option.getD_some]
  unfold wrap64
  omega
theorem Av:∀(m:Nat) (op:ByteArray) (n:Int) (s:ByteArray) (l:List Ex),SizeOf.sizeOf l<m→fG (.mk op n s l)≤4611686018427387904→ER (fG (.mk op n s l):Nat) op n s l
 | 0=>fun _ _ _ _ h=>absurd h (Nat.not_lt_zero _)
 | m+1=>by
  intro op n s l hm hw
  have hwt:1+s.size+bQ l≤4611686018427387904:=by unfold fG at hw;exact hw
  obtain⟨val,hvl⟩:∃val:Nat→Int,val=fun i=>(((l[i]?.map fG).getD 0:Nat):Int):=⟨_,rfl⟩
  have hval:∀i (hi:i<l.length) (op:ByteArray) (n:Int) (s:ByteArray) (es:List Ex),l[i]=.mk op n s es→ER (val i) op n s es:=fun i hi op n s es e=>by
   have hsp:=kC hi e
   have h1:=wW l i hi
   have h2:=tQ l (i+1)
   rw[e] at h1
   have h:=Av m op n s es (by omega) (by omega)
   rw[hvl]
   simp only
   rw[List.getElem?_eq_getElem hi,Option.map_some,Option.getD_some,e]
   exact h
  have hacc:rF (wrap64 (1+s.size)) val l.length=((fG (.mk op n s l):Nat):Int):=by
   have hs0:wrap64 (1+(s.size:Int))=((1+s.size:Nat):Int):=by unfold wrap64;omega
   rw[hs0,hvl,EP (1+s.size) l hwt l.length (Nat.le_refl _),List.take_length]
   unfold fG
   rfl
  rw[←hacc]
  clear hacc hvl hwt hw
  intro w S o c ys h1 h2
  have HV:=aA hval
  have hl:=h1.len
  unfold maxLen at hl
  have H1:=aA h1
  have H2:=aA h2
  clear h1 h2 hval
  have hbA:Bw w (w.alloc (qK op n s (.slice o l.length c))):=aH
  have HA:Hid _:=heap_alloc_new w (qK op n s (.slice o l.length c))
  go_enter Tryz.func33,Tryz.ntmps33
  go_wp2
  go_loopw [3,4] (fun v t wr=>∃(i:Nat),i≤l.length∧t=.int .i64 i∧v=.int .i64 (rF (wrap64 (1+s.size)) val i)∧Bw w wr∧Hid (wr.heap[w.heap.size]?=some (qK op n s (.slice o l.length c)))) (fun _ t _=>l.length-(intOf t).toNat)
  case atStart=>exact⟨0,Nat.zero_le _,rfl,rfl,hbA,HA⟩
  case round=>
   obtain⟨i,hi,rfl,rfl,hb,HR⟩:=hrel
   obtain⟨a0,a1,a2,a3,_⟩:=gL HR.out
   by_cases hlt:i<l.length
   ·obtain⟨op',n',s',es,oo,cc,zs,e,x0,x1,x2,x3,r1,r2⟩:=H2.out.at hlt
    obtain⟨p,f,rfl,_,g⟩:=kZ H1.out (by have:=H1.out.1;omega)
    have x0:=aF hb (g _ _ x0)
    have x1:=aF hb (g _ _ x1)
    have x2:=aF hb (g _ _ x2)
    have x3:=aF hb (g _ _ x3)
    rw[←Nat.add_assoc] at x1 x2 x3
    have i0':(0:Int)≤(i:Int):=by omega
    have i1:(i:Int)<(l.length:Int):=by omega
    have Hr:Hid (Calls Tryz.prog 33 #[.agg #[.string op',.int .i64 n',.string s',.slice oo es.length cc]] wr (oC (val i) wr)):=HV.out i hlt op' n' s' es e wr S oo cc zs (r1.keep (aP.below hb (fun k hk=>hk))) (r2.keep (aP.below hb (fun k hk=>hk)))
    clear g e r1 r2
    go_wp2_with fail
    refine Hr.out.mono ?_
    rintro e w4 ⟨rfl,hb4⟩
    have HR4:Hid _:=aG hb4 HR.out
    go_wp2
    exact⟨⟨i+1,by omega,by go_num,rfl,hb.trans (hb4.mono hb.size),HR4⟩,by simp [intOf];omega⟩
   ·obtain rfl:i=l.length:=by omega
    go_wp2
    go_ret
    exact⟨rfl,hb⟩
open Go.Maps
mutual
def kN(fl:List UInt8→Option Int):Ex→Bool
 | .mk op _ s l=>if op.data.toList=bI then decide (0<(fl s.data.toList).getD 0) else if op.data.toList=cZ then true else if op.data.toList=iZ∨op.data.toList=cK then ((nS fl l).take 1).any id else (nS fl l).any id
def nS(fl:List UInt8→Option Int):List Ex→List Bool
 | []=>[]
 | e::es=>kN fl e::nS fl es
end
def mJ(op:ByteArray):Bool:=op.data.toList==cZ||op.data.toList==cK
mutual
def fB:Ex→Nat
 | .mk op _ _ l=>dV l+bif mJ op then 1 else 0
def dV:List Ex→Nat
 | []=>0
 | e::es=>fB e+dV es
end
def dK(b:Nat):List Ex→List Nat
 | []=>[]
 | e::es=>(b+aJ e-1)::dK (b+aJ e) es
def nP(fl:List UInt8→Option Int)(b c:Nat)(op:ByteArray)(n:Int)(s:ByteArray)(l:List Ex):Pq:=
 if mJ op then ⟨op,n,dK b l,((c+dV l:Nat):Int),0,kN fl (.mk op n s l)⟩ else ⟨op,if op.data.toList=nT then 1 else n,dK b l,0,0,kN fl (.mk op n s l)⟩
mutual
def jN(fl:List UInt8→Option Int)(b c:Nat):Ex→List Pq
 | .mk op n s l=>eZ fl b c l++[nP fl b c op n s l]
def eZ(fl:List UInt8→Option Int)(b c:Nat):List Ex→List Pq
 | []=>[]
 | e::es=>jN fl b c e++eZ fl (b+aJ e) (c+fB e) es
end
mutual
def kK:Ex→List ByteArray
 | .mk _ _ s l=>gT l++[s]
def gT:List Ex→List ByteArray
 | []=>[]
 | e::es=>kK e++gT es
end
mutual
def kP(b:Nat):Ex→List Nat
 | .mk op _ _ l=>gI b l++bif mJ op then [(dK b l).getLastD 0] else []
def gI(b:Nat):List Ex→List Nat
 | []=>[]
 | e::es=>kP b e++gI (b+aJ e) es
end
theorem Bb:∀e:Ex,0<aJ e
 | .mk op n s l=>by unfold aJ;omega
mutual
theorem nN(fl:List UInt8→Option Int):∀(e:Ex) (b c:Nat),(jN fl b c e).length=aJ e
 | .mk op n s l,b,c=>by unfold jN aJ;rw[List.length_append,lD fl l b c];rfl
theorem lD(fl:List UInt8→Option Int):∀(l:List Ex) (b c:Nat),(eZ fl b c l).length=aC l
 | [],b,c=>by simp [eZ,aC]
 | e::es,b,c=>by unfold eZ aC;rw[List.length_append,nN fl e b c,lD fl es]
end
mutual
theorem sH:∀(e:Ex),(kK e).length=aJ e
 | .mk op n s l=>by unfold kK aJ;rw[List.length_append,qN l];rfl
theorem qN:∀(l:List Ex),(gT l).length=aC l
 | []=>by simp [gT,aC]
 | e::es=>by unfold gT aC;rw[List.length_append,sH e,qN es]
end
mutual
theorem p9:∀(e:Ex) (b:Nat),(kP b e).length=fB e
 | .mk op n s l,b=>by unfold kP fB;rw[List.length_append,nU l b];cases mJ op<;>rfl
theorem nU:∀(l:List Ex) (b:Nat),(gI b l).length=dV l
 | [],b=>by simp [gI,dV]
 | e::es,b=>by unfold gI dV;rw[List.length_append,p9 e b,nU es]
end
def xP(fl:List UInt8→Option Int)(b c:Nat):Ex→Pq
 | .mk op n s l=>nP fl b c op n s l
theorem Ch(fl:List UInt8→Option Int)(b c:Nat)(op:ByteArray)(n:Int)(s:ByteArray)(l:List Ex):(nP fl b c op n s l).late=kN fl (.mk op n s l):=by unfold nP;split<;>rfl
theorem IG(fl:List UInt8→Option Int)(b c:Nat):∀e:Ex,(xP fl b c e).late=kN fl e
 | .mk op n s l=>Ch fl b c op n s l
theorem JU(fl:List UInt8→Option Int):∀(e:Ex) (b c:Nat),(jN fl b c e)[aJ e-1]?=some (xP fl b c e)
 | .mk op n s l,b,c=>by
  unfold jN aJ xP
  rw[Nat.add_sub_cancel,List.getElem?_append_right (by rw[lD];exact Nat.le_refl _),lD,Nat.sub_self]
  rfl
theorem CS(fl:List UInt8→Option Int):∀(l:List Ex) (A B:List Pq) (c:Nat),(dK A.length l).map (vL (A++(eZ fl A.length c l++B)))=nS fl l
 | [],A,B,c=>by simp [dK,nS]
 | e::es,A,B,c=>by
  have h:=CS fl es (A++jN fl A.length c e) B (c+fB e)
  unfold dK nS eZ
  rw[List.map_cons]
  have hp:=Bb e
  congr 1
  ·unfold vL
   rw[List.append_assoc,List.getElem?_append_right (by omega),List.getElem?_append_left (by rw[nN];omega),show A.length+aJ e-1-A.length=aJ e-1 from by omega,JU]
   exact IG fl _ _ e
  ·rw[List.length_append,nN] at h
   rw[←h,List.append_assoc,List.append_assoc]
theorem LZ(op:ByteArray):(op.data.toList=cZ∨op.data.toList=cK) ↔ mJ op=true:=by unfold mJ;simp
mutual
theorem BH(fl:List UInt8→Option Int):∀(e:Ex) (m:Pm),pR fl e m=(⟨m.ps++jN fl m.ps.length m.ks.length e,m.ns++kK e,m.ks++kP m.ps.length e⟩,m.ps.length+aJ e-1)
 | .mk op n s l,m=>by
  have h:=uQ fl l m
  have hq:vR fl (m.ps++eZ fl m.ps.length m.ks.length l) op s (dK m.ps.length l)=kN fl (.mk op n s l):=by
   have hl:=CS fl l m.ps [] m.ks.length
   rw[List.append_nil] at hl
   unfold vR kN
   rw[←hl,←List.map_take]
   simp only[List.any_map,Function.id_comp]
  unfold pR jN kK kP aJ
  rw[h]
  simp only[BI,hq,LZ]
  have e1:(m.ps++eZ fl m.ps.length m.ks.length l).length=m.ps.length+(aC l+1)-1:=by rw[List.length_append,lD];omega
  have e2:(m.ks++gI m.ps.length l).length=m.ks.length+dV l:=by rw[List.length_append,nU]
  rw[e1,e2]
  unfold nP
  cases mJ op<;>simp
theorem uQ(fl:List UInt8→Option Int):∀(l:List Ex) (m:Pm),gF fl l m=(⟨m.ps++eZ fl m.ps.length m.ks.length l,m.ns++gT l,m.ks++gI m.ps.length l⟩,dK m.ps.length l)
 | [],m=>by simp [gF,eZ,gT,gI,dK]
 | e::es,m=>by
  have h1:=BH fl e m
  have h2:=uQ fl es ⟨m.ps++jN fl m.ps.length m.ks.length e,m.ns++kK e,m.ks++kP m.ps.length e⟩
  unfold gF eZ gT gI dK
  rw[h1]
  simp only
  rw[h2]
  simp only[List.length_append,nN,p9,List.append_assoc]
end
end Go.Proofs.YtmgfakcccfahaaaGreatDoor
