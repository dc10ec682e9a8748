/-
  lustrumlaw1.varsOf, ExprOf, exprsOf BY THEIR CONTRACTS: in new memory, and plain.
-/
import Derived.Test.YtmgfakcccfahaaaGreatDoorN38
namespace Go.Proofs.YtmgfakcccfahaaaGreatDoor
open Go.RowKit
set_option maxRecDepth 100000
set_option maxHeartbeats 1000000
attribute [local go_sem ↓] Go.wp_at_zero Go.wp_at_succ

def Pl(w:World)(b:Nat):Prop:=∃cs t,w.heap[b]?=some (.cells cs t (0,0))
def bJ(base:Nat)(w:World):Nat→Prop:=fun b=>From base b∧Pl w b
theorem aP.pl{S S':Nat→Prop}{w w':World}(h:aP S S' w w'):aP (fun b=>S b∧Pl w b) (fun b=>S' b∧Pl w' b) w w':=fun b hb hl=>by
 obtain⟨h1,h2⟩:=h b hb.1 hl
 obtain⟨cs,t,hc⟩:=hb.2
 exact⟨⟨h1,cs,t,h2.trans hc⟩,h2⟩
theorem aB.sD{w:World}{base size n:Nat}{e:TypeId}{v:Value}{xs:List Value}(h:w.ownsRow base e size v n xs):aB w (bJ base w) size v n xs:=by
 have h0:=aB.qM h
 obtain⟨h1,h2,o,c,rfl,h3,h4⟩:=h0
 refine⟨h1,h2,o,c,rfl,fun k x hx=>?_,h4⟩
 obtain⟨b,off,rfl,hb,hc⟩:=h3 k x hx
 refine⟨b,off,rfl,⟨hb,?_⟩,hc⟩
 rcases h.2 with⟨e,_⟩ | ⟨g,cap,cur,e,_,hg,_⟩
 ·simp at e
 ·obtain⟨rfl,_⟩:b=g∧_:=by simpa [and_assoc] using e
  exact⟨cur,_,hg⟩
theorem FT(w:World)(S:Nat→Prop)(o:Option Addr)(c:Nat)(vs:List Ex)(h:aB w S 2 (.slice o vs.length c) vs.length (bR vs))(hn:vs.length≤5864062014805) :
  Calls Tryz.prog 38 #[.slice o vs.length c] w fun e w'=>(∃so sc,e=.returned (.slice so vs.length sc)∧aB w' (bJ w.heap.size w') 2 (.slice so vs.length sc) vs.length (bR vs)∧(vs.length=0→so=none∧sc=0))∧Bw w w':=by
 obtain⟨i0,hi0,hz0,hz1,hz2⟩:=info_parts Tryz.yY
 have H:=aA h
 clear h
 go_enter Tryz.func38,Tryz.ntmps38
 go_wp2
 go_loopw [3,4] (fun v t wr=>∃(i:Nat) (so:Option Addr) (sc:Nat),i≤vs.length∧t=.int .i64 i∧v=.slice so i sc∧wr.ownsRow w.heap.size 157 2 (.slice so i sc) i (bR (vs.take i))∧Bw w wr∧(i=0→so=none∧sc=0)) (fun _ t _=>vs.length-(intOf t).toNat)
 case atStart=>exact⟨0,none,0,Nat.zero_le _,rfl,rfl,World.ownsRow_nil _ _ _ _,Below.refl _ _,fun _=>⟨rfl,rfl⟩⟩
 case round=>
  obtain⟨i,so,sc,hi,rfl,rfl,hown,hb,hz⟩:=hrel
  have HZ:=aA hz
  clear hz
  by_cases hlt:i<vs.length
  ·obtain⟨b,off,rfl,_,g⟩:=kZ H.out (by rw[Az];omega)
   have c0:=aF hb (g _ _ (xA hlt).1)
   have c1:=aF hb (g _ _ (xA hlt).2)
   rw[←Nat.add_assoc] at c1
   have i0':(0:Int)≤(i:Int):=by omega
   have i1:(i:Int)<(vs.length:Int):=by omega
   have hn63:i+1≤maxLen:=by unfold maxLen;omega
   have hby:(i+1)*24≤140737488355328:=by omega
   have hdr:(wr.drew).ownsRow w.heap.size 157 2 (.slice so i sc) i (bR (vs.take i)):=hown
   have HO:Hid (∀o,(wr.drew.alloc o).ownsRow w.heap.size 157 2 (.slice so i sc) i (bR (vs.take i))):=fun o=>hdr.alloc o
   have hnb:(wr.drew.alloc (.cells #[.string vs[i].op,.int .i64 vs[i].n] 157)).heap[wr.heap.size]?=some (.cells #[.string vs[i].op,.int .i64 vs[i].n] 157):=by
    show (wr.heap.push _)[wr.heap.size]?=_
    simp
   have HN':Hid _:=World.news_of_block hnb
   have hrow:Hid (∀k,(Value.slice so i sc).ownBlock=some k→w.heap.size≤k∧k<wr.heap.size):=fun k hk=>BP hown hk
   have hsz:w.heap.size≤(wr.drew.alloc (.cells #[.string vs[i].op,.int .i64 vs[i].n] 157)).heap.size:=Nat.le_trans hb.size (by show _≤(wr.heap.push _).size;simp)
   clear hnb hdr g
   go_wp2
   go_region_law (refine step_append_lies _ rfl (.tmp 11) (.tmp 23) 35 rfl w.heap.size 157 i0 _ 2 24 Tryz.underlying35 hi0 hz0 hz1 hz2 rfl (by omega) (.slice so i sc) i (bR (vs.take i)) (by simp [Act.eval]) (HO.out _) ⟨wr.heap.size,0,none⟩ 1 1 [.string vs[i].op,.int .i64 vs[i].n] (by simp [Act.eval]) rfl HN'.out (by simp [Value.oneCell']) (by omega) hn63 hby hsz _ rfl (fun g cap w3 hown3 hgrow hat hlt3=>?_))
   all_goals
    rw[←FV vs i hlt] at hown3
    have hB3:Bw w w3:=((hb.alloc hb.size _).drew).grown hgrow (Nat.le_trans hb.size (by show _≤(wr.heap.push _).size;simp)) (fun k hk=>(hrow.out k hk).1)
    clear HO HN' hrow hsz hgrow hat hown c0 c1
    go_wp2
    exact⟨⟨i+1,some ⟨g,0,none⟩,cap,by omega,by go_num,rfl,hown3,hB3,fun e=>absurd e (by omega)⟩,by simp [intOf];omega⟩
  ·go_wp2
   go_ret
   obtain rfl:i=vs.length:=by omega
   rw[List.take_length] at hown
   exact⟨⟨_,_,rfl,aB.sD hown,HZ.out⟩,hb⟩

theorem zO:∀(m:Nat) (op:ByteArray) (n:Int) (s:ByteArray) (l:List Ex),SizeOf.sizeOf l<m→l.length≤2199023255552→Fit 2199023255552 l→∀(w:World) (S:Nat→Prop) (o:Option Addr) (c:Nat) (ys:List Value),aB w S 4 (.slice o l.length c) l.length ys→aI w S l ys →
  Calls Tryz.prog 40 #[.agg #[.string op,.int .i64 n,.string s,.slice o l.length c]] w fun e w'=>(∃so sc ys',e=.returned (.agg #[.string op,.int .i64 n,.string s,.slice so l.length sc])∧aB w' (bJ w.heap.size w') 4 (.slice so l.length sc) l.length ys'∧aI w' (bJ w.heap.size w') l ys')∧Bw w w'
 | 0,_,_,_,_,h=>absurd h (Nat.not_lt_zero _)
 | m+1,op,n,s,l,hm=>by
  intro hl hf w S o c ys h1 h2
  obtain⟨i0,hi0,hz0,hz1,hz2⟩:=info_parts Tryz.MK
  have IH:=zO m
  have H1:=aA h1
  have H2:=aA h2
  clear h1 h2
  go_enter Tryz.func40,Tryz.ntmps40
  have hbA:Bw w (((w.alloc (.cells #[.string op,.int .i64 n,.string s,.slice o l.length c] 79)).alloc pJ).alloc (oH op n s (.slice none 0 0))):=((aH).alloc (by simp) _).alloc (by simp;omega) _
  have HA:Hid ((((w.alloc (.cells #[.string op,.int .i64 n,.string s,.slice o l.length c] 79)).alloc pJ).alloc (oH op n s (.slice none 0 0))).heap[w.heap.size]?=some (.cells #[.string op,.int .i64 n,.string s,.slice o l.length c] 79)):=qD _ (qD _ (heap_alloc_new w _))
  have HB:Hid ((((w.alloc (.cells #[.string op,.int .i64 n,.string s,.slice o l.length c] 79)).alloc pJ).alloc (oH op n s (.slice none 0 0))).heap[w.heap.size+1]?=some pJ):=qD _ (dX w _ _)
  have HC:Hid ((((w.alloc (.cells #[.string op,.int .i64 n,.string s,.slice o l.length c] 79)).alloc pJ).alloc (oH op n s (.slice none 0 0))).heap[w.heap.size+1+1]?=some (oH op n s (.slice none 0 0))):=heap_alloc_new' (by simp) _
  go_wp2
  go_loopw [4] (fun t wr=>∃(i:Nat) (so:Option Addr) (sc:Nat) (cells:List Value),i≤l.length∧t=.int .i64 i∧Bw w wr∧w.heap.size+1+1+1≤wr.heap.size∧Hid (wr.heap[w.heap.size]?=some (.cells #[.string op,.int .i64 n,.string s,.slice o l.length c] 79))∧Hid (wr.heap[w.heap.size+1]?=some pJ)∧Hid (wr.heap[w.heap.size+1+1]?=some (oH op n s (.slice so i sc)))∧Hid (wr.ownsRow (w.heap.size+1+1+1) 92 4 (.slice so i sc) i cells)∧Hid (aI wr (fun k=>(w.heap.size+1+1+1≤k∧(Value.slice so i sc).ownBlock≠some k)∧Pl wr k) (l.take i) cells)) (fun t _=>l.length-(intOf t).toNat)
  case atStart=>exact⟨0,none,0,[],Nat.zero_le _,rfl,hbA,by simp,HA,HB,HC,World.ownsRow_nil _ _ _ _,.nil⟩
  case round=>
   clear HA HB HC hbA
   obtain⟨i,so,sc,cells,hi,rfl,hb,hsz,HAr,HBr,HCr,HO,HI⟩:=hrel
   obtain⟨_,_,_,a3,_⟩:=gL HAr.out
   obtain⟨d0,d1,d2,d3,df⟩:=gL HCr.out
   by_cases hlt:i<l.length
   ·obtain⟨op',n',s',es,oo,cc,zs,e,x0,x1,x2,x3,r1,r2⟩:=H2.out.at hlt
    obtain⟨p,f,rfl,_,g⟩:=kZ H1.out (by have:=H1.out.1;omega)
    have x0:=aF hb (g _ _ x0)
    have x1:=aF hb (g _ _ x1)
    have x2:=aF hb (g _ _ x2)
    have x3:=aF hb (g _ _ x3)
    rw[←Nat.add_assoc] at x1 x2 x3
    have i0':(0:Int)≤(i:Int):=by omega
    have i1:(i:Int)<(l.length:Int):=by omega
    have hsp:=kC hlt e
    obtain⟨hfl,hff⟩:=hf.at hlt e
    have Hr:Hid (Calls Tryz.prog 40 #[.agg #[.string op',.int .i64 n',.string s',.slice oo es.length cc]] wr.drew fun e w'=>(∃so sc ys',e=.returned (.agg #[.string op',.int .i64 n',.string s',.slice so es.length sc])∧aB w' (bJ wr.drew.heap.size w') 4 (.slice so es.length sc) es.length ys'∧aI w' (bJ wr.drew.heap.size w') es ys')∧Bw wr.drew w'):=IH op' n' s' es (by omega) hfl hff wr.drew S oo cc zs (r1.keep (aP.below hb.drew (fun k hk=>hk))) (r2.keep (aP.below hb.drew (fun k hk=>hk)))
    have hn63:i+1≤maxLen:=by unfold maxLen;omega
    have hby:(i+1)*64≤140737488355328:=by omega
    have hrw:Hid (∀k,(Value.slice so i sc).ownBlock=some k→w.heap.size+1+1+1≤k∧k<wr.heap.size):=fun k hk=>BP HO.out hk
    have e':Hid (l[i]=.mk op' n' s' es):=e
    clear g r1 r2 IH hsp hfl hff e
    go_wp2
    go_region_law (first
     | (refine step_append_lies _ rfl (.tmp 20) (.tmp 27) 37 rfl (w.heap.size+1+1+1) 92 i0 _ 4 64 Tryz.underlying37 hi0 hz0 hz1 hz2 rfl (by omega) (.slice so i sc) i cells (by simp [Act.eval]) HO4.out ⟨w4.heap.size,0,none⟩ 1 1 [.string op',.int .i64 n',.string s',.slice so' es.length sc'] (by simp [Act.eval]) rfl HN'.out (by simp [Value.oneCell']) (by omega) hn63 hby (by rw[World.size_alloc];omega) (w4.heap.size+1) (by simp) ?_;intro g2 cap w5 hown5 hgrow hat hlt5;have HC5:Hid _:=y9 hgrow (b:=w.heap.size+1+1) (fun hk=>by have:=(hrw.out _ hk).1;omega) (qD _ HC4.out);have q3:=(gL HC5.out).2.2.2.1;have qf:=(gL HC5.out).2.2.2.2 3)
     | (refine lX rfl 40 #[.agg #[.string op',.int .i64 n',.string s',.slice oo es.length cc]] (by kernel_rfl) ?_;refine Hr.out.mono ?_;rintro e w4 ⟨⟨so',sc',ys',rfl,hrow',hin'⟩,hb4⟩;have hs4:wr.heap.size≤w4.heap.size:=hb4.size;have hb4':Bw wr w4:=(Below.refl _ _).drew.trans hb4;have HC4:Hid _:=aG hb4' HCr.out;obtain⟨v0,v1,v2,v3,vf⟩:=gL HC4.out;have hltc:w.heap.size+1+1<w4.heap.size:=(by omega);have HO4:Hid _:=(BO (ba:=w.heap.size+1+1) HO.out (Mv.of_below hb4') (by omega)).alloc (.cells #[.string op',.int .i64 n',.string s',.slice so' es.length sc'] 92);have HN':Hid _:=World.news_of_block (heap_alloc_new w4 (.cells #[.string op',.int .i64 n',.string s',.slice so' es.length sc'] 92));dsimp only))
    all_goals
     have hbg:Below (w.heap.size+1+1) w4 w5:=((Below.refl _ _).alloc (by omega) _).grown hgrow (by simp;omega) (fun k hk=>by have:=(hrw.out k hk).1;omega)
     have hbs:=hbg.size
     have HB5:Hid ((w5.setCell ⟨w.heap.size+1+1,3,none⟩ (.slice (some ⟨g2,0,none⟩) (i+1) cap)).heap[w.heap.size+1]?=some pJ):=(Below.heap_setCell _ _ _ _ (by show w.heap.size+1≠w.heap.size+1+1;omega)).trans (y9 hgrow (fun hk=>by have:=(hrw.out _ hk).1;omega) (qD _ (aG hb4' HBr.out)))
     have HA5:Hid ((w5.setCell ⟨w.heap.size+1+1,3,none⟩ (.slice (some ⟨g2,0,none⟩) (i+1) cap)).heap[w.heap.size]?=some (.cells #[.string op,.int .i64 n,.string s,.slice (some ⟨p,f,none⟩) l.length c] 79)):=(Below.heap_setCell _ _ _ _ (by show w.heap.size≠w.heap.size+1+1;omega)).trans (y9 hgrow (fun hk=>by have:=(hrw.out _ hk).1;omega) (qD _ (aG hb4' HAr.out)))
     have St0:=(MW (base:=w.heap.size+1+1+1) (b:=w.heap.size+1+1) (n:=i+1) (cap:=cap) (Mv.of_below hb4') (by omega) hgrow hat).trans (aP.set (S':=fun k=>w.heap.size+1+1+1≤k∧(Value.slice (some ⟨g2,0,none⟩) (i+1) cap).ownBlock≠some k) (p:=⟨w.heap.size+1+1,3,none⟩) (.slice (some ⟨g2,0,none⟩) (i+1) cap) (fun k hk=>⟨by show k≠w.heap.size+1+1;omega,hk⟩)) (by omega)
     have St1:=(MX (base:=w.heap.size+1+1+1) (H:=wr.heap.size) (n:=i+1) (cap:=cap) (by omega) (fun k hk=>(hrw.out k hk).2) hgrow hat).trans (aP.set (S':=fun k=>w.heap.size+1+1+1≤k∧(Value.slice (some ⟨g2,0,none⟩) (i+1) cap).ownBlock≠some k) (p:=⟨w.heap.size+1+1,3,none⟩) (.slice (some ⟨g2,0,none⟩) (i+1) cap) (fun k hk=>⟨by show k≠w.heap.size+1+1;omega,hk⟩)) (by omega)
     have hBf:Bw w (w5.setCell ⟨w.heap.size+1+1,3,none⟩ (.slice (some ⟨g2,0,none⟩) (i+1) cap)):=(hb.trans ((hb4'.mono hb.size).trans (hbg.mono (by omega)))).setCell (by show w.heap.size≤w.heap.size+1+1;omega) _
     have HI5:Hid (aI (w5.setCell ⟨w.heap.size+1+1,3,none⟩ (.slice (some ⟨g2,0,none⟩) (i+1) cap)) (fun k=>(w.heap.size+1+1+1≤k∧(Value.slice (some ⟨g2,0,none⟩) (i+1) cap).ownBlock≠some k)∧Pl (w5.setCell ⟨w.heap.size+1+1,3,none⟩ (.slice (some ⟨g2,0,none⟩) (i+1) cap)) k) (l.take (i+1)) (cells++[.string op',.int .i64 n',.string s',.slice so' es.length sc'])):=by
      rw[List.take_succ_eq_append_getElem hlt,e'.out]
      exact(HI.out.keep St0.pl).append (.cons _ _ _ es [] _ ys' [] (hrow'.keep St1.pl) (hin'.keep St1.pl) .nil)
     clear St0 St1 hrow' hin'
     go_wp2
     exact⟨⟨i+1,some ⟨g2,0,none⟩,cap,_,by omega,by go_num,hBf,by simp;omega,HA5,HB5,pM HC5.out,BO hown5 (Mv.setAt (w.heap.size+1+1) 3 _ _) (by omega),HI5⟩,by simp [intOf];omega⟩
   ·obtain⟨z0,z1,z2,z3,zf⟩:=gL HBr.out
    have zf0:=zf 0
    have zf1:=zf 1
    have zf2:=zf 2
    have zf3:=zf 3
    obtain rfl:i=l.length:=by omega
    go_wp2
    have hr:=Iy (a:=.string op) (b:=.int .i64 n) (c:=.string s) (e:=.slice so l.length sc) HBr.out
    obtain⟨y0,y1,y2,y3,_⟩:=gL hr
    simp only[nL] at y0 y1 y2 y3
    have hin:=HI.out
    rw[List.take_length] at hin
    have St:∀{S:Nat→Prop},(∀k,S k→w.heap.size+1+1+1≤k)→aP S (From w.heap.size) wr (nL wr (w.heap.size+1) (.string op) (.int .i64 n) (.string s) (.slice so l.length sc)):=fun hs=>Iu (fun k hk=>by have:=hs k hk;exact⟨by omega,by unfold From;omega⟩)
    exact bodyPost_ret (v:=.agg #[.string op,.int .i64 n,.string s,.slice so l.length sc]) (by simp [results,Tryz.results40,go_sem,y0,y1,y2,y3]) rfl ⟨⟨so,sc,cells,rfl,(aB.sD HO.out).keep (St (fun k hk=>hk)).pl,hin.keep (St (S:=fun k=>w.heap.size+1+1+1≤k∧(Value.slice so l.length sc).ownBlock≠some k) (fun k hk=>hk.1)).pl⟩,hb.trans (Iz (by omega))⟩
open Go.Maps
def jW(ps:List Pq)(x:Nat):Bool:=(ps[x]?.map Pq.late).getD false
theorem LV{ps:List Pq}{x:Nat}{p:Pq}(h:ps[x]?=some p):jW ps x=p.late:=by unfold jW;rw[h];rfl
structure EY(q:jJ):Prop where
 kd:∀(x:Nat) (p:Pq),q.ps[x]?=some p→p.kind=1∨p.kind=2
 int:∀(x:Nat) (p:Pq),q.ps[x]?=some p→p.op.data.toList=qR→p.kind=2∧0≤p.n∧p.n≤127
 kV:∀(x:Nat) (p:Pq),q.ps[x]?=some p→p.op.data.toList=nT→p.kind=1∧p.n=1
 Ps:∀(x:Nat) (p:Pq),q.ps[x]?=some p→p.op.data.toList=qU→p.kind=1∧p.n=0
 nm:∀(x:Nat) (p:Pq),q.ps[x]?=some p→p.op.data.toList=bI→∃y,p.dO=[y]∧y<q.ps.length∧gJ q.ps y=p.kind∧jW q.ps y=p.late
 pre:∀(x:Nat) (p:Pq),q.ps[x]?=some p→p.op.data.toList=cZ→p.late=true∧∃m y:Nat,p.mem=(m:Int)∧q.ks[m]?=some y∧gJ q.ps y=p.kind
 arr:∀(x:Nat) (p:Pq),q.ps[x]?=some p→p.op.data.toList=iZ→∃a b,p.dO=[a,b]∧a<q.ps.length∧b<q.ps.length∧gJ q.ps a=p.kind∧gJ q.ps b=p.kind∧jW q.ps a=p.late
 Pp:∀(x:Nat) (p:Pq),q.ps[x]?=some p→p.op.data.toList=cK→∃a b m:Nat,p.dO=[a,b]∧a<q.ps.length∧b<q.ps.length∧gJ q.ps a=p.kind∧gJ q.ps b=p.kind∧jW q.ps a=p.late∧p.mem=(m:Int)∧q.ks[m]?=some b
 Ph:∀(x:Nat) (p:Pq),q.ps[x]?=some p→lI q.ps x=false→¬xX p→∃t∈xN,t.1=p.op.data.toList∧p.dO.length=t.2.1∧(∀y∈p.dO,y<q.ps.length)∧xR t.1 (p.dO.map (gJ q.ps))=some p.kind∧(p.late=false→∀y∈p.dO,jW q.ps y=false)
 inl:∀x,lI q.ps x=true→jW q.ps x=false
 ks:∀y∈q.ks,y<q.ps.length∧jW q.ps y=false
 os:∀y∈q.os,y<q.ps.length∧jW q.ps y=false
 ax:∀y∈q.ax,y<q.ps.length∧jW q.ps y=false∧gJ q.ps y=1
 cx:∀y∈q.cx,y<q.ps.length∧jW q.ps y=false∧gJ q.ps y=1
 len:q.ps.length≤5000∧q.ks.length≤5000∧q.os.length≤2097152∧q.ax.length≤5000∧q.cx.length≤5000
theorem Mf{q:jJ}(h:EY q){x:Nat}(hx:x<q.ps.length):gJ q.ps x=1∨gJ q.ps x=2:=by
 rw[Dc (mP hx)]
 exact h.kd x _ (mP hx)
def ES(base:Nat)(w:World)(v:Value)(l:List (Int×Int)):Prop:=aB w (From base) 2 v l.length (oG l)
theorem ES.at{base:Nat}{w:World}{v:Value}{l:List (Int×Int)}(h:ES base w v l):ET w v l:=aB.wide h
theorem FN{l:List (Int×Int)}{k:Nat}{x:Int×Int}(h:l[k]?=some x):(oG l)[k*2]?=some (.int .i64 x.1)∧(oG l)[k*2+1]?=some (.int .i64 x.2):=by
 induction l generalizing k with
 | nil=>simp at h
 | cons y l ih=>
  cases k with
  | zero=>
   obtain rfl:=Option.some.inj h
   exact⟨rfl,rfl⟩
  | succ k=>
   have:=ih (k:=k) h
   have e1:(k+1)*2=k*2+1+1:=by omega
   have e2:(k+1)*2+1=k*2+1+1+1:=by omega
   have e3:oG (y::l)=.int .i64 y.1::.int .i64 y.2::oG l:=rfl
   rw[e1,e3]
   exact this
theorem wM.Ko{w:World}{v:Value}{l:List (Int×Int)}(h:ET w v l):wM w v l:=by
 obtain⟨h1,h2,o,c,rfl,h3,h4⟩:=h
 refine⟨h2,o,c,rfl,fun k x hk=>?_⟩
 obtain⟨y0,y1⟩:=FN hk
 obtain⟨b,off,rfl,_,c0⟩:=h3 _ _ y0
 obtain⟨b',off',e,_,c1⟩:=h3 _ _ y1
 obtain⟨rfl,rfl⟩:b=b'∧off=off':=by simpa using e
 exact⟨b,off,rfl,c0,c1⟩
section
open Go.Lib
variable {P:Program} {md:Region.Mode} {ops:Array Oper} {Q:Exit→Act→World→Prop} {S T:World→Prop} {c:Nat}
end
def Pe(w:World)(v:Value)(l:List Bool):Prop:=aB w (fun _=>True) 1 v l.length (l.map Value.bool)
def Fx(base:Nat)(w:World)(v:Value)(l:List Bool):Prop:=aB w (From base) 1 v l.length (l.map Value.bool)
theorem Fx.at{base:Nat}{w:World}{v:Value}{l:List Bool}(h:Fx base w v l):Pe w v l:=aB.wide h
structure PV(X:Cx)(T:Tb)(fp:List UInt8→Option Int)(x:Nat)(a b c:Nat)(op:ByteArray)(n:Int)(s:ByteArray)(l:List Ex)(k:Int)(qq:List Int)(pt:Pq):Prop where
 vw:Vw X T a b c (.mk op n s l)
 ex:x=b+aC l
 ty:bF X.kd (.mk op n s l)=some (k,qq)
 op':pt.op=op
 n':pt.n=if mJ op=true then n else if op.data.toList=nT then 1 else n
 dO:pt.dO=if op.data.toList=bI then [lF fp s] else dK b l
 mem:pt.mem=if mJ op=true then ((c+dV l:Nat):Int) else 0
 kind:pt.kind=k
 late:pt.late=kN X.fl (.mk op n s l)
section
variable {p:Pg} {d:List Nat} {f:List UInt8→Nat} {ts:List Nat} {qs:List Int}
def Dw(kd:List UInt8→Option Int)(f:List UInt8→Nat)(e:Ex):Prop:=aO f e≠2∧dG kd e=true
structure mZ(p:Pg)(d:List Nat)(f:List UInt8→Nat)(ts:List Nat)(qs:List Int)(X:Cx)(T:Tb):Prop where
 rt:O3 p d f
 kd:bA (fun _=>none) (aK p)=some X.kd
 vs:nY X T p.ins.length 0 (pI p d)
 fl:X.fl=gZ p f
 tb:T=xH p (gZ p f) qs d
 H:X.H=Dw X.kd f
 hl:∀s,(X.fl s).getD 0=(f s:Int)
 fm:bG X.kd (aD p)=true
 ob:gQ p=true
 li:p.ins.length≤30∧p.fs.length≤400∧aC (aD p)≤4000
 ty:aM X.kd (aD p)=some (bT p,qs)
 kX:∀s k,X.kd s=some k→k=1∨k=2
variable {X:Cx} {T:Tb}
theorem mZ.root(h:mZ p d f ts qs X T){a b c:Nat}{e:Ex}(hv:Vw X T a b c e):∃k qq,bF X.kd e=some (k,qq)∧b+aJ e-1<(l8 p (gZ p f) ts qs).ps.length∧gJ (l8 p (gZ p f) ts qs).ps (b+aJ e-1)=k∧jW (l8 p (gZ p f) ts qs).ps (b+aJ e-1)=kN X.fl e:=by
 obtain⟨op,n,s,l⟩:=e
 have hr:=hv.root
 have hz:aJ (.mk op n s l)=aC l+1:=by unfold aJ;rfl
 rw[show b+aJ (.mk op n s l)-1=b+aC l from by omega]
 obtain⟨k,qq,h1,h2⟩:=hr.rt
 have hp:=hr.rp
 rw[h.tb] at hp h2
 have h2':(p.ins.map Ex.n++qs)[b+aC l]?=some k:=h2
 have hp':(l7 p (gZ p f)).ps[b+aC l]?=some (nP X.fl b c op n s l):=hp
 have hps:(l8 p (gZ p f) ts qs).ps[b+aC l]?=some (vM k (jT (gG p (gZ p f)).2 (u6 (l7 p (gZ p f)).ns (b+aC l)) (nP X.fl b c op n s l))):=by
  show (qV (p.ins.map Ex.n++qs) (xV p (gZ p f)))[b+aC l]?=_
  rw[Mj,h2']
  unfold xV
  rw[IJ,hp']
  rfl
 refine⟨k,qq,h1,(aX hps).1,?_,?_⟩
 ·rw[Dc hps];rfl
 ·rw[LV hps]
  show (jT _ _ _).late=_
  rw[(II _ _ _).2.2.2.2.1,Ch]
end
section
variable {p:Pg} {d:List Nat} {f:List UInt8→Nat} {ts:List Nat} {qs:List Int} {X:Cx} {T:Tb}
theorem mZ.hp(h:mZ p d f ts qs X T){a b c:Nat}{e:Ex}(hv:Vw X T a b c e):Dw X.kd f e:=by
 have:=hv.h
 rwa [h.H] at this
theorem mZ.late(h:mZ p d f ts qs X T){a b c:Nat}{e:Ex}(hv:Vw X T a b c e):kN X.fl e=decide (0<aO f e):=CZ h.hl h.rt.lt.1.1 e hv.ar (h.hp hv).1
theorem mZ.term(h:mZ p d f ts qs X T){i:Nat}{e:Ex}(hi:(aD p)[i]?=some e):∃r,(dK p.ins.length (aD p))[i]?=some r∧r<(l8 p (gZ p f) ts qs).ps.length∧(bT p)[i]?=some (gJ (l8 p (gZ p f) ts qs).ps r)∧jW (l8 p (gZ p f) ts qs).ps r=decide (0<aO f e):=by
 have hs:=AZ p d
 rw[←hs,List.getElem?_map] at hi
 obtain⟨y,hy,rfl⟩:=Option.map_eq_some_iff.1 hi
 obtain⟨b',c',hv,h2,_,_⟩:=h.vs.at hy
 rw[hs] at h2
 obtain⟨k,qq,h3,h4,h5,h6⟩:=h.root hv
 obtain⟨k2,q2,h7,h8⟩:=uF (i:=i) (e:=y.2) h.ty (by rw[←hs,List.getElem?_map,hy];rfl)
 obtain⟨rfl,_⟩:k=k2∧qq=q2:=by simpa using h3.symm.trans h7
 exact⟨_,h2,h4,by rw[h5];exact h8,by rw[h6,h.late hv]⟩
theorem mZ.flow(h:mZ p d f ts qs X T){j:Nat}{y:Fw}(hy:p.fs[j]?=some y):lF (gG p (gZ p f)).2 y.name<(l8 p (gZ p f) ts qs).ps.length∧gJ (l8 p (gZ p f) ts qs).ps (lF (gG p (gZ p f)).2 y.name)=y.kind∧jW (l8 p (gZ p f) ts qs).ps (lF (gG p (gZ p f)).2 y.name)=decide (0<f y.name.data.toList):=by
 have ht:(aD p)[j]?=some y.e:=by
  unfold aD
  rw[List.getElem?_append_left (by rw[List.length_map];exact(aX hy).1),List.getElem?_map,hy];rfl
 obtain⟨r,h1,h2,h3,h4⟩:=h.term ht
 have h5:=BG h.kd (gZ p f) hy
 have hl:j<(dK p.ins.length (p.fs.map fun f=>f.e)).length:=(aX h5).1
 unfold aD at h1
 rw[yF,List.getElem?_append_left hl,h5] at h1
 obtain rfl:=Option.some.inj h1
 have hk:(bT p)[j]?=some y.kind:=by
  unfold bT
  rw[List.getElem?_append_left (by rw[List.length_map];exact(aX hy).1),List.getElem?_map,hy];rfl
 rw[hk] at h3
 exact⟨h2,(Option.some.inj h3).symm,by rw[h4,h.rt.lt.eq (Lj h.kd) (List.mem_of_getElem? hy)]⟩
end
end Go.Proofs.YtmgfakcccfahaaaGreatDoor
