/-
  lustrumref1: KindOf BY CONTRACT, of a formed term.
-/
import Derived.Test.YtmgfakcccfahaaaGreatDoorN36
namespace Go.Proofs.YtmgfakcccfahaaaGreatDoor
open Go.RowKit
set_option maxRecDepth 100000
set_option maxHeartbeats 4000000

def fC(kd:List UInt8→Option Int)(e:Ex):Int:=((bF kd e).map (·.1)).getD 0
theorem yS{kd:List UInt8→Option Int}{e:Ex}{k:Int}{q:List Int}(h:bF kd e=some (k,q)):fC kd e=k:=by unfold fC;rw[h];rfl
theorem yT{kd:List UInt8→Option Int}{e:Ex}(h:bF kd e=none):fC kd e=0:=by unfold fC;rw[h];rfl
theorem AU{kd:List UInt8→Option Int}:∀{l:List Ex} {i:Nat} {e:Ex} {ks qs q:List Int} {k:Int},l[i]?=some e→aM kd (l.take i)=some (ks,qs)→bF kd e=some (k,q)→aM kd (l.take (i+1))=some (ks++[k],qs++q)
 | [],i,e,ks,qs,q,k,h,_,_=>by simp at h
 | x::l,0,e,ks,qs,q,k,h,hl,he=>by
  obtain rfl:x=e:=by simpa using h
  simp only[List.take_zero,aM,Option.some.injEq,Prod.mk.injEq] at hl
  obtain⟨rfl,rfl⟩:=hl
  simp [aM,he]
 | x::l,i+1,e,ks,qs,q,k,h,hl,he=>by
  simp only[List.take_succ_cons,aM] at hl ⊢
  cases hx:bF kd x with
  | none=>rw[hx] at hl;cases hl
  | some r=>
   obtain⟨k0,q0⟩:=r
   rw[hx] at hl
   simp only at hl ⊢
   cases hr:aM kd (l.take i) with
   | none=>rw[hr] at hl;cases hl
   | some r=>
    obtain⟨k1,q1⟩:=r
    rw[hr] at hl
    simp only[Option.some.injEq,Prod.mk.injEq] at hl
    obtain⟨rfl,rfl⟩:=hl
    rw[AU (l:=l) (by simpa using h) hr he]
    simp
theorem Gg{kd:List UInt8→Option Int}{l:List Ex}{i:Nat}{e:Ex}(h:l[i]?=some e)(he:bF kd e=none):aM kd l=none:=by
 cases hr:aM kd l with
 | none=>rfl
 | some r=>
  obtain⟨ks,qs⟩:=r
  obtain⟨k,q,h1,_⟩:=uF hr h
  rw[he] at h1
  cases h1
theorem He:∀op∈pV,((eX op).all fun r=>!r.1.isEmpty||op==[105,110,116]||op==[116,114,117,101]||op==[102,97,108,115,101])=true:=by decide
theorem G9{op:List UInt8}{tk gv:List Int}(h:eX op=some (tk,gv))(h1:op≠[105,110,116])(h2:op≠[116,114,117,101])(h3:op≠[102,97,108,115,101]):0<tk.length:=by
 have:=He op (xQ h)
 rw[h] at this
 cases tk with
 | nil=>simp_all
 | cons a b=>simp
abbrev Fh(vs:List (ByteArray×Int))(kd:List UInt8→Option Int)(op:ByteArray)(n:Int)(s:ByteArray)(l:List Ex):Prop:=∀(w:World) (S S':Nat→Prop) (o vo:Option Addr) (c vn vc:Nat) (ys:List Value),aB w S 4 (.slice o l.length c) l.length ys→aI w S l ys→vn=vs.length→vn≤2097152→aB w S' 2 (.slice vo vn vc) vn (bB vs) →
  Calls Tryz.prog 88 #[.agg #[.string op,.int .i64 n,.string s,.slice o l.length c],.slice vo vn vc] w fun e w'=>e=.returned (.int .i64 (fC kd (.mk op n s l)))∧Bw w w'
theorem Bn{op:List UInt8}{tk gv:List Int}(h:eX op=some (tk,gv)):tk.length≤3:=by
 have:=Bq op (xQ h)
 rw[h] at this
 simpa using this
theorem Db(vs:List (ByteArray×Int))(kd:List UInt8→Option Int)(hkd:∀s,bL vs s=(kd s).getD 0)(hk12:∀s k,kd s=some k→k=1∨k=2):∀(m:Nat) (op:ByteArray) (n:Int) (s:ByteArray) (l:List Ex),SizeOf.sizeOf l<m→dG kd (.mk op n s l)=true→Fh vs kd op n s l
 | 0=>fun _ _ _ _ h=>absurd h (Nat.not_lt_zero _)
 | m+1=>by
  intro op n s l hm hfm w S S' o vo c vn vc ys h1 h2 hvn hvl hvs
  have hfm2:jA kd op n s l.length=true∧bG kd l=true:=by unfold dG at hfm;simpa using hfm
  have HV:Hid (∀i (hi:i<l.length) (op:ByteArray) (n:Int) (s:ByteArray) (es:List Ex),l[i]=.mk op n s es→Fh vs kd op n s es∧dG kd (.mk op n s es)=true):=fun i hi op n s es e=>by
   have hsp:=kC hi e
   have hf:dG kd (.mk op n s es)=true:=qB hfm2.2 (by rw[←e];exact List.getElem_mem hi)
   exact⟨Db vs kd hkd hk12 m op n s es (by omega) hf,hf⟩
  obtain⟨hcl,hsg⟩:=sW hfm2.1
  have hl:=h1.len
  have H1:=aA h1
  have H2:=aA h2
  have H12:=aA hk12
  have HL:Hid (vn=vs.length∧vn≤2097152∧aB w S' 2 (.slice vo vn vc) vn (bB vs)):=⟨hvn,hvl,hvs⟩
  obtain⟨w1,hw1⟩:∃w1,w1=w.alloc (.cells #[.string op,.int .i64 n,.string s,.slice o l.length c] 79):=⟨_,rfl⟩
  obtain⟨B,hB⟩:∃B,B=w.heap.size:=⟨_,rfl⟩
  have hb1:Bw w w1:=by rw[hw1];exact aH
  have hr1:w1.heap[B]?=some (.cells #[.string op,.int .i64 n,.string s,.slice o l.length c] 79 (0,0)):=by rw[hw1,hB];exact heap_alloc_new _ _
  have HB:Hid (Bw w w1∧B=w.heap.size):=⟨hb1,hB⟩
  have HC:Hid (∀W,Bw w1 W→W.cell? ⟨B,0,none⟩=some (.string op)∧W.cell? ⟨B,0+1,none⟩=some (.int .i64 n)∧W.cell? ⟨B,0+2,none⟩=some (.string s)∧W.cell? ⟨B,0+3,none⟩=some (.slice o l.length c)):=fun W hW=>by
   have hr:=aG hW hr1
   refine⟨?_,?_,?_,?_⟩<;>(rw[cell_of_row W _ _ _ _ (0,0) hr];rfl)
  have HW1:Hid (w.alloc (.cells #[.string op,.int .i64 n,.string s,.slice o l.length c] 79)=w1∧w.heap.size=B):=⟨hw1.symm,hB.symm⟩
  obtain⟨a0,a1,a2,a3⟩:=HC.out w1 (Below.refl _ _)
  have HKI:Hid (Calls Tryz.prog 85 #[.slice vo vn vc,.string s] w1 fun e w'=>e=.returned (.int .i64 ((kd s.data.toList).getD 0))∧w'=w1):=by
   rw[←hkd]
   exact sN w1 S' vs vo vn vc s hvn (hvs.keep (aP.below hb1 (fun k hk=>hk))) hvl
  clear h1 h2 hvn hvl hvs hl hw1 hB hb1 hr1 hkd hk12 hfm
  by_cases d1:op.data.toList=[105,110,116]
  ·rw[d1,if_neg (by decide)] at hsg
   obtain⟨tk,gv,hsg,htl⟩:=hsg
   obtain⟨rfl,rfl⟩:=Prod.mk.inj (Option.some.inj ((by decide:eX [105,110,116]=some ([],[2])).symm.trans hsg))
   have hl0:l=[]:=List.eq_nil_of_length_eq_zero htl
   have HF:Hid (fC kd (.mk op n s l)=2):=by unfold Hid fC;rw[bF,d1,if_neg (by decide),hl0,aM];rfl
   have e1:(op.toList==[105,110,116])=true:=by rw[ByteArray.toList_eq,d1];rfl
   clear d1 hsg htl hcl hfm2 hl0
   go_enter Tryz.func88,Tryz.ntmps88
   go_upto_region 1 with fail
   rw[HW1.out.1,HW1.out.2]
   go_wp2
   go_ret
   exact⟨by rw[HF.out];rfl,HB.out.1⟩
  ·have e1:(op.toList==[105,110,116])=false:=by rw[ByteArray.toList_eq];exact beq_eq_false_iff_ne.2 d1
   by_cases d2:op.data.toList=[116,114,117,101]
   ·rw[d2,if_neg (by decide)] at hsg
    obtain⟨tk,gv,hsg,htl⟩:=hsg
    obtain⟨rfl,rfl⟩:=Prod.mk.inj (Option.some.inj ((by decide:eX [116,114,117,101]=some ([],[1])).symm.trans hsg))
    have hl0:l=[]:=List.eq_nil_of_length_eq_zero htl
    have HF:Hid (fC kd (.mk op n s l)=1):=by unfold Hid fC;rw[bF,d2,if_neg (by decide),hl0,aM];rfl
    have e2:(op.toList==[116,114,117,101])=true:=by rw[ByteArray.toList_eq,d2];rfl
    clear d1 d2 hsg htl hcl hfm2 hl0
    go_enter Tryz.func88,Tryz.ntmps88
    go_upto_region 1 with fail
    rw[HW1.out.1,HW1.out.2]
    go_wp2
    go_ret
    exact⟨by rw[HF.out];rfl,HB.out.1⟩
   ·have e2:(op.toList==[116,114,117,101])=false:=by rw[ByteArray.toList_eq];exact beq_eq_false_iff_ne.2 d2
    by_cases d3:op.data.toList=[102,97,108,115,101]
    ·rw[d3,if_neg (by decide)] at hsg
     obtain⟨tk,gv,hsg,htl⟩:=hsg
     obtain⟨rfl,rfl⟩:=Prod.mk.inj (Option.some.inj ((by decide:eX [102,97,108,115,101]=some ([],[1])).symm.trans hsg))
     have hl0:l=[]:=List.eq_nil_of_length_eq_zero htl
     have HF:Hid (fC kd (.mk op n s l)=1):=by unfold Hid fC;rw[bF,d3,if_neg (by decide),hl0,aM];rfl
     have e3:(op.toList==[102,97,108,115,101])=true:=by rw[ByteArray.toList_eq,d3];rfl
     clear d1 d2 d3 hsg htl hcl hfm2 hl0
     go_enter Tryz.func88,Tryz.ntmps88
     go_upto_region 1 with fail
     rw[HW1.out.1,HW1.out.2]
     go_wp2
     go_ret
     exact⟨by rw[HF.out];rfl,HB.out.1⟩
    ·have e3:(op.toList==[102,97,108,115,101])=false:=by rw[ByteArray.toList_eq];exact beq_eq_false_iff_ne.2 d3
     by_cases d4:op.data.toList=bI
     ·obtain⟨kk,hkk⟩:∃kk,kk=(kd s.data.toList).getD 0:=⟨_,rfl⟩
      rw[←hkk] at HKI
      have HF:Hid (fC kd (.mk op n s l)=kk):=by
       unfold Hid fC;rw[bF,if_pos d4,hkk]
       cases kd s.data.toList<;>rfl
      have e4:(op.toList==[110,97,109,101])=true:=by rw[ByteArray.toList_eq,d4];rfl
      clear d1 d2 d3 d4 hsg hcl hfm2 hkk
      go_enter Tryz.func88,Tryz.ntmps88
      go_upto_region 1 with fail
      rw[HW1.out.1,HW1.out.2]
      go_wp2_with (first | (go_at_call 85;refine HKI.out.mono ?_;rintro e w2 ⟨rfl,rfl⟩) | fail)
      go_ret
      exact⟨by rw[HF.out];rfl,HB.out.1⟩
     ·have e4:(op.toList==[110,97,109,101])=false:=by rw[ByteArray.toList_eq];exact beq_eq_false_iff_ne.2 d4
      rw[if_neg d4] at hsg
      obtain⟨tk,gv,hsg,htl⟩:=hsg
      have h0:=G9 hsg d1 d2 d3
      have HSG:Hid (eX op.data.toList=some (tk,gv)∧l.length=tk.length∧0<l.length):=⟨hsg,htl,by omega⟩
      have HNM:Hid (op.data.toList≠bI):=d4
      clear d1 d2 d3 d4 hsg htl h0 hcl hfm2 HKI
      obtain⟨i0,hi0,hz0,hz1,hz2⟩:=info_parts Tryz.yZ
      go_enter Tryz.func88,Tryz.ntmps88
      go_upto_region 1 with fail
      rw[HW1.out.1,HW1.out.2]
      go_wp2
      go_loopw [5,6] (fun v t wr=>∃(i:Nat) (so:Option Addr) (sc:Nat) (ks:List Int),i≤l.length∧t=.int .i64 i∧v=.slice so i sc∧Hid (wr.ownsRow w1.heap.size 3 1 (.slice so i sc) i (ks.map (Value.int .i64))∧Bw w1 wr∧ks.length=i∧(∀k∈ks,k=1∨k=2)∧∃qs,aM kd (l.take i)=some (ks,qs))) (fun _ t _=>l.length-(intOf t).toNat)
      case atStart=>exact⟨0,none,0,[],Nat.zero_le _,rfl,rfl,World.ownsRow_nil _ _ _ _,Below.refl _ _,rfl,fun k hk=>by simp at hk,[],by simp [aM]⟩
      case round=>
       obtain⟨i,so,sc,ks,hi,rfl,rfl,HR⟩:=hrel
       obtain⟨a0,a1,a2,a3⟩:=HC.out wr HR.out.2.1
       by_cases hlt:i<l.length
       ·obtain⟨op',n',s',es,oo,cc,zs,e,x0,x1,x2,x3,r1,r2⟩:=H2.out.at hlt
        obtain⟨p,f,rfl,_,g⟩:=kZ H1.out (by have:=H1.out.1;omega)
        have hb:Bw w wr:=HB.out.1.trans (HR.out.2.1.mono HB.out.1.size)
        have x0:=aF hb (g _ _ x0)
        have x1:=aF hb (g _ _ x1)
        have x2:=aF hb (g _ _ x2)
        have x3:=aF hb (g _ _ x3)
        rw[←Nat.add_assoc] at x1 x2 x3
        have i0':(0:Int)≤(i:Int):=by omega
        have i1:(i:Int)<(l.length:Int):=by omega
        obtain⟨v,hv⟩:∃v,v=fC kd (.mk op' n' s' es):=⟨_,rfl⟩
        obtain⟨hv1,hv2⟩:=HV.out i hlt op' n' s' es e
        have Hr:Hid (Calls Tryz.prog 88 #[.agg #[.string op',.int .i64 n',.string s',.slice oo es.length cc],.slice vo vn vc] wr fun e w'=>e=.returned (.int .i64 v)∧Bw wr w'):=by
         rw[hv]
         exact hv1 wr S S' oo vo cc vn vc zs (r1.keep (aP.below hb (fun k hk=>hk))) (r2.keep (aP.below hb (fun k hk=>hk))) HL.out.1 HL.out.2.1 (HL.out.2.2.keep (aP.below hb (fun k hk=>hk)))
        have hi1:l[i]?=some (.mk op' n' s' es):=by rw[List.getElem?_eq_getElem hlt,e]
        have HBR:=aA hb
        have hml:=H1.out.len
        have N4:Hid (wrap64 ((i:Int)+1)=(i:Int)+1):=by unfold maxLen at hml;unfold Hid wrap64;omega
        have HM:Hid (i+1≤maxLen∧(i+1)*8≤140737488355328):=by unfold maxLen at hml ⊢;unfold Hid;have:=HSG.out.2.1;have:=Bn HSG.out.1;omega
        have HJ:=aA hlt
        cases ht:bF kd (.mk op' n' s' es) with
        | none=>
         have h0:v=0:=by rw[hv,yT ht]
         subst h0
         have HN:Hid (fC kd (.mk op n s l)=0):=by
          refine yT ?_
          rw[bF,if_neg HNM.out,Gg hi1 ht]
         clear g e r1 r2 hv hi1 hb hlt hi hv1 hv2 ht hml
         go_wp2_with (first | (go_at_call 88;refine Hr.out.mono ?_;rintro e w4 ⟨rfl,hb4⟩) | fail)
         go_ret
         exact⟨by rw[HN.out];rfl,HBR.out.trans (hb4.mono HBR.out.size)⟩
        | some r=>
         obtain⟨k,q⟩:=r
         have hvk:v=k:=by rw[hv,yS ht]
         have hk:=AY H12.out hv2 ht
         rw[←hvk] at ht hk
         have h0:(v==0)=false:=by rcases hk with rfl | rfl<;>rfl
         have HN:Hid ((∀k∈ks++[v],k=1∨k=2)∧∃qs,aM kd (l.take (i+1))=some (ks++[v],qs)):=by
          obtain⟨_,_,_,q1,qs,q2⟩:=HR.out
          refine⟨fun x hx=>?_,_,AU hi1 q2 ht⟩
          rcases List.mem_append.1 hx with hx | hx
          ·exact q1 x hx
          ·rw[List.mem_singleton.1 hx];exact hk
         clear g e r1 r2 hv hi1 hb hlt hi hv1 hv2 ht hml hvk hk
         go_wp2_with (first | (go_at_call 88;refine Hr.out.mono ?_;rintro e w4 ⟨rfl,hb4⟩;have HOW:Hid ((w4.alloc (.cells #[.int .i64 v] 3)).ownsRow w1.heap.size 3 1 (.slice so i sc) i (ks.map (Value.int .i64))∧w1.heap.size≤(w4.alloc (.cells #[.int .i64 v] 3)).heap.size∧Bw w1 (w4.alloc (.cells #[.int .i64 v] 3))):=(by have hba:Bw wr (w4.alloc (.cells #[.int .i64 v] 3)):=hb4.alloc hb4.size _;exact⟨l9 HR.out.1 hba,Nat.le_trans HR.out.2.1.size hba.size,HR.out.2.1.trans (hba.mono HR.out.2.1.size)⟩);have HNW:Hid _:=World.news_of_block (heap_alloc_new w4 (.cells #[.int .i64 v] 3));clear hb4) | (at_builtin;refine wpList_append_lies _ rfl _ _ 30 rfl w1.heap.size 3 i0 _ 1 8 Tryz.underlying30 hi0 hz0 hz1 hz2 rfl (by omega) (.slice so i sc) i (ks.map (Value.int .i64)) rfl HOW.out.1 ⟨w4.heap.size,0,none⟩ 1 1 [.int .i64 v] rfl rfl HNW.out (by simp [Value.oneCell']) (by omega) HM.out.1 HM.out.2 HOW.out.2.1 _ rfl ?_;intro g cap w5 hown5 hgrow hat hlt5) | go_in)
         have hbw5:Bw w1 w5:=HOW.out.2.2.grown hgrow HOW.out.2.1 (fun k hk=>(HR.out.1.lt k hk).1)
         exact⟨⟨i+1,_,_,ks++[v],HJ.out,by rw[N4.out];rfl,rfl,by rw[List.map_append];exact hown5,hbw5,by rw[List.length_append,HR.out.2.2.1];rfl,HN.out⟩,by rw[N4.out];have:=HJ.out;simp [intOf];omega⟩
       ·obtain rfl:i=l.length:=by omega
        obtain⟨hown,hbr,hkl,hk,qs,hq⟩:=HR.out
        rw[List.take_length] at hq
        have HRS:Hid (fV op ks):=I5 op ks tk gv HSG.out.1 (by rw[hkl];exact HSG.out.2.1) (by rw[hkl];exact HSG.out.2.2) hk
        have HKS:Hid (fO wr (.slice so l.length sc) ks):=L8 hown hkl H1.out.len
        have HN:Hid (fC kd (.mk op n s l)=(aZ op.data.toList ks).getD 0):=by
         unfold Hid fC
         rw[bF,if_neg HNM.out,hq]
         simp only
         cases aZ op.data.toList ks<;>rfl
        have HBR:Hid (Bw w wr):=HB.out.1.trans (hbr.mono HB.out.1.size)
        obtain⟨z,hz⟩:∃z,z=(aZ op.data.toList ks).getD 0:=⟨_,rfl⟩
        rw[←hz] at HN
        have HRZ:Hid (Calls Tryz.prog 70 #[.string op,.slice so l.length sc] wr fun e w'=>e=.returned (.int .i64 z)∧Bw wr w'):=by rw[hz];exact HRS.out _ wr HKS.out
        clear hi hlt hown hbr hkl hk hq hz HR
        go_wp2_with (first | (go_at_call 70;refine HRZ.out.mono ?_;rintro e w4 ⟨rfl,hb4⟩) | fail)
        go_ret
        exact⟨by rw[HN.out];rfl,HBR.out.trans (hb4.mono HBR.out.size)⟩
def dL:Nat→Int
 | 0=>0
 | 1=>3
 | 2=>2
 | _=>5
theorem Dg:∀{l:List (ByteArray×Int)} {f g:List UInt8→Option Int},bA f l=some g→(∀s k,f s=some k→k=1∨k=2)→(∀v∈l,v.2=1∨v.2=2)∧(∀s k,g s=some k→k=1∨k=2)∧∀s,(g s).getD 0=if (f s).isSome then (f s).getD 0 else bL l s
 | [],f,g,h,hf=>by
  obtain rfl:f=g:=by simpa [bA] using h
  refine⟨fun v hv=>by simp at hv,hf,fun s=>?_⟩
  cases hs:f s<;>simp [bL]
 | v::l,f,g,h,hf=>by
  unfold bA at h
  by_cases hb:fI f v=true
  ·rw[if_pos hb] at h;cases h
  ·rw[if_neg hb] at h
   have hb':fI f v=false:=by simpa using hb
   unfold fI at hb'
   simp only[Bool.or_eq_false_iff] at hb'
   obtain⟨⟨b1,b2⟩,b3⟩:=hb'
   have hv:v.2=1∨v.2=2:=by
    by_cases e1:v.2=1
    ·exact .inl e1
    ·by_cases e2:v.2=2
     ·exact .inr e2
     ·simp [e1,e2] at b3
   obtain⟨h1,h2,h3⟩:=Dg h (fun s k hk=>by
    unfold bM at hk
    split at hk
    ·rw[←Option.some.inj hk];exact hv
    ·exact hf s k hk)
   refine⟨fun u hu=>?_,h2,fun s=>?_⟩
   ·rcases List.mem_cons.1 hu with rfl | hu
    ·exact hv
    ·exact h1 u hu
   ·rw[h3 s]
    have e0:bL (v::l) s=if v.1.data.toList=s then v.2 else bL l s:=rfl
    rw[e0]
    unfold bM
    by_cases e:s=v.1.data.toList
    ·subst e
     have:f v.1.data.toList=none:=by cases hx:f v.1.data.toList<;>simp_all
     rw[if_pos rfl,if_pos rfl,this]
     simp
    ·have e':¬v.1.data.toList=s:=fun h=>e h.symm
     simp only[if_neg e,if_neg e']
theorem Df{l:List (ByteArray×Int)}{g:List UInt8→Option Int}(h:bA (fun _=>none) l=some g):(∀v∈l,v.2=1∨v.2=2)∧(∀s k,g s=some k→k=1∨k=2)∧∀s,bL l s=(g s).getD 0:=by
 obtain⟨h1,h2,h3⟩:=Dg h (fun s k hk=>by cases hk)
 exact⟨h1,h2,fun s=>by rw[h3 s];simp⟩
theorem Mq{l:List (ByteArray×Int)}{g:List UInt8→Option Int}(h:bA (fun _=>none) l=some g)(v:ByteArray×Int):fI g v=((v.1.data.toList==[]||(v.2 != 1&&v.2 != 2))||decide (0<bL l v.1.data.toList)):=by
 obtain⟨_,h2,h3⟩:=Df h
 unfold fI
 rw[h3]
 cases hg:g v.1.data.toList with
 | none=>simp
 | some k=>
  have:0<k:=by rcases h2 _ _ hg with rfl | rfl<;>decide
  simp [this]
def kW(fs:List Fw)(D:List (List UInt8)):List UInt8→Option Int:=fun s=>if fs.any (fun x=>x.name.data.toList==s) then some (if s∈D then 1 else 0) else none
theorem Ba:∀(l:List Fw) (f:List UInt8→Option Int) (s:List UInt8),gB f l s=if l.any (fun x=>x.name.data.toList==s) then some 0 else f s
 | [],f,s=>by simp [gB]
 | x::l,f,s=>by
  unfold gB
  rw[Ba l,List.any_cons]
  by_cases h:l.any (fun x=>x.name.data.toList==s)=true
  ·simp [h]
  ·have h':l.any (fun x=>x.name.data.toList==s)=false:=by simpa using h
   rw[h',Bool.or_false]
   unfold bM
   by_cases e:s=x.name.data.toList
   ·rw[if_neg (by simp),if_pos e,if_pos (by simp [e])]
   ·have e':¬x.name.data.toList=s:=fun h=>e h.symm
    rw[if_neg (by simp),if_neg e,if_neg (by simpa using e')]
theorem Gu(fs:List Fw):gB (fun _=>none) fs=kW fs []:=by
 funext s
 rw[Ba]
 unfold kW
 simp
theorem Ce{fs:List Fw}:∀{l:List Ex} {D:List (List UInt8)} {g:List UInt8→Option Int},fH (kW fs D) l=some g→∃D',g=kW fs D'∧∀s,s∈D' ↔ s∈D∨∃e∈l,s=e.op.data.toList
 | [],D,g,h=>by
  obtain rfl:kW fs D=g:=by simpa [fH] using h
  exact⟨D,rfl,fun s=>by simp⟩
 | e::l,D,g,h=>by
  unfold fH at h
  cases hf:kW fs D e.op.data.toList with
  | none=>rw[hf] at h;cases h
  | some n=>
   rw[hf] at h
   simp only at h
   by_cases hn:0<n
   ·rw[if_pos hn] at h;cases h
   ·rw[if_neg hn] at h
    have hst:bM (kW fs D) (e.op,n+1)=kW fs (e.op.data.toList::D):=by
     funext s
     unfold bM
     by_cases es:s=e.op.data.toList
     ·subst es
      rw[if_pos rfl]
      unfold kW at hf ⊢
      split at hf
      ·rename_i ha
       have h0:n=0:=by
        rw[←Option.some.inj hf] at hn ⊢
        split at hn
        ·omega
        ·rename_i hd;rw[if_neg hd]
       subst h0
       rw[if_pos ha]
       simp
      ·cases hf
     ·rw[if_neg es]
      unfold kW
      simp [es]
    rw[hst] at h
    obtain⟨D',h1,h2⟩:=Ce h
    refine⟨D',h1,fun s=>?_⟩
    rw[h2]
    simp only[List.mem_cons,exists_eq_or_imp]
    constructor
    ·rintro((h | h) | h)
     ·exact .inr (.inl h)
     ·exact .inl h
     ·exact .inr (.inr h)
    ·rintro(h | h | h)
     ·exact .inl (.inr h)
     ·exact .inl (.inl h)
     ·exact .inr h
theorem L6{fs:List Fw}(hk:∀x∈fs,x.kind=1∨x.kind=2)(s:List UInt8):(bL (dD fs) s==0)=!(fs.any fun x=>x.name.data.toList==s):=by
 induction fs with
 | nil=>simp [dD,bL]
 | cons x fs ih=>
  have hx:=hk x (List.mem_cons_self ..)
  have ih:=ih fun y hy=>hk y (List.mem_cons_of_mem _ hy)
  rw[List.any_cons]
  have e1:dD (x::fs)=(x.name,x.kind)::dD fs:=rfl
  rw[e1]
  unfold bL
  by_cases e:x.name.data.toList=s
  ·rw[if_pos e,e]
   rcases hx with hx | hx<;>simp [hx]
  ·rw[if_neg e,ih]
   simp [e]
theorem MV(l:List Ex)(s:ByteArray):eH l s=true ↔ ∃e∈l,s.data.toList=e.op.data.toList:=by
 unfold eH
 rw[List.any_eq_true]
 simp only[beq_iff_eq,ByteArray.toList_eq]
theorem JY{p:Pg}{g:List UInt8→Option Int}{i:Nat}{e:Ex}(hk:∀x∈p.fs,x.kind=1∨x.kind=2)(hi:p.outs[i]?=some e)(h:fH (gB (fun _=>none) p.fs) (p.outs.take i)=some g):((bL (dD p.fs) e.op.data.toList==0||eH (p.outs.take i) e.op)=true→gQ p=false)∧((bL (dD p.fs) e.op.data.toList==0||eH (p.outs.take i) e.op)=false→∃g,fH (gB (fun _=>none) p.fs) (p.outs.take (i+1))=some g):=by
 have ht:=yG hi h
 rw[Gu] at h
 obtain⟨D,rfl,hD⟩:=Ce h
 have hh:(eH (p.outs.take i) e.op=true) ↔ e.op.data.toList∈D:=by
  rw[MV,hD]
  simp
 rw[L6 hk]
 unfold kW at ht
 cases ha:p.fs.any fun x=>x.name.data.toList==e.op.data.toList with
 | false=>
  rw[ha] at ht
  simp only[Bool.false_eq_true,if_false] at ht
  refine⟨fun _=>?_,fun h=>by simp at h⟩
  unfold gQ
  rw[sF ht]
  rfl
 | true=>
  rw[ha] at ht
  simp only[if_true] at ht
  by_cases hd:e.op.data.toList∈D
  ·rw[if_pos hd] at ht
   refine⟨fun _=>?_,fun h=>by rw[hh.2 hd] at h;simp at h⟩
   unfold gQ
   rw[sF (by simpa using ht)]
   rfl
  ·rw[if_neg hd] at ht
   have hf:eH (p.outs.take i) e.op=false:=by
    cases hx:eH (p.outs.take i) e.op with
    | false=>rfl
    | true=>exact absurd (hh.1 hx) hd
   exact⟨fun h=>by rw[hf] at h;simp at h,fun _=>⟨_,by simpa using ht⟩⟩
theorem zL{p:Pg}{kd:List UInt8→Option Int}(h:bA (fun _=>none) (aK p)=some kd):aQ p=if gQ p&&bG kd (aD p) then (if 30<p.ins.length∨400<p.fs.length∨4000<aC (aD p) then 2 else
   match aM kd (aD p) with
   | none=>3
   | some (ks,_)=>if ks=bT p then 0 else 3) else 1:=by unfold aQ;rw[h];rfl
theorem Nw{p:Pg}{kd:List UInt8→Option Int}(h:bA (fun _=>none) (aK p)=some kd)(h1:gQ p=true)(h2:bG kd (aD p)=true):((30<p.ins.length∨400<p.fs.length∨4000<aC (aD p))→dL (aQ p)=2)∧(¬(30<p.ins.length∨400<p.fs.length∨4000<aC (aD p))→aQ p=(match aM kd (aD p) with
   | none=>3
   | some (ks,_)=>if ks=bT p then 0 else 3)):=by
 rw[zL h,h1,h2]
 refine⟨fun hb=>?_,fun hb=>?_⟩
 ·rw[if_pos (by decide),if_pos hb];rfl
 ·rw[if_pos (by decide),if_neg hb]
theorem Ns{p:Pg}{kd:List UInt8→Option Int}(h:bA (fun _=>none) (aK p)=some kd)(h2:bG kd (aD p)=false):dL (aQ p)=3:=by
 rw[zL h,h2,Bool.and_false]
 rfl
theorem Nv{p:Pg}{kd:List UInt8→Option Int}(h:bA (fun _=>none) (aK p)=some kd)(h2:gQ p=false):dL (aQ p)=3:=by
 rw[zL h,h2]
 rfl
theorem Nt{p:Pg}{kd:List UInt8→Option Int}{i:Nat}{e:Ex}{w:Int}(h:aQ p=(match aM kd (aD p) with
   | none=>3
   | some (ks,_)=>if ks=bT p then 0 else 3)) (h1:(aD p)[i]?=some e) (h2:(bT p)[i]?=some w) (hne:fC kd e≠w):dL (aQ p)=5:=by
 rw[h]
 cases ht:aM kd (aD p) with
 | none=>rfl
 | some r=>
  obtain⟨q,qs⟩:=r
  obtain⟨k,z,h3,h4⟩:=uF ht h1
  have:¬q=bT p:=fun e=>by
   rw[e,h2] at h4
   exact hne (by rw[yS h3,Option.some.inj h4])
  simp [this,dL]
theorem AR{kd:List UInt8→Option Int}:∀{l:List Ex} {ks:List Int},ks.length=l.length→(∀k∈ks,k=1∨k=2)→(∀(i:Nat) (e:Ex),l[i]?=some e→ks[i]?=some (fC kd e))→∃qs,aM kd l=some (ks,qs)
 | [],[],_,_,_=>⟨[],by simp [aM]⟩
 | [],k::ks,hl,_,_=>by simp at hl
 | e::l,[],hl,_,_=>by simp at hl
 | e::l,k::ks,hl,hk,h=>by
  have h0:=h 0 e rfl
  simp only[List.getElem?_cons_zero,Option.some.injEq] at h0
  obtain⟨qs,hq⟩:=AR (l:=l) (ks:=ks) (by simpa using hl) (fun x hx=>hk x (List.mem_cons_of_mem _ hx)) fun i x hx=>by simpa using h (i+1) x (by simpa using hx)
  have hk0:=hk k (List.mem_cons_self ..)
  cases ht:bF kd e with
  | none=>
   rw[yT ht] at h0
   rcases hk0 with h1 | h1<;>rw[h1] at h0<;>cases h0
  | some r=>
   obtain⟨k',q⟩:=r
   rw[yS ht] at h0
   subst h0
   exact⟨q++qs,by rw[aM,ht,hq]⟩
theorem Md{p:Pg}(hk:∀x∈p.fs,x.kind=1∨x.kind=2):∀k∈bT p,k=1∨k=2:=fun k h=>by
 unfold bT at h
 rcases List.mem_append.1 h with h | h
 ·obtain⟨x,hx,rfl⟩:=List.mem_map.1 h
  exact hk x hx
 ·exact .inl (List.eq_of_mem_replicate h)
theorem Ma(p:Pg):(bT p).length=(aD p).length:=by unfold bT aD;simp
theorem Mc{p:Pg}{i:Nat}{x:Fw}(h:p.fs[i]?=some x):(bT p)[i]?=some x.kind:=by
 unfold bT
 have hi:=(aX h).1
 rw[List.getElem?_append_left (by simpa using hi)]
 simp [h]
theorem L9{p:Pg}{i:Nat}(h:p.fs.length≤i)(hi:i<(aD p).length):(bT p)[i]?=some 1:=by
 unfold bT
 unfold aD at hi
 simp at hi
 rw[List.getElem?_append_right (by simpa using h),List.getElem?_replicate,if_pos (by simp;omega)]
theorem FU{p:Pg}(h:∀v∈aK p,v.2=1∨v.2=2):∀x∈p.fs,x.kind=1∨x.kind=2:=fun x hx=>h (x.name,x.kind) (by
 unfold aK dD
 exact List.mem_append_right _ (List.mem_map.2 ⟨x,hx,rfl⟩))
theorem Nr{p:Pg}{kd:List UInt8→Option Int}(hk:∀x∈p.fs,x.kind=1∨x.kind=2)(h:aQ p=(match aM kd (aD p) with
   | none=>3
   | some (ks,_)=>if ks=bT p then 0 else 3)) (h1:∀(k:Nat) (e:Ex),(aD p)[k]?=some e→(bT p)[k]?=some (fC kd e)):dL (aQ p)=0:=by
 obtain⟨qs,hq⟩:=AR (Ma p) (Md hk) h1
 rw[h,hq]
 simp [dL]
end Go.Proofs.YtmgfakcccfahaaaGreatDoor
