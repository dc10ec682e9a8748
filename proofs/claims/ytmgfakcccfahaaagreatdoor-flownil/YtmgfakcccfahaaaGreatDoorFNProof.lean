/-
  PROVED: for every flat program, inputs, nil and count of instants that together hold at most 1048576 values and letters lustrumlaw2.FlowNil returns true: flow.Run by two nils gives the same answer (or gives up by both), and a run of fewer instants gives the beginning of it. Conditions: the row's own: that bulk, and the listed variables start as the program's text lays them (the card ties that).
-/
import Derived.Test.YtmgfakcccfahaaaGreatDoorN39
import Derived.Test.YtmgfakcccfahaaaGreatDoorN51
import Derived.Test.YtmgfakcccfahaaaGreatDoorN52
import Derived.Test.YtmgfakcccfahaaaGreatDoorCards
import Derived.Test.YtmgfakcccfahaaaGreatDoorTie
import Derived.ProofKit
import Derived.OpenShut
import Derived.Carry
import Derived.LaidMore
import Derived.Deep.DeepHandedRow
import Derived.Deep.DeepWitnessRowRef
namespace Go.Proofs.YtmgfakcccfahaaaGreatDoor.flowNil
open Go.ChangeShapes Go.WideShapes Go.ChangeAt Go.RowKit
set_option maxRecDepth 100000

theorem PL(os:Os):laidMetH Tryz.prog Rows.flowNilUptoRow.laid ((World.doorLaid Tryz.prog 400 os).forCall (fun _ _=>0) ⟨#[],#[.agg #[.slice none 0 0,.slice none 0 0,.slice none 0 0,.slice none 0 0,.slice none 0 0],.slice none 0 0,.int .i64 0,.int .i64 0],[]⟩).memory:=
 laidMetH_of_parts3 (fuel:=8) (laidMet_of_run' 8 (by kernel_rfl) (by kernel_rfl)) (by kernel_rfl) (by kernel_rfl)
theorem reads(os:Os){H:Type}(enc:TypeId×Value→H):∃places,DataW.whole enc Tryz.prog ((World.doorLaid Tryz.prog 400 os).forCall (fun _ _=>0) ⟨#[],#[.agg #[.slice none 0 0,.slice none 0 0,.slice none 0 0,.slice none 0 0,.slice none 0 0],.slice none 0 0,.int .i64 0,.int .i64 0],[]⟩).memory Tryz.f5.params.toList Rows.flowNilSpec.vars false (#[.agg #[.slice none 0 0,.slice none 0 0,.slice none 0 0,.slice none 0 0,.slice none 0 0],.slice none 0 0,.int .i64 0,.int .i64 0]:Array Value).toList 8=some ([.agg [.nil,.nil,.nil,.nil,.nil],.nil,.lit (.int .i64 0),.lit (.int .i64 0)],[],places):=
 ⟨[],by kernel_rfl⟩
theorem errs{W:World}(h:laidMetH Tryz.prog Rows.flowNilUptoRow.laid W):∃E:fD,tL W E:=by
 have h':laidMet Tryz.prog Rows.flowNilUptoRow.laid W:=h
 obtain⟨a1,s1,c1,t1,k1,_⟩:=Tryz.sent (n:= "lustrum/api.ErrShape") (g:=4) h' (by simp [Rows.flowNilUptoRow,Rows.laid_lustrum_api_ErrShape];rfl) (by kernel_rfl) (by kernel_rfl)
 obtain⟨a2,s2,c2,t2,k2,_⟩:=Tryz.sent (n:= "lustrum/api.ErrBound") (g:=2) h' (by simp [Rows.flowNilUptoRow,Rows.laid_lustrum_api_ErrBound];rfl) (by kernel_rfl) (by kernel_rfl)
 obtain⟨a3,s3,c3,t3,k3,_⟩:=Tryz.sent (n:= "lustrum/api.ErrType") (g:=3) h' (by simp [Rows.flowNilUptoRow,Rows.laid_lustrum_api_ErrType];rfl) (by kernel_rfl) (by kernel_rfl)
 obtain⟨a4,s4,c4,t4,k4,_⟩:=Tryz.sent (n:= "lustrum/api.ErrCycle") (g:=0) h' (by simp [Rows.flowNilUptoRow,Rows.laid_lustrum_api_ErrCycle];rfl) (by kernel_rfl) (by kernel_rfl)
 obtain⟨a5,s5,c5,t5,k5,_⟩:=Tryz.sent (n:= "lustrum/api.ErrFirst") (g:=1) h' (by simp [Rows.flowNilUptoRow,Rows.laid_lustrum_api_ErrFirst];rfl) (by kernel_rfl) (by kernel_rfl)
 exact⟨{ st:=_,bt:=_,tt:=_,sq:=_,bq:=_,tq:=_,ct:=_,cq:=_,ft:=_,fq:=_ },⟨k1,k2,k3⟩,k4,k5⟩
theorem laidOut:laidOutB Tryz.prog=true:=by kernel_rfl

theorem contract(H:Type)(enc:TypeId×Value→H)(W:World)(base:Nat)(args:Array Value)(ds gs:List (DataW H))(before:List MemPlace)
  (hval:∀(j:Nat) t v,Tryz.f5.params[j]?=some t→args[j]?=some v→Value.okWide Tryz.prog W .any base t v)
  (hW:DataW.Whole enc Tryz.prog Tryz.f5.params.toList Rows.flowNilSpec.vars false W args.toList ds gs before) (hL:laidMetH Tryz.prog Rows.flowNilUptoRow.laid W) (hc:Rows.uptoSmall H (ds++gs)=true) :
  Calls Tryz.prog 5 args W fun e W'=>∃v,e=.returned v∧Rows.flowNilSpec.post enc Tryz.prog Tryz.f5 false true false false W args v W':=by
 have hW':=hW
 obtain⟨p,q,hA0,hV,rfl,hfz,hnd⟩:=hW
 have hA:DataW.TrodAll enc Tryz.prog W 0 (fun _=>true) true Tryz.f5.params.toList args.toList ds p:=hA0
 rw[Tryz.params5] at hA hval
 obtain⟨v0,vs0,d0,ds0,p0,q0,hargs0,rfl,rfl,h0,r0⟩:=trodAll_cons hA
 obtain⟨v1,vs1,d1,ds1,p1,q1,hargs1,rfl,rfl,h1,r1⟩:=trodAll_cons r0
 obtain⟨v2,vs2,d2,ds2,p2,q2,hargs2,rfl,rfl,h2,r2⟩:=trodAll_cons r1
 obtain⟨v3,vs3,d3,ds3,p3,q3,hargs3,rfl,rfl,h3,r3⟩:=trodAll_cons r2
 obtain⟨rfl,rfl,rfl⟩:=trodAll_nil r3
 obtain rfl:args=#[v0,v1,v2,v3]:=by cases args;simp_all
 obtain⟨rfl,rfl⟩:=trodVars_none hV
 simp only[List.append_nil] at hW'
 have hlt:∀x∈p0++(p1++(p2++p3)),x.block<W.heap.size:=fun x hx=>by simpa using hW'.lt x (by simpa using hx)
 have back0:∀W',Bw W W'→DataW.Trod enc Tryz.prog W' 0 (fun b=>decide (b<W.heap.size)) true 27 v0 d0 p0:=
  fun W' hb=>Below.trod laidOut (by kernel_rfl) (of_decide_eq_true (by kernel_rfl)) h0 hb (fun x hx=>hlt x (by simp [hx]))
 have back1:∀W',Bw W W'→DataW.Trod enc Tryz.prog W' 0 (fun b=>decide (b<W.heap.size)) true 51 v1 d1 p1:=
  fun W' hb=>Below.trod laidOut (by kernel_rfl) (of_decide_eq_true (by kernel_rfl)) h1 hb (fun x hx=>hlt x (by simp [hx]))
 have back2:∀W',Bw W W'→DataW.Trod enc Tryz.prog W' 0 (fun b=>decide (b<W.heap.size)) true 3 v2 d2 p2:=
  fun W' hb=>Below.trod laidOut (by kernel_rfl) (of_decide_eq_true (by kernel_rfl)) h2 hb (fun x hx=>hlt x (by simp [hx]))
 have back3:∀W',Bw W W'→DataW.Trod enc Tryz.prog W' 0 (fun b=>decide (b<W.heap.size)) true 3 v3 d3 p3:=
  fun W' hb=>Below.trod laidOut (by kernel_rfl) (of_decide_eq_true (by kernel_rfl)) h3 hb (fun x hx=>hlt x (by simp [hx]))
 obtain⟨vc0,rfl,vn0⟩:=okWide_struct Tryz.underlying27 (hval 0 27 v0 rfl rfl)
 obtain⟨uo,un,uc,rfl⟩:=okWide_slice Tryz.underlying51 (hval 1 51 v1 rfl rfl)
 obtain⟨x2,rfl⟩:=okWide_int Tryz.underlying3 (hval 2 3 v2 rfl rfl)
 obtain⟨x3,rfl⟩:=okWide_int Tryz.underlying3 (hval 3 3 v3 rfl rfl)
 have hbk:Rows.uptoBulk d0≤1048576:=by
  have h:=of_decide_eq_true hc
  simp only[List.append_nil,Rows.uptoBulkAll] at h
  omega
 obtain⟨fuel0,h0'⟩:=h0
 obtain⟨fuel1,h1'⟩:=h1
 obtain⟨pp,o1,o2,o3,o4,o5,c1,c2,c3,c4,c5,hcs,hpg,hfew,hfit,htrm,hwt,hsm,hnm,hon⟩:=Ms h0' hbk
 obtain⟨io,ic,ll,hci,hins⟩:=Mx h1'
 simp only[Value.cells,List.cons.injEq,Value.slice.injEq,and_true] at hci
 obtain⟨rfl,rfl,rfl⟩:=hci
 obtain⟨l0⟩:=vc0
 have hl0:l0=[.slice o1 pp.ins.length c1,.slice o2 pp.outs.length c2,.slice o3 pp.fs.length c3,.slice o4 pp.asserts.length c4,.slice o5 pp.checks.length c5]:=hcs
 subst hl0
 clear hA0
 obtain⟨E,hE⟩:=errs hL
 have hwalk:=Pk W lT pp o1 o2 o3 o4 o5 c1 c2 c3 c4 c5 E uo ll.length uc ll ⟨hpg,hE,hins,rfl,hfew,hfit,htrm,hwt,hsm,hnm,hon⟩ x2 x3
 refine hwalk.mono fun e W' ⟨he,hb⟩=>?_
 subst he
 refine⟨_,rfl,_,_,_,[],(p0++(p1++(p2++(p3++[])))),[],hW',?_,?_,?_,hb.frame _,fun h=>by cases h⟩
 ·exact trodAll_cons_mk (shut_bool Tryz.underlying4 _) trodAll_mk0
 ·exact trodAll_cons_mk (back0 W' hb) (trodAll_cons_mk (back1 W' hb) (trodAll_cons_mk (back2 W' hb) (trodAll_cons_mk (back3 W' hb) trodAll_mk0)))
 ·rfl

theorem lifted(os:Os)(started:os.Started)(H:Type)(enc:TypeId×Value→H)(F:Stop.Interp) :
  ReturnsInHanded {} Tryz.checked os 5 .any ((Rows.OpenSpec.upto Rows.flowNilSpec).preRow enc Tryz.prog Tryz.f5 Rows.flowNilUptoRow.domain false Rows.flowNilUptoRow.laid) (((Rows.OpenSpec.upto Rows.flowNilSpec).at F).post enc Tryz.prog Tryz.f5 false true false false):=by
 obtain⟨places,hx⟩:=reads os enc
 refine returnsInHanded_of_row (C:=Tryz.checked) (s:=Rows.OpenSpec.upto Rows.flowNilSpec) Tryz.own started (by kernel_rfl) Tryz.func5
  (witness_row_atRef (enc:=enc) (C:=Tryz.checked) false (World.doorLaid Tryz.prog 400 os) #[.agg #[.slice none 0 0,.slice none 0 0,.slice none 0 0,.slice none 0 0,.slice none 0 0],.slice none 0 0,.int .i64 0,.int .i64 0] rfl (by kernel_rfl) (by kernel_rfl) (by kernel_rfl)
   (OpenSpec.preRow_of_cond 8 hx (by kernel_rfl) (fun k hk=>by cases hk;kernel_rfl) (by kernel_rfl) (PL os))) ?_
 intro W base args ds gs before hval hW _ hc _ hL _ _
 exact contract H enc W base args ds gs before hval hW hL (hc _ rfl)

theorem Gj{P:Program}{l:List TypeId}(h:P.grow l=l):∀d,P.grown d l=l
 | 0=>rfl
 | d+1=>by rw[Program.grown,h];exact Gj h d
theorem Gl(P:Program):∀(a b:Nat) (l:List TypeId),P.grown (a+b) l=P.grown b (P.grown a l)
 | 0,b,l=>by rw[Nat.zero_add];rfl
 | a+1,b,l=>by rw[show a+1+b=(a+b)+1 from by omega];exact Gl P a b (P.grow l)
theorem yE{P:Program}{t:TypeId}{l:List TypeId}(k:Nat)(hk:(Nat.ble k P.types.size)=true)(h:P.grown k [t]=l)(hs:P.grow l=l):P.book t=l:=by
 obtain⟨m,hm⟩:=Nat.exists_eq_add_of_le (Nat.le_of_ble_eq_true hk)
 rw[Program.book,hm,Gl,h,Gj hs]
theorem wJ:Tryz.prog.book 27=[27,22,23,24,25,156,9,90,79,3]:=yE 8 (by kernel_rfl) (by kernel_rfl) (by kernel_rfl)
theorem yG:Tryz.prog.book 51=[51,64,66,3]:=yE 8 (by kernel_rfl) (by kernel_rfl) (by kernel_rfl)
theorem yF:Tryz.prog.book 3=[3]:=yE 0 (by kernel_rfl) (by kernel_rfl) (by kernel_rfl)
theorem Qq:Tryz.prog.book 79=[79,9,3,25]:=yE 8 (by kernel_rfl) (by kernel_rfl) (by kernel_rfl)
theorem G8:Tryz.prog.book 4=[4]:=yE 0 (by kernel_rfl) (by kernel_rfl) (by kernel_rfl)
theorem readable:Tryz.f5.params.all (Tryz.prog.readableRec ·)=true:=by
 rw[Tryz.params5]
 have h1:Tryz.prog.readableRec 27=true:=by rw[Program.readableRec,wJ];kernel_rfl
 have h2:Tryz.prog.readableRec 51=true:=by rw[Program.readableRec,yG];kernel_rfl
 have h3:Tryz.prog.readableRec 3=true:=by rw[Program.readableRec,yF];kernel_rfl
 simp only[Array.all_eq_true_iff_forall_mem]
 intro t ht
 simp only[List.mem_toArray,List.mem_cons,List.not_mem_nil,or_false] at ht
 rcases ht with rfl | rfl | rfl | rfl
 ·exact h1
 ·exact h2
 ·exact h3
 ·exact h3
theorem ins:Tryz.f5.params.toList++(Rows.OpenSpec.upto Rows.flowNilSpec).bare.plain.varTypes Tryz.prog=[27,51,3,3]:=by kernel_rfl
theorem OD:Tryz.f5.params.toList++(Rows.OpenSpec.upto Rows.flowNilSpec).bare.plain.varTypes Tryz.prog++Tryz.f5.resultTypes.toList=[27,51,3,3,4]:=by kernel_rfl
theorem maps:[27,51,3,3].any (Tryz.prog.mapsRec ·)=false:=by
 simp only[List.any_cons,List.any_nil,Program.mapsRec,wJ,yG,yF];kernel_rfl
theorem ifaces:[27,51,3,3].any (Tryz.prog.ifacesRec ·)=false:=by
 simp only[List.any_cons,List.any_nil,Program.ifacesRec,wJ,yG,yF];kernel_rfl
theorem loops:[27,51,3,3].any (Tryz.prog.loopsFrom ·)=true:=by
 refine List.any_eq_true.2 ⟨27,List.mem_cons_self,?_⟩
 rw[Program.loopsFrom,wJ]
 refine List.any_eq_true.2 ⟨25,by decide,List.any_eq_true.2 ⟨79,?_,?_⟩⟩
 ·rw[show Tryz.prog.partsOf 25=[79] from by kernel_rfl];exact List.mem_cons_self
 ·rw[Qq];rfl
theorem wideKeys:[27,51,3,3,4].any (Tryz.prog.wideKeysFrom ·)=false:=by
 simp only[List.any_cons,List.any_nil,Program.wideKeysFrom,wJ,yG,yF,G8];kernel_rfl
theorem veiled:[27,51,3,3,4].any (Tryz.prog.veiledRec ·)=false:=by
 simp only[List.any_cons,List.any_nil,Program.veiledRec,wJ,yG,yF,G8];kernel_rfl
theorem veiledFits:OpenClaim.veiledFits Rows.flowNilUptoRow Tryz.prog Tryz.f5.params.toList [27,51,3,3,4]=true:=by
 have hv:Tryz.prog.veiledRec 27=false∧Tryz.prog.veiledRec 51=false∧Tryz.prog.veiledRec 3=false∧Tryz.prog.veiledRec 4=false:=by
  have:=veiled
  simp only[List.any_cons,List.any_nil,Bool.or_false,Bool.or_eq_false_iff] at this
  exact⟨this.1,this.2.1,this.2.2.1,this.2.2.2.2⟩
 have h0:(Rows.flowNilUptoRow.laid.filterMap fun x=>(Tryz.prog.globalNamed x.1).bind fun g=>(Tryz.prog.globals[g]?).map (·.type)).all (Tryz.prog.veiledOwn ·)=true:=by kernel_rfl
 unfold OpenClaim.veiledFits
 rw[List.all_append,h0]
 simp only[List.all_cons,List.all_nil,Program.veiledOwn,hv.1,hv.2.1,hv.2.2.1,hv.2.2.2]
 rfl
theorem closed:joinedFacts Tryz.prog 5 Tryz.f5 (Rows.OpenSpec.upto Rows.flowNilSpec).bare Rows.flowNilUptoRow=true:=by
 unfold joinedFacts
 rw[OD]
 simp only[ins,maps,ifaces,loops,wideKeys,veiled,veiledFits,readable,Bool.and_true]
 kernel_rfl
theorem said:Rows.FlowNilUptoSaid:=
 OpenClaim.holds_of_cond 5 Tryz.f5 rfl rfl rfl rfl rfl rfl rfl ⟨rfl,rfl,rfl,rfl,rfl⟩ rfl rfl rfl rfl rfl (by kernel_rfl) Tryz.func5 closed
  (of_decide_eq_true (by kernel_rfl)) (by unfold Func.isWrapper;rw[if_neg (of_decide_eq_false (by kernel_rfl))];exact⟨rfl,rfl⟩)
  (fun os started H enc _ F=>by rw[OpenClaim.pre_eq_preRow];exact lifted os started H enc F)

theorem plain(f:FuncId)(fn:Func)(hf:Tryz.pinned.checked.prog.funcNamed "lustrum/lustrumlaw2.FlowNil"=some f)(hfn:Tryz.pinned.checked.prog.funcs[f]?=some fn) :
  true=Tryz.pinned.checked.prog.looks []∧∀(j:Nat) t,fn.params[j]?=some t→Tryz.pinned.checked.prog.wantsStandIn t=false:=by
 obtain rfl:f=5:=Option.some.inj ((show Tryz.prog.funcNamed "lustrum/lustrumlaw2.FlowNil"=some 5 by kernel_rfl).symm.trans hf) |>.symm
 obtain rfl:fn=Tryz.f5:=(Option.some.inj (Tryz.func5.symm.trans hfn)).symm
 refine⟨by kernel_rfl,fun j t ht=>?_⟩
 rw[Tryz.params5] at ht
 have hm:=Array.mem_of_getElem? ht
 simp only[List.mem_toArray,List.mem_cons,List.not_mem_nil,or_false] at hm
 rcases hm with rfl | rfl | rfl | rfl
 ·exact(show Tryz.prog.wantsStandIn 27=false by kernel_rfl)
 ·exact(show Tryz.prog.wantsStandIn 51=false by kernel_rfl)
 ·exact(show Tryz.prog.wantsStandIn 3=false by kernel_rfl)
 ·exact(show Tryz.prog.wantsStandIn 3=false by kernel_rfl)

theorem card:Rows.FlowNilUptoCardSaid:=
 Claim7.holds_tied_plain_at .later [] _ _ _ _ said (fun _ h=>by cases h) (by kernel_rfl) (fun _ h=>by cases h) flowNilUpto_row_tie rfl ⟨rfl,rfl⟩ (by kernel_rfl) rfl plain (by kernel_rfl)
end Go.Proofs.YtmgfakcccfahaaaGreatDoor.flowNil

namespace Go.Proofs.YtmgfakcccfahaaaGreatDoor
theorem flowNilUpto_card:Rows.FlowNilUptoCardSaid:=flowNil.card
#print axioms flowNilUpto_card
end Go.Proofs.YtmgfakcccfahaaaGreatDoor
