/-
  PROVED: for every flat program that holds at most 1048576 values and letters lustrumlaw2.OrderIs returns true: order.Order puts the flows in the document's order, order.Late tells how late each of them is, order.Check whether the program is right, and where there is none each of them tells the document's error, at the document's place; before that, of a program of one flow, they tell what they must. Conditions: the row's own: that bulk, and the listed variables start as the program's text lays them (the card ties that).
-/
import Derived.Test.YtmgfakcccfahaaaGreatDoorN44
import Derived.Test.YtmgfakcccfahaaaGreatDoorN51
import Derived.Test.YtmgfakcccfahaaaGreatDoorN50
import Derived.Test.YtmgfakcccfahaaaGreatDoorCards
import Derived.Test.YtmgfakcccfahaaaGreatDoorTie
import Derived.ProofKit
import Derived.OpenShut
import Derived.Carry
import Derived.LaidMore
import Derived.Deep.DeepHandedRow
import Derived.Deep.DeepWitnessRowRef
namespace Go.Proofs.YtmgfakcccfahaaaGreatDoor.orderIs
open Go.ChangeShapes Go.WideShapes Go.ChangeAt Go.RowKit
set_option maxRecDepth 100000

theorem NQ(os:Os):laidMetH Tryz.prog Rows.orderIsUptoRow.laid ((World.doorLaid Tryz.prog 400 os).forCall (fun _ _=>0) ⟨#[],#[.agg #[.slice none 0 0,.slice none 0 0,.slice none 0 0,.slice none 0 0,.slice none 0 0]],[]⟩).memory:=
 laidMetH_of_parts3 (fuel:=8) (laidMet_of_run' 8 (by kernel_rfl) (by kernel_rfl)) (by kernel_rfl) (by kernel_rfl)
theorem reads(os:Os){H:Type}(enc:TypeId×Value→H):∃places,DataW.whole enc Tryz.prog ((World.doorLaid Tryz.prog 400 os).forCall (fun _ _=>0) ⟨#[],#[.agg #[.slice none 0 0,.slice none 0 0,.slice none 0 0,.slice none 0 0,.slice none 0 0]],[]⟩).memory Tryz.f3.params.toList Rows.orderIsSpec.vars false (#[.agg #[.slice none 0 0,.slice none 0 0,.slice none 0 0,.slice none 0 0,.slice none 0 0]]:Array Value).toList 8=some ([.agg [.nil,.nil,.nil,.nil,.nil]],[],places):=
 ⟨[],by kernel_rfl⟩
theorem IB{W:World}(h:laidMetH Tryz.prog Rows.orderIsUptoRow.laid W):∃a:Nat→Addr,jC a W:=by
 have h':laidMet Tryz.prog (Rows.orderIsUptoRow.laid.filter fun x=>x.2.handleName?.isNone) W∧handlesMet Tryz.prog (Rows.orderIsUptoRow.laid.filter fun x=>x.2.handleName?.isSome) W:=h
 obtain⟨a,S,_⟩:=IA h'.1 h'.2 (List.mem_filter.2 ⟨by simp [Rows.orderIsUptoRow,Rows.laid_errors_errorType],rfl⟩) (fun x hx=>List.mem_filter.2 ⟨by
  simp only[List.mem_cons,List.not_mem_nil,or_false] at hx
  rcases hx with rfl | rfl | rfl | rfl | rfl | rfl | rfl | rfl | rfl<;>simp [Rows.orderIsUptoRow],by
  simp only[List.mem_cons,List.not_mem_nil,or_false] at hx
  rcases hx with rfl | rfl | rfl | rfl | rfl | rfl | rfl | rfl | rfl<;>rfl⟩)
 exact⟨a,S⟩
theorem laidOut:laidOutB Tryz.prog=true:=by kernel_rfl

theorem contract(H:Type)(enc:TypeId×Value→H)(W:World)(base:Nat)(args:Array Value)(ds gs:List (DataW H))(before:List MemPlace)
  (hval:∀(j:Nat) t v,Tryz.f3.params[j]?=some t→args[j]?=some v→Value.okWide Tryz.prog W .any base t v)
  (hW:DataW.Whole enc Tryz.prog Tryz.f3.params.toList Rows.orderIsSpec.vars false W args.toList ds gs before) (hL:laidMetH Tryz.prog Rows.orderIsUptoRow.laid W) (hc:Rows.uptoSmall H (ds++gs)=true) :
  Calls Tryz.prog 3 args W fun e W'=>∃v,e=.returned v∧Rows.orderIsSpec.post enc Tryz.prog Tryz.f3 false true false false W args v W':=by
 have hW':=hW
 obtain⟨p,q,hA0,hV,rfl,hfz,hnd⟩:=hW
 have hA:DataW.TrodAll enc Tryz.prog W 0 (fun _=>true) true Tryz.f3.params.toList args.toList ds p:=hA0
 rw[Tryz.params3] at hA hval
 obtain⟨v0,vs0,d0,ds0,p0,q0,hargs0,rfl,rfl,h0,r0⟩:=trodAll_cons hA
 obtain⟨rfl,rfl,rfl⟩:=trodAll_nil r0
 obtain rfl:args=#[v0]:=by cases args;simp_all
 obtain⟨rfl,rfl⟩:=trodVars_none hV
 simp only[List.append_nil] at hW'
 have hlt:∀x∈p0,x.block<W.heap.size:=fun x hx=>by simpa using hW'.lt x (by simpa using hx)
 have back0:∀W',Bw W W'→DataW.Trod enc Tryz.prog W' 0 (fun b=>decide (b<W.heap.size)) true 27 v0 d0 p0:=
  fun W' hb=>Below.trod laidOut (by kernel_rfl) (of_decide_eq_true (by kernel_rfl)) h0 hb (fun x hx=>hlt x (by simp [hx]))
 obtain⟨vc0,rfl,vn0⟩:=okWide_struct Tryz.underlying27 (hval 0 27 v0 rfl rfl)
 have hbk:Rows.uptoBulk d0≤1048576:=by
  have h:=of_decide_eq_true hc
  simp only[List.append_nil,Rows.uptoBulkAll] at h
  omega
 obtain⟨fuel0,h0'⟩:=h0
 obtain⟨pp,o1,o2,o3,o4,o5,c1,c2,c3,c4,c5,hcs,hpg,hfew,hfit,htrm,hwt,hsm,hnm,hon⟩:=J5 h0' hbk
 obtain⟨l0⟩:=vc0
 have hl0:l0=[.slice o1 pp.ins.length c1,.slice o2 pp.outs.length c2,.slice o3 pp.fs.length c3,.slice o4 pp.asserts.length c4,.slice o5 pp.checks.length c5]:=hcs
 subst hl0
 clear hA0
 obtain⟨a,hS⟩:=IB hL
 have hwalk:=J2 a W jK pp o1 o2 o3 o4 o5 c1 c2 c3 c4 c5 hS ⟨hpg,hfew,hfit,htrm,hwt,hsm,hnm,hon⟩
 refine hwalk.mono fun e W' ⟨he,hb⟩=>?_
 subst he
 refine⟨_,rfl,_,_,_,[],(p0++[]),[],hW',?_,?_,?_,hb.frame _,fun h=>by cases h⟩
 ·exact trodAll_cons_mk (shut_bool Tryz.underlying4 _) trodAll_mk0
 ·exact trodAll_cons_mk (back0 W' hb) trodAll_mk0
 ·rfl

theorem lifted(os:Os)(started:os.Started)(H:Type)(enc:TypeId×Value→H)(F:Stop.Interp) :
  ReturnsInHanded {} Tryz.checked os 3 .any ((Rows.OpenSpec.upto Rows.orderIsSpec).preRow enc Tryz.prog Tryz.f3 Rows.orderIsUptoRow.domain false Rows.orderIsUptoRow.laid) (((Rows.OpenSpec.upto Rows.orderIsSpec).at F).post enc Tryz.prog Tryz.f3 false true false false):=by
 obtain⟨places,hx⟩:=reads os enc
 refine returnsInHanded_of_row (C:=Tryz.checked) (s:=Rows.OpenSpec.upto Rows.orderIsSpec) Tryz.own started (by kernel_rfl) Tryz.func3
  (witness_row_atRef (enc:=enc) (C:=Tryz.checked) false (World.doorLaid Tryz.prog 400 os) #[.agg #[.slice none 0 0,.slice none 0 0,.slice none 0 0,.slice none 0 0,.slice none 0 0]] rfl (by kernel_rfl) (by kernel_rfl) (by kernel_rfl)
   (OpenSpec.preRow_of_cond 8 hx (by kernel_rfl) (fun k hk=>by cases hk;kernel_rfl) (by kernel_rfl) (NQ os))) ?_
 intro W base args ds gs before hval hW _ hc _ hL _ _
 exact contract H enc W base args ds gs before hval hW hL (hc _ rfl)

theorem DC{P:Program}{l:List TypeId}(h:P.grow l=l):∀d,P.grown d l=l
 | 0=>rfl
 | d+1=>by rw[Program.grown,h];exact DC h d
theorem DF(P:Program):∀(a b:Nat) (l:List TypeId),P.grown (a+b) l=P.grown b (P.grown a l)
 | 0,b,l=>by rw[Nat.zero_add];rfl
 | a+1,b,l=>by rw[show a+1+b=(a+b)+1 from by omega];exact DF P a b (P.grow l)
theorem zZ{P:Program}{t:TypeId}{l:List TypeId}(k:Nat)(hk:(Nat.ble k P.types.size)=true)(h:P.grown k [t]=l)(hs:P.grow l=l):P.book t=l:=by
 obtain⟨m,hm⟩:=Nat.exists_eq_add_of_le (Nat.le_of_ble_eq_true hk)
 rw[Program.book,hm,DF,h,DC hs]
theorem rD:Tryz.prog.book 27=[27,22,23,24,25,156,9,90,79,3]:=zZ 8 (by kernel_rfl) (by kernel_rfl) (by kernel_rfl)
theorem Ou:Tryz.prog.book 79=[79,9,3,25]:=zZ 8 (by kernel_rfl) (by kernel_rfl) (by kernel_rfl)
theorem Ep:Tryz.prog.book 4=[4]:=zZ 0 (by kernel_rfl) (by kernel_rfl) (by kernel_rfl)
theorem readable:Tryz.f3.params.all (Tryz.prog.readableRec ·)=true:=by
 rw[Tryz.params3]
 have h1:Tryz.prog.readableRec 27=true:=by rw[Program.readableRec,rD];kernel_rfl
 simp only[Array.all_eq_true_iff_forall_mem]
 intro t ht
 simp only[List.mem_toArray,List.mem_cons,List.not_mem_nil,or_false] at ht
 rcases ht with rfl
 exact h1
theorem ins:Tryz.f3.params.toList++(Rows.OpenSpec.upto Rows.orderIsSpec).bare.plain.varTypes Tryz.prog=[27]:=by kernel_rfl
theorem MC:Tryz.f3.params.toList++(Rows.OpenSpec.upto Rows.orderIsSpec).bare.plain.varTypes Tryz.prog++Tryz.f3.resultTypes.toList=[27,4]:=by kernel_rfl
theorem maps:[27].any (Tryz.prog.mapsRec ·)=false:=by
 simp only[List.any_cons,List.any_nil,Program.mapsRec,rD];kernel_rfl
theorem ifaces:[27].any (Tryz.prog.ifacesRec ·)=false:=by
 simp only[List.any_cons,List.any_nil,Program.ifacesRec,rD];kernel_rfl
theorem loops:[27].any (Tryz.prog.loopsFrom ·)=true:=by
 refine List.any_eq_true.2 ⟨27,List.mem_cons_self,?_⟩
 rw[Program.loopsFrom,rD]
 refine List.any_eq_true.2 ⟨25,by decide,List.any_eq_true.2 ⟨79,?_,?_⟩⟩
 ·rw[show Tryz.prog.partsOf 25=[79] from by kernel_rfl];exact List.mem_cons_self
 ·rw[Ou];rfl
theorem wideKeys:[27,4].any (Tryz.prog.wideKeysFrom ·)=false:=by
 simp only[List.any_cons,List.any_nil,Program.wideKeysFrom,rD,Ep];kernel_rfl
theorem veiled:[27,4].any (Tryz.prog.veiledRec ·)=false:=by
 simp only[List.any_cons,List.any_nil,Program.veiledRec,rD,Ep];kernel_rfl
theorem veiledFits:OpenClaim.veiledFits Rows.orderIsUptoRow Tryz.prog Tryz.f3.params.toList [27,4]=true:=by
 have hv:Tryz.prog.veiledRec 27=false∧Tryz.prog.veiledRec 4=false:=by
  have:=veiled
  simp only[List.any_cons,List.any_nil,Bool.or_false,Bool.or_eq_false_iff] at this
  exact this
 have h0:(Rows.orderIsUptoRow.laid.filterMap fun x=>(Tryz.prog.globalNamed x.1).bind fun g=>(Tryz.prog.globals[g]?).map (·.type)).all (Tryz.prog.veiledOwn ·)=true:=by kernel_rfl
 unfold OpenClaim.veiledFits
 rw[List.all_append,h0]
 simp only[List.all_cons,List.all_nil,Program.veiledOwn,hv.1,hv.2]
 rfl
theorem closed:joinedFacts Tryz.prog 3 Tryz.f3 (Rows.OpenSpec.upto Rows.orderIsSpec).bare Rows.orderIsUptoRow=true:=by
 unfold joinedFacts
 rw[MC]
 simp only[ins,maps,ifaces,loops,wideKeys,veiled,veiledFits,readable,Bool.and_true]
 kernel_rfl
theorem said:Rows.OrderIsUptoSaid:=
 OpenClaim.holds_of_cond 3 Tryz.f3 rfl rfl rfl rfl rfl rfl rfl ⟨rfl,rfl,rfl,rfl,rfl⟩ rfl rfl rfl rfl rfl (by kernel_rfl) Tryz.func3 closed
  (of_decide_eq_true (by kernel_rfl)) (by unfold Func.isWrapper;rw[if_neg (of_decide_eq_false (by kernel_rfl))];exact⟨rfl,rfl⟩)
  (fun os started H enc _ F=>by rw[OpenClaim.pre_eq_preRow];exact lifted os started H enc F)

theorem plain(f:FuncId)(fn:Func)(hf:Tryz.pinned.checked.prog.funcNamed "lustrum/lustrumlaw2.OrderIs"=some f)(hfn:Tryz.pinned.checked.prog.funcs[f]?=some fn) :
  true=Tryz.pinned.checked.prog.looks []∧∀(j:Nat) t,fn.params[j]?=some t→Tryz.pinned.checked.prog.wantsStandIn t=false:=by
 obtain rfl:f=3:=Option.some.inj ((show Tryz.prog.funcNamed "lustrum/lustrumlaw2.OrderIs"=some 3 by kernel_rfl).symm.trans hf) |>.symm
 obtain rfl:fn=Tryz.f3:=(Option.some.inj (Tryz.func3.symm.trans hfn)).symm
 refine⟨by kernel_rfl,fun j t ht=>?_⟩
 rw[Tryz.params3] at ht
 have hm:=Array.mem_of_getElem? ht
 simp only[List.mem_toArray,List.mem_cons,List.not_mem_nil,or_false] at hm
 rcases hm with rfl
 exact(show Tryz.prog.wantsStandIn 27=false by kernel_rfl)

theorem card:Rows.OrderIsUptoCardSaid:=
 Claim7.holds_tied_plain_at .later [] _ _ _ _ said (fun _ h=>by cases h) (by kernel_rfl) (fun _ h=>by cases h) orderIsUpto_row_tie rfl ⟨rfl,rfl⟩ (by kernel_rfl) rfl plain (by kernel_rfl)
end Go.Proofs.YtmgfakcccfahaaaGreatDoor.orderIs

namespace Go.Proofs.YtmgfakcccfahaaaGreatDoor
theorem orderIsUpto_card:Rows.OrderIsUptoCardSaid:=orderIs.card
#print axioms orderIsUpto_card
end Go.Proofs.YtmgfakcccfahaaaGreatDoor
