/- THE CARD OF GateApart: for all bytes of two connections and all places where they are cut, requests that are read on one are answered as if pieces of the other had not come between, if the other brings no request to its end; no argument turns; the tables of math/bits, internal/strconv and unicode/utf8 start as the text of the program lays them. -/
import Derived.Test.YtjmndjmhjleabaaGreatDoorAl
import Derived.Test.YtjmndjmhjleabaaGreatDoorAm
import Derived.Test.YtjmndjmhjleabaaGreatDoorCards
import Derived.Test.YtjmndjmhjleabaaGreatDoorTie
import Derived.Test.YtjmndjmhjleabaaGreatDoorPk50
import Derived.Test.YtjmndjmhjleabaaGreatDoorPk48
import Derived.ProofKit
import Derived.OpenShut
import Derived.Deep.DeepHandedRow
import Derived.Lib.LaidTab
set_option maxRecDepth 100000
open Go.Proofs.Tryz
namespace Go.Proofs.YtjmndjmhjleabaaGreatDoor.gateApart
open Go.ChangeShapes Go.WideShapes Go.ChangeAt Go.RowKit
theorem own:ownKnob prog.godebug=none:=by kernel_rfl
theorem MU:prog.cellsOf 5=1:=by kernel_rfl
theorem contract (H:Type)(enc:TypeId×Value->H)(W:World)(base:Nat)(args:Array Value)(ds gs:List (DataW H))(before:List MemPlace)
 (hval:∀(j:Nat) t v,Tryz.f5.params[j]? = some t->args[j]? = some v->Value.okWide prog W .any base t v)
 (hW:DataW.Whole enc prog Tryz.f5.params.toList Rows.gateApartSpec.vars false W args.toList ds gs before)
 (hwt:(DataW.weightsEach prog (Tryz.f5.params.toList++(OpenSpec.ofChange Rows.gateApartSpec).bare.plain.varTypes prog) (ds++gs)).all (·<=reachBytes)=true)
 (Xp:laidMetH prog Rows.gateApartRow.laid W) :
 Calls prog 5 args W fun e W'=>∃v,e=.returned v∧Rows.gateApartSpec.post enc prog Tryz.f5 false true false false W args v W':=by
 have hW':=hW;obtain⟨p,q,hA0,hV,rfl,hfz,hnd⟩:=hW;have hA:DataW.TrodAll enc prog W 0 (fun _=>true) true Tryz.f5.params.toList args.toList ds p:=hA0;have hvt:(OpenSpec.ofChange Rows.gateApartSpec).bare.plain.varTypes prog=[]:=by kernel_rfl
 rw[hvt,bW] at hwt;rw[Tryz.params5] at hA hval hwt;obtain⟨v0,vs0,d0,ds0,p0,q0,hargs,rfl,rfl,h0,r0⟩:=trodAll_cons hA;obtain⟨v1,vs1,d1,ds1,p1,q1,rfl,rfl,rfl,h1,r1⟩:=trodAll_cons r0;obtain⟨v2,vs2,d2,ds2,p2,q2,rfl,rfl,rfl,h2,r2⟩:=trodAll_cons r1;obtain⟨rfl,rfl,rfl⟩:=trodAll_nil r2;obtain rfl:args=#[v0,v1,v2]:=by cases args;simp_all
 obtain⟨rfl,rfl⟩:=trodVars_none hV;have hLt:=UF hwt;obtain⟨L0,hL0⟩:=wY hLt;obtain⟨L1,hL1⟩:=wY hL0;obtain⟨L2,_⟩:=wY hL1;have h0k:=h0;obtain⟨f0,hf0⟩:=h0;obtain⟨a0,la0,ca0,rfl⟩:=okWide_slice underlying31 (hval 0 31 v0 rfl rfl);have ajW:=FQ underlying31 (k:=1) (by kernel_rfl) hf0 L0;obtain⟨a0',ajX,l0,ajY,hb0,_⟩:=FP underlying31 underlying5 MU hf0;obtain⟨rfl,rfl,rfl⟩:a0=a0'∧la0=l0.length∧ca0=ajX:=by simpa[Value.cells] using ajY
 have h1k:=h1;obtain⟨f1,hf1⟩:=h1;obtain⟨a1,la1,ca1,rfl⟩:=okWide_slice underlying31 (hval 1 31 v1 rfl rfl);have aoK:=FQ underlying31 (k:=1) (by kernel_rfl) hf1 L1;obtain⟨a1',aj0,l1,hcs1,hb1,_⟩:=FP underlying31 underlying5 MU hf1;obtain⟨rfl,rfl,rfl⟩:a1=a1'∧la1=l1.length∧ca1=aj0:=by simpa[Value.cells] using hcs1
 have h2k:=h2;obtain⟨f2,hf2⟩:=h2;obtain⟨a2,la2,ca2,rfl⟩:=okWide_slice underlying55 (hval 2 55 v2 rfl rfl);obtain⟨cs2,aj1,hc2⟩:=P7 hf2;have hPw:nA W:=MS Xp;clear hA0;simp only[bW] at hW';have hlt:∀x∈p0++(p1++(p2)),x.block<W.heap.size:=fun x hx=>by simpa using hW'.lt x (by simpa using hx)
 have hr:reachBytes=140737488351232:=rfl;rw[hr] at ajW;have walk:Calls prog 5 #[.slice a0 l0.length ca0,.slice a1 l1.length ca1,.slice a2 la2 ca2] W fun e w'=>e=.returned (.bool true)∧aj W w' :=
  Gu W hPw l0 l1 a0 a1 a2 ca0 _ ca1 _ ca2 _ cs2 hb0 rfl hb1 rfl (by omega) hc2 aj1
 refine walk.mono fun e W' ⟨he,hg⟩=>?_;subst he;refine⟨_,rfl,_,_,_,[],_,[],hW',trodAll_cons_mk (shut_bool underlying4 _) trodAll_mk0,(trodAll_cons_mk (Below.trod FN (by kernel_rfl) (dn (by kernel_rfl)) h0k hg (fun x hx=>hlt x (by simp[hx]))) (trodAll_cons_mk (Below.trod FN (by kernel_rfl) (dn (by kernel_rfl)) h1k hg (fun x hx=>hlt x (by simp[hx]))) (trodAll_cons_mk (Below.trod FN (by kernel_rfl) (dn (by kernel_rfl)) h2k hg (fun x hx=>hlt x (by simp[hx]))) trodAll_mk0))),rfl,hg.frame _,fun h=>by cases h⟩
theorem UH (os:Os)(H:Type)(enc:TypeId×Value->H):∃w0:World,w0.os=os ∧
 (w0.forCall (fun _ _=>0) ⟨#[],#[.slice none 0 0,.slice none 0 0,.slice none 0 0],[]⟩).variablesB Tryz.checked.prog=true ∧
 ((w0.forCall (fun _ _ => 0) ⟨#[], #[.slice none 0 0, .slice none 0 0, .slice none 0 0], []⟩).heap.toList.drop Tryz.checked.prog.globals.size).take ((begin Tryz.checked.prog (fun _ _ => 0) default).world.heap.size-Tryz.checked.prog.globals.size) =
   (begin Tryz.checked.prog (fun _ _=>0) default).world.heap.toList.drop Tryz.checked.prog.globals.size ∧
 Input.okWideB Tryz.checked.prog (w0.forCall (fun _ _=>0) ⟨#[],#[.slice none 0 0,.slice none 0 0,.slice none 0 0],[]⟩) 5 ⟨#[],#[.slice none 0 0,.slice none 0 0,.slice none 0 0],[]⟩=true ∧
 laidMet prog Rows.gateApartRow.laid (w0.forCall (fun _ _=>0) ⟨#[],#[.slice none 0 0,.slice none 0 0,.slice none 0 0],[]⟩).memory ∧
 ∃places,DataW.whole enc prog (w0.forCall (fun _ _=>0) ⟨#[],#[.slice none 0 0,.slice none 0 0,.slice none 0 0],[]⟩).memory Tryz.f5.params.toList Rows.gateApartSpec.vars false #[Value.slice none 0 0,Value.slice none 0 0,Value.slice none 0 0].toList 8=some ([.nil,.nil,.nil],[],places) :=
 ⟨{ World.holding prog os ⟨#[],#[],[]⟩ with heap:=Ym (World.holding prog os ⟨#[],#[],[]⟩).heap },rfl,by kernel_rfl,by kernel_rfl,by kernel_rfl,laidMet_of_run' 8 (by kernel_rfl) (by kernel_rfl),[],by kernel_rfl⟩
theorem lifted (os:Os)(started:os.Started)(H:Type)(enc:TypeId×Value->H)(F:Stop.Interp):
 ReturnsInHanded {} Tryz.checked os 5 .any ((OpenSpec.ofChange Rows.gateApartSpec).preRow enc prog Tryz.f5 Rows.gateApartRow.domain false Rows.gateApartRow.laid) (((OpenSpec.ofChange Rows.gateApartSpec).at F).post enc prog Tryz.f5 false true false false):=by
 obtain⟨w0,hos,hv,hr,hok,hl,places,hx⟩:=UH os H enc;refine returnsInHanded_of_row (C:=Tryz.checked) (s:=OpenSpec.ofChange Rows.gateApartSpec) own started (by kernel_rfl) func5
  (witness_row_at (enc := enc) (C := Tryz.checked) false w0 #[.slice none 0 0, .slice none 0 0, .slice none 0 0] hos hv hr hok
   (OpenSpec.preRow_of_cond 8 hx (by kernel_rfl) (fun k hk=>by cases hk) (by kernel_rfl) hl)) ?_
 intro W base args ds gs before hval hW _ _ hwt Xp _ _;exact contract H enc W base args ds gs before hval hW hwt Xp
/- what the row tells of the program, each by itself: in one piece the kernel wants more memory than it is given -/
theorem kG {a b:Bool}(ha:a=true)(hb:b=true):(a&&b)=true:=by rw[ha,hb];rfl
theorem j1:laidOutB Tryz.pinned.checked.prog=true:=by kernel_rfl
theorem j2:mapsRowed Tryz.pinned.checked.prog=true:=by kernel_rfl
theorem j9:(Rows.gateApartRow.inPlace==Tryz.pinned.checked.prog.inPlace 5)=true:=by kernel_rfl
theorem j10:(Rows.gateApartRow.unfollowed==Tryz.pinned.checked.prog.unfollowed 5)=true:=by kernel_rfl
theorem j11:(Rows.gateApartRow.recurses==Tryz.pinned.checked.prog.recurses 5)=true:=by kernel_rfl
theorem j12:(Rows.gateApartRow.named==Tryz.pinned.checked.prog.varsNamed 5)=true:=by kernel_rfl
theorem j22:(Rows.gateApartRow.plainKeys==Tryz.pinned.checked.prog.plainKeys)=true:=by kernel_rfl
theorem j24:Tryz.pinned.checked.prog.stopsHeard=true:=by kernel_rfl
theorem j25:Tryz.pinned.checked.prog.mayEnter=true:=by kernel_rfl
theorem j26:(Rows.gateApartRow.lifted==Tryz.pinned.checked.prog.liftsFinal)=true:=by kernel_rfl
theorem j27:(Tryz.pinned.checked.prog.make==some Rows.gateApartRow.make)=true:=by kernel_rfl
theorem joined:joinedFacts Tryz.pinned.checked.prog 5 Tryz.f5 (OpenSpec.ofChange Rows.gateApartSpec).bare Rows.gateApartRow=true:=by
 unfold joinedFacts;exact kG (kG (kG (kG (kG (kG (kG (kG (kG (kG (kG (kG (kG (kG (kG (kG (kG (kG (kG (kG (kG (kG (kG (kG (kG (kG (kG (kG (kG (kG (kG (by as_aux_lemma=>kernel_rfl) j1) j2) (by as_aux_lemma=>kernel_rfl)) (by as_aux_lemma=>kernel_rfl)) (by as_aux_lemma=>kernel_rfl)) (by as_aux_lemma=>kernel_rfl)) (by as_aux_lemma=>kernel_rfl)) (by as_aux_lemma=>kernel_rfl)) j9) j10) j11) j12) (by as_aux_lemma=>kernel_rfl)) (by as_aux_lemma=>kernel_rfl)) (by as_aux_lemma=>kernel_rfl)) (by as_aux_lemma=>kernel_rfl)) (by as_aux_lemma=>kernel_rfl)) (by as_aux_lemma=>kernel_rfl)) (by as_aux_lemma=>kernel_rfl)) (by as_aux_lemma=>kernel_rfl)) (by as_aux_lemma=>kernel_rfl)) j22) (by as_aux_lemma=>kernel_rfl)) j24) j25) j26) j27) (by as_aux_lemma=>kernel_rfl)) (by as_aux_lemma=>kernel_rfl)) (by as_aux_lemma=>kernel_rfl)) (by as_aux_lemma=>kernel_rfl)
theorem said:Rows.GateApartSaid :=
 OpenClaim.holds_of_cond 5 Tryz.f5 rfl rfl rfl rfl rfl rfl rfl ⟨rfl,rfl,rfl,rfl,rfl⟩ rfl rfl rfl rfl rfl (by kernel_rfl) func5 joined
  (dn (by kernel_rfl)) (by unfold Func.isWrapper;first | (rw[if_pos (by decide +kernel)];kernel_rfl) | (rw[if_neg (by decide +kernel)];exact⟨rfl,rfl⟩))
  (fun os started H enc _ F=>by rw[OpenClaim.pre_eq_preRow];exact lifted os started H enc F)
theorem plain (f:FuncId)(fn:Func)(hf:Tryz.pinned.checked.prog.funcNamed "lighterage/lighteragelaw.GateApart"=some f)(hfn:Tryz.pinned.checked.prog.funcs[f]? = some fn):
 true=Tryz.pinned.checked.prog.looks []∧∀(j:Nat) t,fn.params[j]? = some t->Tryz.pinned.checked.prog.wantsStandIn t=false:=by
 obtain rfl:f=5:=Option.some.inj ((show prog.funcNamed "lighterage/lighteragelaw.GateApart"=some 5 by kernel_rfl).symm.trans hf) |>.symm;obtain rfl:fn=Tryz.f5:=(Option.some.inj (func5.symm.trans hfn)).symm;refine⟨by kernel_rfl,fun j t ht=>?_⟩;rw[Tryz.params5] at ht;have ht':=Array.mem_of_getElem? ht;simp only[List.mem_toArray,fB,List.mem_nil_iff,or_false] at ht';rcases ht' with rfl | rfl | rfl
 . exact(show prog.wantsStandIn 31=false by kernel_rfl)
 . exact(show prog.wantsStandIn 31=false by kernel_rfl)
 . exact(show prog.wantsStandIn 55=false by kernel_rfl)
end Go.Proofs.YtjmndjmhjleabaaGreatDoor.gateApart
namespace Go.Proofs.YtjmndjmhjleabaaGreatDoor
open Go
theorem gateApart_card:Rows.GateApartCardSaid :=
 Claim7.holds_tied_plain_at .later [] _ _ _ _ gateApart.said (fun _ h=>by cases h) (by kernel_rfl) (fun _ h=>by cases h) gateApart_row_tie rfl ⟨rfl,rfl⟩ (by kernel_rfl) rfl gateApart.plain (by kernel_rfl)
end Go.Proofs.YtjmndjmhjleabaaGreatDoor