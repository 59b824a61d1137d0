/- THE CARD OF PortAgain: for all steps and numbers, to crash again changes nothing, and behind a crash all connections are new; no argument turns; the tables of math/bits, internal/strconv and unicode/utf8 start as the text of the program lays them. -/
import Derived.Test.YthhklgjjnaeaoaaGreatDoorCards
import Derived.Test.YthhklgjjnaeaoaaGreatDoorTie
import Derived.Test.YthhklgjjnaeaoaaGreatDoorPk50
import Derived.Test.YthhklgjjnaeaoaaGreatDoorPk48
import Derived.Deep.DeepHandedRow
open Option renaming some->M
open Bool renaming false->F
set_option maxRecDepth 100000
open Go.Proofs.Tryz
namespace Go.Proofs.YthhklgjjnaeaoaaGreatDoor.portAgain
open Go.ChangeShapes Go.WideShapes Go.ChangeAt Go.RowKit
theorem own:ownKnob prog.godebug=none:=by kernel_rfl
theorem contract (H:Type)(enc:TypeId×Value->H)(W:World)(i:Nat)(args:Array Value)(u gs:List (DataW H))(b:List MemPlace)
 (a:∀(j:Nat) t v,Tryz.f7.params[j]? = M t->args[j]? = M v->Value.okWide prog W .any i t v)
 (hW:DataW.Whole enc prog Tryz.f7.params.toList Rows.portAgainSpec.vars F W args.toList u gs b)
 (c:(DataW.weightsEach prog (Tryz.f7.params.toList++(OpenSpec.ofChange Rows.portAgainSpec).bare.plain.varTypes prog) (u++gs)).all (·<=reachBytes)=true)
 (ZC:laidMetH prog Rows.portAgainRow.laid W) :
 Calls prog 7 args W fun e W'=>∃v,e=.returned v∧Rows.portAgainSpec.post enc prog Tryz.f7 F true F F W args v W':=by
 have d:=hW;obtain⟨p,q,l,hV,rfl,hfz,hnd⟩:=hW;have hA:DataW.TrodAll enc prog W 0 (fun _=>true) true Tryz.f7.params.toList args.toList u p:=l;have w:(OpenSpec.ofChange Rows.portAgainSpec).bare.plain.varTypes prog=[]:=by kernel_rfl
 rw[w,bU] at c;rw[Tryz.params7] at hA a c;obtain⟨v0,vs0,d0,ds0,p0,q0,y,rfl,rfl,h0,r0⟩:=trodAll_cons hA;obtain⟨z,vs1,d1,ds1,p1,q1,rfl,rfl,rfl,h1,r1⟩:=trodAll_cons r0;obtain⟨B,vs2,d2,ds2,p2,q2,rfl,rfl,rfl,h2,r2⟩:=trodAll_cons r1;obtain⟨rfl,rfl,rfl⟩:=trodAll_nil r2;obtain rfl:args=#[v0,z,B]:=by cases args;simp_all
 obtain⟨rfl,rfl⟩:=trodVars_none hV;have C:=Uq c;obtain⟨L0,D⟩:=wD C;obtain⟨L1,G⟩:=wD D;obtain⟨L2,_⟩:=wD G;have L:=h0;obtain⟨f0,m⟩:=h0;obtain⟨a0,n,o,rfl⟩:=okWide_slice underlying62 (a 0 62 v0 rfl rfl);have N:StepT prog 62 73 3 31 5:=⟨underlying62,⟨_,_,_,_,underlying73,rfl,rfl,rfl,rfl,rfl,rfl,rfl,rfl⟩,underlying3,underlying31,underlying5,by kernel_rfl,by kernel_rfl,by kernel_rfl,by kernel_rfl,by kernel_rfl⟩;obtain⟨l0,S,T,z0⟩:=Mr N m L0;have ahN:=PE underlying62 (k:=48) (by kernel_rfl) m L0;have h1k:=h1;obtain⟨f1,hf1⟩:=h1;obtain⟨i1,e1,_,_⟩:=DataW.trod_int underlying3 hf1;obtain rfl:z=.int .i64 i1:=by
  obtain⟨i',rfl⟩:=okWide_int underlying3 (a 1 3 z rfl rfl);simpa[Value.cells] using e1
 have h2k:=h2;obtain⟨f2,hf2⟩:=h2;obtain⟨i2,e2,_,_⟩:=DataW.trod_int underlying3 hf2;obtain rfl:B=.int .i64 i2:=by
  obtain⟨i',rfl⟩:=okWide_int underlying3 (a 2 3 B rfl rfl);simpa[Value.cells] using e2
 have hPw:kC W:=Ms ZC;clear l;simp only[bU] at d;have f:∀x∈p0++(p1++(p2)),x.block<W.heap.size:=fun x g=>by simpa using d.lt x (by simpa using g)
 have hr:reachBytes=140737488351232:=rfl;rw[hr] at ahN;have r:Calls prog 7 #[.slice a0 n o,.int .i64 i1,.int .i64 i2] W fun e w'=>e=.returned (.bool true)∧Below W.heap.size W w' :=
  FK W hPw l0 a0 o n i1 i2 T S (fun q hq=>by have h:=z0 q hq;rw[hr] at h;omega) (by omega)
 refine r.mono fun e W' ⟨he,s⟩=>?_;subst he;refine⟨_,rfl,_,_,_,[],_,[],d,trodAll_cons_mk (shut_bool underlying4 _) trodAll_mk0,(trodAll_cons_mk (Below.trod EP (by kernel_rfl) (cZ (by kernel_rfl)) L s (fun x g=>f x (by simp[g]))) (trodAll_cons_mk (Below.trod EP (by kernel_rfl) (cZ (by kernel_rfl)) h1k s (fun x g=>f x (by simp[g]))) (trodAll_cons_mk (Below.trod EP (by kernel_rfl) (cZ (by kernel_rfl)) h2k s (fun x g=>f x (by simp[g]))) trodAll_mk0))),rfl,s.frame _,fun h=>by cases h⟩
theorem Uu (os:Os)(H:Type)(enc:TypeId×Value->H):∃w0:World,w0.os=os ∧
 (w0.forCall (fun _ _=>0) ⟨#[],#[.slice none 0 0,.int .i64 0,.int .i64 0],[]⟩).variablesB Tryz.checked.prog=true ∧
 ((w0.forCall (fun _ _ => 0) ⟨#[], #[.slice none 0 0, .int .i64 0, .int .i64 0], []⟩).heap.toList.drop Tryz.checked.prog.globals.size).take ((begin Tryz.checked.prog (fun _ _ => 0) default).world.heap.size-Tryz.checked.prog.globals.size) =
   (begin Tryz.checked.prog (fun _ _=>0) default).world.heap.toList.drop Tryz.checked.prog.globals.size ∧
 Input.okWideB Tryz.checked.prog (w0.forCall (fun _ _=>0) ⟨#[],#[.slice none 0 0,.int .i64 0,.int .i64 0],[]⟩) 7 ⟨#[],#[.slice none 0 0,.int .i64 0,.int .i64 0],[]⟩=true ∧
 laidMet prog Rows.portAgainRow.laid (w0.forCall (fun _ _=>0) ⟨#[],#[.slice none 0 0,.int .i64 0,.int .i64 0],[]⟩).memory ∧
 ∃places,DataW.whole enc prog (w0.forCall (fun _ _=>0) ⟨#[],#[.slice none 0 0,.int .i64 0,.int .i64 0],[]⟩).memory Tryz.f7.params.toList Rows.portAgainSpec.vars false #[Value.slice none 0 0,Value.int .i64 0,Value.int .i64 0].toList 8=some ([.nil,.lit (.int .i64 0),.lit (.int .i64 0)],[],places) :=
 ⟨{ World.holding prog os ⟨#[],#[],[]⟩ with heap:=Yn (World.holding prog os ⟨#[],#[],[]⟩).heap },rfl,by kernel_rfl,by kernel_rfl,by kernel_rfl,laidMet_of_run' 8 (by kernel_rfl) (by kernel_rfl),[],by kernel_rfl⟩
theorem lifted (os:Os)(started:os.Started)(H:Type)(enc:TypeId×Value->H)(Pe:Stop.Interp):
 ReturnsInHanded {} Tryz.checked os 7 .any ((OpenSpec.ofChange Rows.portAgainSpec).preRow enc prog Tryz.f7 Rows.portAgainRow.domain false Rows.portAgainRow.laid) (((OpenSpec.ofChange Rows.portAgainSpec).at Pe).post enc prog Tryz.f7 false true false false):=by
 obtain⟨w0,hos,hv,hr,hok,hl,places,hx⟩:=Uu os H enc;refine returnsInHanded_of_row (C:=Tryz.checked) (s:=OpenSpec.ofChange Rows.portAgainSpec) own started (by kernel_rfl) func7
  (witness_row_at (enc := enc) (C := Tryz.checked) false w0 #[.slice none 0 0, .int .i64 0, .int .i64 0] hos hv hr hok
   (OpenSpec.preRow_of_cond 8 hx (by kernel_rfl) (fun k hk=>by cases hk) (by kernel_rfl) hl)) ?_
 intro W base args ds gs before hval hW _ _ hwt ZC _ _;exact contract H enc W base args ds gs before hval hW hwt ZC
/- what the row tells of the program, each by itself: in one piece the kernel wants more memory than it is given -/
theorem jX {a b:Bool}(ha:a=true)(c:b=true):(a&&b)=true:=by rw[ha,c];rfl
theorem j1:laidOutB Tryz.pinned.checked.prog=true:=by kernel_rfl
theorem j2:mapsRowed Tryz.pinned.checked.prog=true:=by kernel_rfl
theorem j9:(Rows.portAgainRow.inPlace==Tryz.pinned.checked.prog.inPlace 7)=true:=by kernel_rfl
theorem j10:(Rows.portAgainRow.unfollowed==Tryz.pinned.checked.prog.unfollowed 7)=true:=by kernel_rfl
theorem j11:(Rows.portAgainRow.recurses==Tryz.pinned.checked.prog.recurses 7)=true:=by kernel_rfl
theorem j12:(Rows.portAgainRow.named==Tryz.pinned.checked.prog.varsNamed 7)=true:=by kernel_rfl
theorem j22:(Rows.portAgainRow.plainKeys==Tryz.pinned.checked.prog.plainKeys)=true:=by kernel_rfl
theorem j24:Tryz.pinned.checked.prog.stopsHeard=true:=by kernel_rfl
theorem j25:Tryz.pinned.checked.prog.mayEnter=true:=by kernel_rfl
theorem j26:(Rows.portAgainRow.lifted==Tryz.pinned.checked.prog.liftsFinal)=true:=by kernel_rfl
theorem j27:(Tryz.pinned.checked.prog.make==M Rows.portAgainRow.make)=true:=by kernel_rfl
theorem joined:joinedFacts Tryz.pinned.checked.prog 7 Tryz.f7 (OpenSpec.ofChange Rows.portAgainSpec).bare Rows.portAgainRow=true:=by
 unfold joinedFacts;exact jX (jX (jX (jX (jX (jX (jX (jX (jX (jX (jX (jX (jX (jX (jX (jX (jX (jX (jX (jX (jX (jX (jX (jX (jX (jX (jX (jX (jX (jX (jX (by as_aux_lemma=>kernel_rfl) j1) j2) (by as_aux_lemma=>kernel_rfl)) (by as_aux_lemma=>kernel_rfl)) (by as_aux_lemma=>kernel_rfl)) (by as_aux_lemma=>kernel_rfl)) (by as_aux_lemma=>kernel_rfl)) (by as_aux_lemma=>kernel_rfl)) j9) j10) j11) j12) (by as_aux_lemma=>kernel_rfl)) (by as_aux_lemma=>kernel_rfl)) (by as_aux_lemma=>kernel_rfl)) (by as_aux_lemma=>kernel_rfl)) (by as_aux_lemma=>kernel_rfl)) (by as_aux_lemma=>kernel_rfl)) (by as_aux_lemma=>kernel_rfl)) (by as_aux_lemma=>kernel_rfl)) (by as_aux_lemma=>kernel_rfl)) j22) (by as_aux_lemma=>kernel_rfl)) j24) j25) j26) j27) (by as_aux_lemma=>kernel_rfl)) (by as_aux_lemma=>kernel_rfl)) (by as_aux_lemma=>kernel_rfl)) (by as_aux_lemma=>kernel_rfl)
theorem said:Rows.PortAgainSaid :=
 OpenClaim.holds_of_cond 7 Tryz.f7 rfl rfl rfl rfl rfl rfl rfl ⟨rfl,rfl,rfl,rfl,rfl⟩ rfl rfl rfl rfl rfl (by kernel_rfl) func7 joined
  (cZ (by kernel_rfl)) (by unfold Func.isWrapper;first | (rw[if_pos (by decide +kernel)];kernel_rfl) | (rw[if_neg (by decide +kernel)];exact⟨rfl,rfl⟩))
  (fun b a H enc _ c=>by rw[OpenClaim.pre_eq_preRow];exact lifted b a H enc c)
theorem plain (f:FuncId)(b:Func)(e:Tryz.pinned.checked.prog.funcNamed "lighterage/lighteragelaw.PortAgain"=M f)(c:Tryz.pinned.checked.prog.funcs[f]? = M b):
 true=Tryz.pinned.checked.prog.looks []∧∀(j:Nat) t,b.params[j]? = M t->Tryz.pinned.checked.prog.wantsStandIn t=F:=by
 obtain rfl:f=7:=Option.some.inj ((show prog.funcNamed "lighterage/lighteragelaw.PortAgain"=M 7 by kernel_rfl).symm.trans e) |>.symm;obtain rfl:b=Tryz.f7:=(Option.some.inj (func7.symm.trans c)).symm;refine⟨by kernel_rfl,fun j t d=>?_⟩;rw[Tryz.params7] at d;have a:=Array.mem_of_getElem? d;simp only[List.mem_toArray,dZ,List.mem_nil_iff,or_false] at a;rcases a with rfl | rfl | rfl
 . exact(show prog.wantsStandIn 62=F by kernel_rfl)
 . exact(show prog.wantsStandIn 3=F by kernel_rfl)
 . exact(show prog.wantsStandIn 3=F by kernel_rfl)
end Go.Proofs.YthhklgjjnaeaoaaGreatDoor.portAgain
namespace Go.Proofs.YthhklgjjnaeaoaaGreatDoor
open Go
theorem portAgain_card:Rows.PortAgainCardSaid :=
 Claim7.holds_tied_plain_at .later [] _ _ _ _ portAgain.said (fun _ h=>by cases h) (by kernel_rfl) (fun _ h=>by cases h) portAgain_row_tie rfl ⟨rfl,rfl⟩ (by kernel_rfl) rfl portAgain.plain (by kernel_rfl)
end Go.Proofs.YthhklgjjnaeaoaaGreatDoor