/- THE CARD OF PortKeeps: for all steps and numbers, behind a crash each upload that was there when the last answer was given, or the last one was sent, is there as it was, and no other one, but those that came of connections that were gone since; no argument turns; the tables of math/bits, internal/strconv and unicode/utf8 start as the text of the program lays them. -/
import Derived.Test.YthhklgjjnaeaoaaGreatDoorCards
import Derived.Test.YthhklgjjnaeaoaaGreatDoorTie
import Derived.Test.YthhklgjjnaeaoaaGreatDoorPk50
import Derived.Test.YthhklgjjnaeaoaaGreatDoorPk48
import Derived.Deep.DeepHandedRow
open Option renaming some->M
open Bool renaming false->F
set_option maxRecDepth 100000
open Go.Proofs.Tryz
namespace Go.Proofs.YthhklgjjnaeaoaaGreatDoor.portKeeps
open Go.ChangeShapes Go.WideShapes Go.ChangeAt Go.RowKit
theorem own:ownKnob prog.godebug=none:=by kernel_rfl
theorem contract (H:Type)(enc:TypeId×Value->H)(W:World)(f:Nat)(args:Array Value)(s gs:List (DataW H))(b:List MemPlace)
 (a:∀(j:Nat) t v,Tryz.f6.params[j]? = M t->args[j]? = M v->Value.okWide prog W .any f t v)
 (hW:DataW.Whole enc prog Tryz.f6.params.toList Rows.portKeepsSpec.vars F W args.toList s gs b)
 (c:(DataW.weightsEach prog (Tryz.f6.params.toList++(OpenSpec.ofChange Rows.portKeepsSpec).bare.plain.varTypes prog) (s++gs)).all (·<=reachBytes)=true)
 (ZC:laidMetH prog Rows.portKeepsRow.laid W) :
 Calls prog 6 args W fun e W'=>∃v,e=.returned v∧Rows.portKeepsSpec.post enc prog Tryz.f6 F true F F W args v W':=by
 have d:=hW;obtain⟨p,q,g,hV,rfl,hfz,hnd⟩:=hW;have hA:DataW.TrodAll enc prog W 0 (fun _=>true) true Tryz.f6.params.toList args.toList s p:=g;have u:(OpenSpec.ofChange Rows.portKeepsSpec).bare.plain.varTypes prog=[]:=by kernel_rfl
 rw[u,bU] at c;rw[Tryz.params6] at hA a c;obtain⟨v0,vs0,d0,ds0,p0,q0,w,rfl,rfl,h0,r0⟩:=trodAll_cons hA;obtain⟨y,vs1,d1,ds1,p1,q1,rfl,rfl,rfl,h1,r1⟩:=trodAll_cons r0;obtain⟨rfl,rfl,rfl⟩:=trodAll_nil r1;obtain rfl:args=#[v0,y]:=by cases args;simp_all
 obtain⟨rfl,rfl⟩:=trodVars_none hV;have z:=Us c;obtain⟨L0,B⟩:=BM z;obtain⟨L1,_⟩:=BM B;have C:=h0;obtain⟨f0,i⟩:=h0;obtain⟨a0,l,m,rfl⟩:=okWide_slice underlying62 (a 0 62 v0 rfl rfl);have D:StepT prog 62 73 3 31 5:=⟨underlying62,⟨_,_,_,_,underlying73,rfl,rfl,rfl,rfl,rfl,rfl,rfl,rfl⟩,underlying3,underlying31,underlying5,by kernel_rfl,by kernel_rfl,by kernel_rfl,by kernel_rfl,by kernel_rfl⟩;obtain⟨l0,G,L,z0⟩:=Mv D i L0;have N:=PG underlying62 (k:=48) (by kernel_rfl) i L0;have S:=h1;obtain⟨f1,T⟩:=h1;obtain⟨i1,e1,_,_⟩:=DataW.trod_int underlying3 T;obtain rfl:y=.int .i64 i1:=by
  obtain⟨i',rfl⟩:=okWide_int underlying3 (a 1 3 y rfl rfl);simpa[Value.cells] using e1
 have hPw:kD W:=Mw ZC;clear g;simp only[bU] at d;have n:∀x∈p0++p1,x.block<W.heap.size:=fun x o=>by simpa using d.lt x (by simpa using o)
 have hr:reachBytes=140737488351232:=rfl;rw[hr] at N;have r:Calls prog 6 #[.slice a0 l m,.int .i64 i1] W fun e w'=>e=.returned (.bool true)∧Below W.heap.size W w' :=
  FJ W hPw l0 a0 m l i1 L G (fun q hq=>by have h:=z0 q hq;rw[hr] at h;omega) (by omega)
 refine r.mono fun e W' ⟨he,hg⟩=>?_;subst he;refine⟨_,rfl,_,_,_,[],_,[],d,trodAll_cons_mk (shut_bool underlying4 _) trodAll_mk0,(trodAll_cons_mk (Below.trod Mt (by kernel_rfl) (cZ (by kernel_rfl)) C hg (fun x o=>n x (by simp[o]))) (trodAll_cons_mk (Below.trod Mt (by kernel_rfl) (cZ (by kernel_rfl)) S hg (fun x o=>n x (by simp[o]))) trodAll_mk0)),rfl,hg.frame _,fun h=>by cases h⟩
theorem Uw (os:Os)(H:Type)(enc:TypeId×Value->H):∃w0:World,w0.os=os ∧
 (w0.forCall (fun _ _=>0) ⟨#[],#[.slice none 0 0,.int .i64 0],[]⟩).variablesB Tryz.checked.prog=true ∧
 ((w0.forCall (fun _ _ => 0) ⟨#[], #[.slice none 0 0, .int .i64 0], []⟩).heap.toList.drop Tryz.checked.prog.globals.size).take ((begin Tryz.checked.prog (fun _ _ => 0) default).world.heap.size-Tryz.checked.prog.globals.size) =
   (begin Tryz.checked.prog (fun _ _=>0) default).world.heap.toList.drop Tryz.checked.prog.globals.size ∧
 Input.okWideB Tryz.checked.prog (w0.forCall (fun _ _=>0) ⟨#[],#[.slice none 0 0,.int .i64 0],[]⟩) 6 ⟨#[],#[.slice none 0 0,.int .i64 0],[]⟩=true ∧
 laidMet prog Rows.portKeepsRow.laid (w0.forCall (fun _ _=>0) ⟨#[],#[.slice none 0 0,.int .i64 0],[]⟩).memory ∧
 ∃places,DataW.whole enc prog (w0.forCall (fun _ _=>0) ⟨#[],#[.slice none 0 0,.int .i64 0],[]⟩).memory Tryz.f6.params.toList Rows.portKeepsSpec.vars false #[Value.slice none 0 0,Value.int .i64 0].toList 8=some ([.nil,.lit (.int .i64 0)],[],places) :=
 ⟨{ World.holding prog os ⟨#[],#[],[]⟩ with heap:=Yl (World.holding prog os ⟨#[],#[],[]⟩).heap },rfl,by kernel_rfl,by kernel_rfl,by kernel_rfl,laidMet_of_run' 8 (by kernel_rfl) (by kernel_rfl),[],by kernel_rfl⟩
theorem lifted (os:Os)(started:os.Started)(H:Type)(enc:TypeId×Value->H)(Pe:Stop.Interp):
 ReturnsInHanded {} Tryz.checked os 6 .any ((OpenSpec.ofChange Rows.portKeepsSpec).preRow enc prog Tryz.f6 Rows.portKeepsRow.domain false Rows.portKeepsRow.laid) (((OpenSpec.ofChange Rows.portKeepsSpec).at Pe).post enc prog Tryz.f6 false true false false):=by
 obtain⟨w0,hos,hv,hr,hok,hl,places,hx⟩:=Uw os H enc;refine returnsInHanded_of_row (C:=Tryz.checked) (s:=OpenSpec.ofChange Rows.portKeepsSpec) own started (by kernel_rfl) func6
  (witness_row_at (enc := enc) (C := Tryz.checked) false w0 #[.slice none 0 0, .int .i64 0] hos hv hr hok
   (OpenSpec.preRow_of_cond 8 hx (by kernel_rfl) (fun k hk=>by cases hk) (by kernel_rfl) hl)) ?_
 intro W base args ds gs before hval hW _ _ hwt ZC _ _;exact contract H enc W base args ds gs before hval hW hwt ZC
/- what the row tells of the program, each by itself: in one piece the kernel wants more memory than it is given -/
theorem jY {a b:Bool}(ha:a=true)(c:b=true):(a&&b)=true:=by rw[ha,c];rfl
theorem j1:laidOutB Tryz.pinned.checked.prog=true:=by kernel_rfl
theorem j2:mapsRowed Tryz.pinned.checked.prog=true:=by kernel_rfl
theorem j9:(Rows.portKeepsRow.inPlace==Tryz.pinned.checked.prog.inPlace 6)=true:=by kernel_rfl
theorem j10:(Rows.portKeepsRow.unfollowed==Tryz.pinned.checked.prog.unfollowed 6)=true:=by kernel_rfl
theorem j11:(Rows.portKeepsRow.recurses==Tryz.pinned.checked.prog.recurses 6)=true:=by kernel_rfl
theorem j12:(Rows.portKeepsRow.named==Tryz.pinned.checked.prog.varsNamed 6)=true:=by kernel_rfl
theorem j22:(Rows.portKeepsRow.plainKeys==Tryz.pinned.checked.prog.plainKeys)=true:=by kernel_rfl
theorem j24:Tryz.pinned.checked.prog.stopsHeard=true:=by kernel_rfl
theorem j25:Tryz.pinned.checked.prog.mayEnter=true:=by kernel_rfl
theorem j26:(Rows.portKeepsRow.lifted==Tryz.pinned.checked.prog.liftsFinal)=true:=by kernel_rfl
theorem j27:(Tryz.pinned.checked.prog.make==M Rows.portKeepsRow.make)=true:=by kernel_rfl
theorem joined:joinedFacts Tryz.pinned.checked.prog 6 Tryz.f6 (OpenSpec.ofChange Rows.portKeepsSpec).bare Rows.portKeepsRow=true:=by
 unfold joinedFacts;exact jY (jY (jY (jY (jY (jY (jY (jY (jY (jY (jY (jY (jY (jY (jY (jY (jY (jY (jY (jY (jY (jY (jY (jY (jY (jY (jY (jY (jY (jY (jY (by as_aux_lemma=>kernel_rfl) j1) j2) (by as_aux_lemma=>kernel_rfl)) (by as_aux_lemma=>kernel_rfl)) (by as_aux_lemma=>kernel_rfl)) (by as_aux_lemma=>kernel_rfl)) (by as_aux_lemma=>kernel_rfl)) (by as_aux_lemma=>kernel_rfl)) j9) j10) j11) j12) (by as_aux_lemma=>kernel_rfl)) (by as_aux_lemma=>kernel_rfl)) (by as_aux_lemma=>kernel_rfl)) (by as_aux_lemma=>kernel_rfl)) (by as_aux_lemma=>kernel_rfl)) (by as_aux_lemma=>kernel_rfl)) (by as_aux_lemma=>kernel_rfl)) (by as_aux_lemma=>kernel_rfl)) (by as_aux_lemma=>kernel_rfl)) j22) (by as_aux_lemma=>kernel_rfl)) j24) j25) j26) j27) (by as_aux_lemma=>kernel_rfl)) (by as_aux_lemma=>kernel_rfl)) (by as_aux_lemma=>kernel_rfl)) (by as_aux_lemma=>kernel_rfl)
theorem said:Rows.PortKeepsSaid :=
 OpenClaim.holds_of_cond 6 Tryz.f6 rfl rfl rfl rfl rfl rfl rfl ⟨rfl,rfl,rfl,rfl,rfl⟩ rfl rfl rfl rfl rfl (by kernel_rfl) func6 joined
  (cZ (by kernel_rfl)) (by unfold Func.isWrapper;first | (rw[if_pos (by decide +kernel)];kernel_rfl) | (rw[if_neg (by decide +kernel)];exact⟨rfl,rfl⟩))
  (fun b a H enc _ c=>by rw[OpenClaim.pre_eq_preRow];exact lifted b a H enc c)
theorem plain (f:FuncId)(b:Func)(e:Tryz.pinned.checked.prog.funcNamed "lighterage/lighteragelaw.PortKeeps"=M f)(c:Tryz.pinned.checked.prog.funcs[f]? = M b):
 true=Tryz.pinned.checked.prog.looks []∧∀(j:Nat) t,b.params[j]? = M t->Tryz.pinned.checked.prog.wantsStandIn t=F:=by
 obtain rfl:f=6:=Option.some.inj ((show prog.funcNamed "lighterage/lighteragelaw.PortKeeps"=M 6 by kernel_rfl).symm.trans e) |>.symm;obtain rfl:b=Tryz.f6:=(Option.some.inj (func6.symm.trans c)).symm;refine⟨by kernel_rfl,fun j t d=>?_⟩;rw[Tryz.params6] at d;have a:=Array.mem_of_getElem? d;simp only[List.mem_toArray,dZ,List.mem_nil_iff,or_false] at a;rcases a with rfl | rfl
 . exact(show prog.wantsStandIn 62=F by kernel_rfl)
 . exact(show prog.wantsStandIn 3=F by kernel_rfl)
end Go.Proofs.YthhklgjjnaeaoaaGreatDoor.portKeeps
namespace Go.Proofs.YthhklgjjnaeaoaaGreatDoor
open Go
theorem portKeeps_card:Rows.PortKeepsCardSaid :=
 Claim7.holds_tied_plain_at .later [] _ _ _ _ portKeeps.said (fun _ h=>by cases h) (by kernel_rfl) (fun _ h=>by cases h) portKeeps_row_tie rfl ⟨rfl,rfl⟩ (by kernel_rfl) rfl portKeeps.plain (by kernel_rfl)
end Go.Proofs.YthhklgjjnaeaoaaGreatDoor