/- THE CARD OF PortOnce: for all steps, no upload is begun to be sent on twice, whatever crashes come; what is sent on is one request, with just the bytes that the upload had, all of them; no argument turns; the tables of math/bits, internal/strconv and unicode/utf8 start as the text of the program lays them. -/
import Derived.Test.YtmbghcpcbdjfoaaGreatDoorCards
import Derived.Test.YtmbghcpcbdjfoaaGreatDoorTie
import Derived.Test.YtmbghcpcbdjfoaaGreatDoorPoLwO
import Derived.Test.YtmbghcpcbdjfoaaGreatDoorPk38
import Derived.Deep.DeepHandedRow
open Option renaming some->M
open Bool renaming false->F
set_option maxRecDepth 100000
open Go.Proofs.Tryz
namespace Go.Proofs.YtmbghcpcbdjfoaaGreatDoor
open Go.ChangeShapes Go.WideShapes Go.ChangeAt Go.RowKit
theorem Va:ownKnob prog.godebug=none:=by kernel_rfl
theorem UW (H:Type)(enc:TypeId×Value->H)(W:World)(f:Nat)(args:Array Value)(o gs:List (DataW H))(a:List MemPlace)
 (b:∀(j:Nat) t v,Tryz.f5.params[j]? = M t->args[j]? = M v->Value.okWide prog W .any f t v)
 (S:DataW.Whole enc prog Tryz.f5.params.toList Rows.portOnceSpec.vars F W args.toList o gs a)
 (c:(DataW.weightsEach prog (Tryz.f5.params.toList++(OpenSpec.ofChange Rows.portOnceSpec).bare.plain.varTypes prog) (o++gs)).all (·<=reachBytes)=true)
 (r:laidMetH prog Rows.portOnceRow.laid W) :
 Calls prog 5 args W fun e W'=>∃v,e=.returned v∧Rows.portOnceSpec.post enc prog Tryz.f5 F true F F W args v W':=by
 have d:=S;obtain⟨p,q,g,hV,rfl,hfz,hnd⟩:=S;have T:DataW.TrodAll enc prog W 0 (fun _=>true) true Tryz.f5.params.toList args.toList o p:=g;have s:(OpenSpec.ofChange Rows.portOnceSpec).bare.plain.varTypes prog=[]:=by kernel_rfl
 rw[s,eN] at c;rw[Tryz.params5] at T b c;obtain⟨v0,vs0,d0,ds0,p0,q0,u,rfl,rfl,h0,r0⟩:=trodAll_cons T;obtain⟨rfl,rfl,rfl⟩:=trodAll_nil r0;obtain rfl:args=#[v0]:=by cases args;simp_all
 obtain⟨rfl,rfl⟩:=trodVars_none hV;have w:=SB c;obtain⟨L0,_⟩:=Ni w;have y:=h0;obtain⟨f0,i⟩:=h0;obtain⟨a0,l,m,rfl⟩:=okWide_slice underlying62 (b 0 62 v0 rfl rfl);have z:BZ prog 62 73 3 31 5:=⟨underlying62,⟨_,_,_,_,underlying73,rfl,rfl,rfl,rfl,rfl,rfl,rfl,rfl⟩,underlying3,underlying31,underlying5,by kernel_rfl,by kernel_rfl,by kernel_rfl,by kernel_rfl,by kernel_rfl⟩;obtain⟨l0,B,C,z0⟩:=Nj z i L0;have D:=Qa underlying62 (k:=48) (by kernel_rfl) i L0;have G:fu W:=Nk r;clear g;simp only[eN] at d;have L:∀x∈p0,x.block<W.heap.size:=fun x N=>by simpa using d.lt x (by simpa using N)
 have hr:reachBytes=140737488351232:=rfl;rw[hr] at D;have n:Calls prog 5 #[.slice a0 l m] W fun e w'=>e=.returned (.bool true)∧Below W.heap.size W w' :=
  MC W G l0 a0 m l C B (fun q hq=>by have h:=z0 q hq;rw[hr] at h;omega) (by omega)
 refine n.mono fun e W' ⟨he,hg⟩=>?_;subst he;refine⟨_,rfl,_,_,_,[],_,[],d,trodAll_cons_mk (shut_bool underlying4 _) trodAll_mk0,(trodAll_cons_mk (Below.trod TD (by kernel_rfl) (tG (by kernel_rfl)) y hg (fun x N=>L x (by simp[N]))) trodAll_mk0),rfl,hg.frame _,fun h=>by cases h⟩
theorem UV (os:Os)(H:Type)(enc:TypeId×Value->H):∃w0:World,w0.os=os ∧
 (w0.forCall (fun _ _=>0) ⟨#[],#[.slice none 0 0],[]⟩).variablesB Tryz.checked.prog=true ∧
 ((w0.forCall (fun _ _ => 0) ⟨#[], #[.slice none 0 0], []⟩).heap.toList.drop Tryz.checked.prog.globals.size).take ((begin Tryz.checked.prog (fun _ _ => 0) default).world.heap.size-Tryz.checked.prog.globals.size) =
   (begin Tryz.checked.prog (fun _ _=>0) default).world.heap.toList.drop Tryz.checked.prog.globals.size ∧
 Input.okWideB Tryz.checked.prog (w0.forCall (fun _ _=>0) ⟨#[],#[.slice none 0 0],[]⟩) 5 ⟨#[],#[.slice none 0 0],[]⟩=true ∧
 laidMet prog Rows.portOnceRow.laid (w0.forCall (fun _ _=>0) ⟨#[],#[.slice none 0 0],[]⟩).memory ∧
 ∃places,DataW.whole enc prog (w0.forCall (fun _ _=>0) ⟨#[],#[.slice none 0 0],[]⟩).memory Tryz.f5.params.toList Rows.portOnceSpec.vars false #[Value.slice none 0 0].toList 8=some ([.nil],[],places) :=
 ⟨{ World.holding prog os ⟨#[],#[],[]⟩ with heap:=TE (World.holding prog os ⟨#[],#[],[]⟩).heap },rfl,by kernel_rfl,by kernel_rfl,by kernel_rfl,laidMet_of_run' 8 (by kernel_rfl) (by kernel_rfl),[],by kernel_rfl⟩
theorem U9 (os:Os)(started:os.Started)(H:Type)(enc:TypeId×Value->H)(Pe:Stop.Interp):
 ReturnsInHanded {} Tryz.checked os 5 .any ((OpenSpec.ofChange Rows.portOnceSpec).preRow enc prog Tryz.f5 Rows.portOnceRow.domain false Rows.portOnceRow.laid) (((OpenSpec.ofChange Rows.portOnceSpec).at Pe).post enc prog Tryz.f5 false true false false):=by
 obtain⟨w0,hos,hv,hr,hok,hl,places,hx⟩:=UV os H enc;refine returnsInHanded_of_row (C:=Tryz.checked) (s:=OpenSpec.ofChange Rows.portOnceSpec) Va started (by kernel_rfl) func5
  (witness_row_at (enc := enc) (C := Tryz.checked) false w0 #[.slice none 0 0] hos hv hr hok
   (OpenSpec.preRow_of_cond 8 hx (by kernel_rfl) (fun k hk=>by cases hk) (by kernel_rfl) hl)) ?_
 intro W base args ds gs before hval hW _ _ hwt hLd _ _;exact UW H enc W base args ds gs before hval hW hwt hLd
/- what the row tells of the program, each by itself: in one piece the kernel wants more memory than it is given -/
theorem eG {a b:Bool}(ha:a=true)(c:b=true):(a&&b)=true:=by rw[ha,c];rfl
theorem UX:laidOutB Tryz.pinned.checked.prog=true:=by kernel_rfl
theorem U1:mapsRowed Tryz.pinned.checked.prog=true:=by kernel_rfl
theorem U7:(Rows.portOnceRow.inPlace==Tryz.pinned.checked.prog.inPlace 5)=true:=by kernel_rfl
theorem UY:(Rows.portOnceRow.unfollowed==Tryz.pinned.checked.prog.unfollowed 5)=true:=by kernel_rfl
theorem UZ:(Rows.portOnceRow.recurses==Tryz.pinned.checked.prog.recurses 5)=true:=by kernel_rfl
theorem U0:(Rows.portOnceRow.named==Tryz.pinned.checked.prog.varsNamed 5)=true:=by kernel_rfl
theorem U2:(Rows.portOnceRow.plainKeys==Tryz.pinned.checked.prog.plainKeys)=true:=by kernel_rfl
theorem U3:Tryz.pinned.checked.prog.stopsHeard=true:=by kernel_rfl
theorem U4:Tryz.pinned.checked.prog.mayEnter=true:=by kernel_rfl
theorem U5:(Rows.portOnceRow.lifted==Tryz.pinned.checked.prog.liftsFinal)=true:=by kernel_rfl
theorem U6:(Tryz.pinned.checked.prog.make==M Rows.portOnceRow.make)=true:=by kernel_rfl
theorem U8:joinedFacts Tryz.pinned.checked.prog 5 Tryz.f5 (OpenSpec.ofChange Rows.portOnceSpec).bare Rows.portOnceRow=true:=by
 unfold joinedFacts;exact eG (eG (eG (eG (eG (eG (eG (eG (eG (eG (eG (eG (eG (eG (eG (eG (eG (eG (eG (eG (eG (eG (eG (eG (eG (eG (eG (eG (eG (eG (eG (by as_aux_lemma=>kernel_rfl) UX) U1) (by as_aux_lemma=>kernel_rfl)) (by as_aux_lemma=>kernel_rfl)) (by as_aux_lemma=>kernel_rfl)) (by as_aux_lemma=>kernel_rfl)) (by as_aux_lemma=>kernel_rfl)) (by as_aux_lemma=>kernel_rfl)) U7) UY) UZ) U0) (by as_aux_lemma=>kernel_rfl)) (by as_aux_lemma=>kernel_rfl)) (by as_aux_lemma=>kernel_rfl)) (by as_aux_lemma=>kernel_rfl)) (by as_aux_lemma=>kernel_rfl)) (by as_aux_lemma=>kernel_rfl)) (by as_aux_lemma=>kernel_rfl)) (by as_aux_lemma=>kernel_rfl)) (by as_aux_lemma=>kernel_rfl)) U2) (by as_aux_lemma=>kernel_rfl)) U3) U4) U5) U6) (by as_aux_lemma=>kernel_rfl)) (by as_aux_lemma=>kernel_rfl)) (by as_aux_lemma=>kernel_rfl)) (by as_aux_lemma=>kernel_rfl)
theorem Vc:Rows.PortOnceSaid :=
 OpenClaim.holds_of_cond 5 Tryz.f5 rfl rfl rfl rfl rfl rfl rfl ⟨rfl,rfl,rfl,rfl,rfl⟩ rfl rfl rfl rfl rfl (by kernel_rfl) func5 U8
  (tG (by kernel_rfl)) (by unfold Func.isWrapper;first | (rw[if_pos (by decide +kernel)];kernel_rfl) | (rw[if_neg (by decide +kernel)];exact⟨rfl,rfl⟩))
  (fun b a H enc _ c=>by rw[OpenClaim.pre_eq_preRow];exact U9 b a H enc c)
theorem Vb (f:FuncId)(b:Func)(e:Tryz.pinned.checked.prog.funcNamed "lighterage/lighteragelaw.PortOnce"=M f)(c:Tryz.pinned.checked.prog.funcs[f]? = M b):
 true=Tryz.pinned.checked.prog.looks []∧∀(j:Nat) t,b.params[j]? = M t->Tryz.pinned.checked.prog.wantsStandIn t=F:=by
 obtain rfl:f=5:=Option.some.inj ((show prog.funcNamed "lighterage/lighteragelaw.PortOnce"=M 5 by kernel_rfl).symm.trans e) |>.symm;obtain rfl:b=Tryz.f5:=(Option.some.inj (func5.symm.trans c)).symm;refine⟨by kernel_rfl,fun j t d=>?_⟩;rw[Tryz.params5] at d;have a:=Array.mem_of_getElem? d;simp only[List.mem_toArray,fr,List.mem_nil_iff,or_false] at a;subst a;exact(show prog.wantsStandIn 62=F by kernel_rfl)
end Go.Proofs.YtmbghcpcbdjfoaaGreatDoor
namespace Go.Proofs.YtmbghcpcbdjfoaaGreatDoor
open Go
theorem portOnce_card:Rows.PortOnceCardSaid :=
 Claim7.holds_tied_plain_at .later [] _ _ _ _ Vc (fun _ h=>by cases h) (by as_aux_lemma=>kernel_rfl) (fun _ h=>by cases h) portOnce_row_tie (by as_aux_lemma=>rfl) (by as_aux_lemma=>exact⟨rfl,rfl⟩) (by as_aux_lemma=>kernel_rfl) (by as_aux_lemma=>rfl) Vb (by as_aux_lemma=>kernel_rfl)
