/- THE CARD OF DeskJoins: what lines tell one behind the other they tell together; what was asked again is told again; two desks know nothing of each other; no argument turns; the tables of math/bits, internal/strconv and unicode/utf8 start as the text of the program lays them. -/
import Derived.Test.YtodmelffkfbalaaGreatDoorCards
import Derived.Test.YtodmelffkfbalaaGreatDoorTie
import Derived.Test.YtodmelffkfbalaaGreatDoorPk50
import Derived.Test.YtodmelffkfbalaaGreatDoorPk21
import Derived.Deep.DeepHandedRow
open Option renaming some->M
open Bool renaming false->F
set_option maxRecDepth 100000
open Go.Proofs.Tryz
namespace Go.Proofs.YtodmelffkfbalaaGreatDoor
open Go.ChangeShapes Go.WideShapes Go.ChangeAt Go.RowKit
theorem TR:ownKnob prog.godebug=none:=by kernel_rfl
theorem TC (H:Type)(enc:TypeId×Value->H)(W:World)(f:Nat)(args:Array Value)(r gs:List (DataW H))(b:List MemPlace)
 (a:∀(j:Nat) t v,Tryz.f7.params[j]? = M t->args[j]? = M v->Value.okWide prog W .any f t v)
 (hW:DataW.Whole enc prog Tryz.f7.params.toList Rows.deskJoinsSpec.vars F W args.toList r gs b)
 (c:(DataW.weightsEach prog (Tryz.f7.params.toList++(OpenSpec.ofChange Rows.deskJoinsSpec).bare.plain.varTypes prog) (r++gs)).all (·<=reachBytes)=true)
 (u:laidMetH prog Rows.deskJoinsRow.laid W) :
 Calls prog 7 args W fun e W'=>∃v,e=.returned v∧Rows.deskJoinsSpec.post enc prog Tryz.f7 F true F F W args v W':=by
 have d:=hW;obtain⟨p,q,g,hV,rfl,hfz,hnd⟩:=hW;have hA:DataW.TrodAll enc prog W 0 (fun _=>true) true Tryz.f7.params.toList args.toList r p:=g;have w:(OpenSpec.ofChange Rows.deskJoinsSpec).bare.plain.varTypes prog=[]:=by kernel_rfl
 rw[w,fK] at c;rw[Tryz.params7] at hA a c;obtain⟨v0,vs0,d0,ds0,p0,q0,y,rfl,rfl,h0,r0⟩:=trodAll_cons hA;obtain⟨z,vs1,d1,ds1,p1,q1,rfl,rfl,rfl,h1,r1⟩:=trodAll_cons r0;obtain⟨rfl,rfl,rfl⟩:=trodAll_nil r1;obtain rfl:args=#[v0,z]:=by cases args;simp_all
 obtain⟨rfl,rfl⟩:=trodVars_none hV;have B:=Q8 c;obtain⟨L0,C⟩:=BX B;obtain⟨L1,_⟩:=BX C;have D:=h0;obtain⟨f0,G⟩:=h0;obtain⟨a0,i,k,rfl⟩:=okWide_slice underlying100 (a 0 100 v0 rfl rfl);obtain⟨l0,l,L,N⟩:=Ob G L0;have S:=h1;obtain⟨f1,T⟩:=h1;obtain⟨i1,e1,_,_⟩:=DataW.trod_int underlying3 T;obtain rfl:z=.int .i64 i1:=by
  obtain⟨i',rfl⟩:=okWide_int underlying3 (a 1 3 z rfl rfl);simpa[Value.cells] using e1
 have hPw:dj W:=Mz u;clear g;simp only[fK] at d;have m:∀x∈p0++p1,x.block<W.heap.size:=fun x n=>by simpa using d.lt x (by simpa using n)
 have o:Calls prog 7 #[.slice a0 i k,.int .i64 i1] W fun e w'=>e=.returned (.bool true)∧Below W.heap.size W w' :=
  KJ W hPw l0 a0 k i (by rw[<-l];exact L) l (fun s hs=>N s hs) i1
 refine o.mono fun e W' ⟨he,hg⟩=>?_;subst he;refine⟨_,rfl,_,_,_,[],_,[],d,trodAll_cons_mk (shut_bool underlying4 _) trodAll_mk0,(trodAll_cons_mk (Below.trod E5 (by kernel_rfl) (sB (by kernel_rfl)) D hg (fun x n=>m x (by simp[n]))) (trodAll_cons_mk (Below.trod E5 (by kernel_rfl) (sB (by kernel_rfl)) S hg (fun x n=>m x (by simp[n]))) trodAll_mk0)),rfl,hg.frame _,fun h=>by cases h⟩
theorem TB (os:Os)(H:Type)(enc:TypeId×Value->H):∃w0:World,w0.os=os ∧
 (w0.forCall (fun _ _=>0) ⟨#[],#[.slice none 0 0,.int .i64 0],[]⟩).variablesB Tryz.checked.prog=true ∧
 ((w0.forCall (fun _ _ => 0) ⟨#[], #[.slice none 0 0, .int .i64 0], []⟩).heap.toList.drop Tryz.checked.prog.globals.size).take ((begin Tryz.checked.prog (fun _ _ => 0) default).world.heap.size-Tryz.checked.prog.globals.size) =
   (begin Tryz.checked.prog (fun _ _=>0) default).world.heap.toList.drop Tryz.checked.prog.globals.size ∧
 Input.okWideB Tryz.checked.prog (w0.forCall (fun _ _=>0) ⟨#[],#[.slice none 0 0,.int .i64 0],[]⟩) 7 ⟨#[],#[.slice none 0 0,.int .i64 0],[]⟩=true ∧
 laidMet prog Rows.deskJoinsRow.laid (w0.forCall (fun _ _=>0) ⟨#[],#[.slice none 0 0,.int .i64 0],[]⟩).memory ∧
 ∃places,DataW.whole enc prog (w0.forCall (fun _ _=>0) ⟨#[],#[.slice none 0 0,.int .i64 0],[]⟩).memory Tryz.f7.params.toList Rows.deskJoinsSpec.vars false #[Value.slice none 0 0,Value.int .i64 0].toList 8=some ([.nil,.lit (.int .i64 0)],[],places) :=
 ⟨{ World.holding prog os ⟨#[],#[],[]⟩ with heap:=Sq (World.holding prog os ⟨#[],#[],[]⟩).heap },rfl,by kernel_rfl,by kernel_rfl,by kernel_rfl,laidMet_of_run' 8 (by kernel_rfl) (by kernel_rfl),[],by kernel_rfl⟩
theorem TQ (os:Os)(started:os.Started)(H:Type)(enc:TypeId×Value->H)(Pe:Stop.Interp):
 ReturnsInHanded {} Tryz.checked os 7 .any ((OpenSpec.ofChange Rows.deskJoinsSpec).preRow enc prog Tryz.f7 Rows.deskJoinsRow.domain false Rows.deskJoinsRow.laid) (((OpenSpec.ofChange Rows.deskJoinsSpec).at Pe).post enc prog Tryz.f7 false true false false):=by
 obtain⟨w0,hos,hv,hr,hok,hl,places,hx⟩:=TB os H enc;refine returnsInHanded_of_row (C:=Tryz.checked) (s:=OpenSpec.ofChange Rows.deskJoinsSpec) TR started (by kernel_rfl) func7
  (witness_row_at (enc := enc) (C := Tryz.checked) false w0 #[.slice none 0 0, .int .i64 0] hos hv hr hok
   (OpenSpec.preRow_of_cond 8 hx (by kernel_rfl) (fun k hk=>by cases hk) (by kernel_rfl) hl)) ?_
 intro W base args ds gs before hval hW _ _ hwt hLd _ _;exact TC H enc W base args ds gs before hval hW hwt hLd
/- what the row tells of the program, each by itself: in one piece the kernel wants more memory than it is given -/
theorem eg {a b:Bool}(ha:a=true)(c:b=true):(a&&b)=true:=by rw[ha,c];rfl
theorem TD:laidOutB Tryz.pinned.checked.prog=true:=by kernel_rfl
theorem TH:mapsRowed Tryz.pinned.checked.prog=true:=by kernel_rfl
theorem TO:(Rows.deskJoinsRow.inPlace==Tryz.pinned.checked.prog.inPlace 7)=true:=by kernel_rfl
theorem TE:(Rows.deskJoinsRow.unfollowed==Tryz.pinned.checked.prog.unfollowed 7)=true:=by kernel_rfl
theorem TF:(Rows.deskJoinsRow.recurses==Tryz.pinned.checked.prog.recurses 7)=true:=by kernel_rfl
theorem TG:(Rows.deskJoinsRow.named==Tryz.pinned.checked.prog.varsNamed 7)=true:=by kernel_rfl
theorem TI:(Rows.deskJoinsRow.plainKeys==Tryz.pinned.checked.prog.plainKeys)=true:=by kernel_rfl
theorem TJ:Tryz.pinned.checked.prog.stopsHeard=true:=by kernel_rfl
theorem TK:Tryz.pinned.checked.prog.mayEnter=true:=by kernel_rfl
theorem TL:(Rows.deskJoinsRow.lifted==Tryz.pinned.checked.prog.liftsFinal)=true:=by kernel_rfl
theorem TN:(Tryz.pinned.checked.prog.make==M Rows.deskJoinsRow.make)=true:=by kernel_rfl
theorem TP:joinedFacts Tryz.pinned.checked.prog 7 Tryz.f7 (OpenSpec.ofChange Rows.deskJoinsSpec).bare Rows.deskJoinsRow=true:=by
 unfold joinedFacts;exact eg (eg (eg (eg (eg (eg (eg (eg (eg (eg (eg (eg (eg (eg (eg (eg (eg (eg (eg (eg (eg (eg (eg (eg (eg (eg (eg (eg (eg (eg (eg (by as_aux_lemma=>kernel_rfl) TD) TH) (by as_aux_lemma=>kernel_rfl)) (by as_aux_lemma=>kernel_rfl)) (by as_aux_lemma=>kernel_rfl)) (by as_aux_lemma=>kernel_rfl)) (by as_aux_lemma=>kernel_rfl)) (by as_aux_lemma=>kernel_rfl)) TO) TE) TF) TG) (by as_aux_lemma=>kernel_rfl)) (by as_aux_lemma=>kernel_rfl)) (by as_aux_lemma=>kernel_rfl)) (by as_aux_lemma=>kernel_rfl)) (by as_aux_lemma=>kernel_rfl)) (by as_aux_lemma=>kernel_rfl)) (by as_aux_lemma=>kernel_rfl)) (by as_aux_lemma=>kernel_rfl)) (by as_aux_lemma=>kernel_rfl)) TI) (by as_aux_lemma=>kernel_rfl)) TJ) TK) TL) TN) (by as_aux_lemma=>kernel_rfl)) (by as_aux_lemma=>kernel_rfl)) (by as_aux_lemma=>kernel_rfl)) (by as_aux_lemma=>kernel_rfl)
theorem TT:Rows.DeskJoinsSaid :=
 OpenClaim.holds_of_cond 7 Tryz.f7 rfl rfl rfl rfl rfl rfl rfl ⟨rfl,rfl,rfl,rfl,rfl⟩ rfl rfl rfl rfl rfl (by kernel_rfl) func7 TP
  (sB (by kernel_rfl)) (by unfold Func.isWrapper;first | (rw[if_pos (by decide +kernel)];kernel_rfl) | (rw[if_neg (by decide +kernel)];exact⟨rfl,rfl⟩))
  (fun b a H enc _ c=>by rw[OpenClaim.pre_eq_preRow];exact TQ b a H enc c)
theorem TS (f:FuncId)(b:Func)(e:Tryz.pinned.checked.prog.funcNamed "lighterage/lighteragelaw.DeskJoins"=M f)(c:Tryz.pinned.checked.prog.funcs[f]? = M b):
 true=Tryz.pinned.checked.prog.looks []∧∀(j:Nat) t,b.params[j]? = M t->Tryz.pinned.checked.prog.wantsStandIn t=F:=by
 obtain rfl:f=7:=Option.some.inj ((show prog.funcNamed "lighterage/lighteragelaw.DeskJoins"=M 7 by kernel_rfl).symm.trans e) |>.symm;obtain rfl:b=Tryz.f7:=(Option.some.inj (func7.symm.trans c)).symm;refine⟨by kernel_rfl,fun j t d=>?_⟩;rw[Tryz.params7] at d;have a:=Array.mem_of_getElem? d;simp only[List.mem_toArray,fS,List.mem_nil_iff,or_false] at a;rcases a with rfl | rfl
 . exact(show prog.wantsStandIn 100=F by kernel_rfl)
 . exact(show prog.wantsStandIn 3=F by kernel_rfl)
end Go.Proofs.YtodmelffkfbalaaGreatDoor
namespace Go.Proofs.YtodmelffkfbalaaGreatDoor
open Go
theorem deskJoins_card:Rows.DeskJoinsCardSaid :=
 Claim7.holds_tied_plain_at .later [] _ _ _ _ TT (fun _ h=>by cases h) (by as_aux_lemma=>kernel_rfl) (fun _ h=>by cases h) deskJoins_row_tie (by as_aux_lemma=>rfl) (by as_aux_lemma=>exact⟨rfl,rfl⟩) (by as_aux_lemma=>kernel_rfl) (by as_aux_lemma=>rfl) TS (by as_aux_lemma=>kernel_rfl)
