/- THE CARD OF GateApart: for all bytes of two connections and all places where they are cut, requests that are read on one are answered as if pieces of the other had not come between, if the other brings no request to its end; no argument turns; the tables of math/bits, internal/strconv and unicode/utf8 start as the text of the program lays them. -/
import Derived.Test.YtjmndjmhjleabaaGreatDoorCards
import Derived.Test.YtjmndjmhjleabaaGreatDoorTie
import Derived.Test.YtjmndjmhjleabaaGreatDoorPk50
import Derived.Test.YtjmndjmhjleabaaGreatDoorPk48
import Derived.Deep.DeepHandedRow
open Option renaming some->M
open Bool renaming false->F
set_option maxRecDepth 100000
open Go.Proofs.Tryz
namespace Go.Proofs.YtjmndjmhjleabaaGreatDoor.gateApart
open Go.ChangeShapes Go.WideShapes Go.ChangeAt Go.RowKit
theorem own:ownKnob prog.godebug=none:=by kernel_rfl
theorem MS:prog.cellsOf 5=1:=by kernel_rfl
theorem contract (H:Type)(enc:TypeId×Value->H)(W:World)(m:Nat)(args:Array Value)(z gs:List (DataW H))(b:List MemPlace)
 (a:∀(j:Nat) t v,Tryz.f5.params[j]? = M t->args[j]? = M v->Value.okWide prog W .any m t v)
 (hW:DataW.Whole enc prog Tryz.f5.params.toList Rows.gateApartSpec.vars F W args.toList z gs b)
 (c:(DataW.weightsEach prog (Tryz.f5.params.toList++(OpenSpec.ofChange Rows.gateApartSpec).bare.plain.varTypes prog) (z++gs)).all (·<=reachBytes)=true)
 (Xo:laidMetH prog Rows.gateApartRow.laid W) :
 Calls prog 5 args W fun e W'=>∃v,e=.returned v∧Rows.gateApartSpec.post enc prog Tryz.f5 F true F F W args v W':=by
 have d:=hW;obtain⟨p,q,n,hV,rfl,hfz,hnd⟩:=hW;have hA:DataW.TrodAll enc prog W 0 (fun _=>true) true Tryz.f5.params.toList args.toList z p:=n;have B:(OpenSpec.ofChange Rows.gateApartSpec).bare.plain.varTypes prog=[]:=by kernel_rfl
 rw[B,bV] at c;rw[Tryz.params5] at hA a c;obtain⟨v0,vs0,d0,ds0,p0,q0,C,rfl,rfl,h0,r0⟩:=trodAll_cons hA;obtain⟨v1,vs1,d1,ds1,p1,q1,rfl,rfl,rfl,h1,r1⟩:=trodAll_cons r0;obtain⟨v2,vs2,d2,ds2,p2,q2,rfl,rfl,rfl,h2,r2⟩:=trodAll_cons r1;obtain⟨rfl,rfl,rfl⟩:=trodAll_nil r2;obtain rfl:args=#[v0,v1,v2]:=by cases args;simp_all
 obtain⟨rfl,rfl⟩:=trodVars_none hV;have D:=UE c;obtain⟨L0,G⟩:=wX D;obtain⟨L1,L⟩:=wX G;obtain⟨L2,_⟩:=wX L;have N:=h0;obtain⟨f0,o⟩:=h0;obtain⟨O,P,f,rfl⟩:=okWide_slice underlying31 (a 0 31 v0 rfl rfl);have S:=FP underlying31 (k:=1) (by kernel_rfl) o L0;obtain⟨T,ajW,l0,ajX,hb0,_⟩:=FN underlying31 underlying5 MS o;obtain⟨rfl,rfl,rfl⟩:O=T∧P=l0.length∧f=ajW:=by simpa[Value.cells] using ajX
 have h1k:=h1;obtain⟨f1,r⟩:=h1;obtain⟨a1,la1,g,rfl⟩:=okWide_slice underlying31 (a 1 31 v1 rfl rfl);have aoJ:=FP underlying31 (k:=1) (by kernel_rfl) r L1;obtain⟨a1',ajZ,l1,s,hb1,_⟩:=FN underlying31 underlying5 MS r;obtain⟨rfl,rfl,rfl⟩:a1=a1'∧la1=l1.length∧g=ajZ:=by simpa[Value.cells] using s
 have h2k:=h2;obtain⟨f2,hf2⟩:=h2;obtain⟨a2,la2,u,rfl⟩:=okWide_slice underlying55 (a 2 55 v2 rfl rfl);obtain⟨cs2,aj0,hc2⟩:=PZ hf2;have hPw:ny W:=MR Xo;clear n;simp only[bV] at d;have i:∀x∈p0++(p1++(p2)),x.block<W.heap.size:=fun x l=>by simpa using d.lt x (by simpa using l)
 have hr:reachBytes=140737488351232:=rfl;rw[hr] at S;have w:Calls prog 5 #[.slice O l0.length f,.slice a1 l1.length g,.slice a2 la2 u] W fun e w'=>e=.returned (.bool true)∧Below W.heap.size W w' :=
  Gr W hPw l0 l1 O a1 a2 f _ g _ u _ cs2 hb0 rfl hb1 rfl (by omega) hc2 aj0
 refine w.mono fun e W' ⟨he,y⟩=>?_;subst he;refine⟨_,rfl,_,_,_,[],_,[],d,trodAll_cons_mk (shut_bool underlying4 _) trodAll_mk0,(trodAll_cons_mk (Below.trod FM (by kernel_rfl) (dh (by kernel_rfl)) N y (fun x l=>i x (by simp[l]))) (trodAll_cons_mk (Below.trod FM (by kernel_rfl) (dh (by kernel_rfl)) h1k y (fun x l=>i x (by simp[l]))) (trodAll_cons_mk (Below.trod FM (by kernel_rfl) (dh (by kernel_rfl)) h2k y (fun x l=>i x (by simp[l]))) trodAll_mk0))),rfl,y.frame _,fun h=>by cases h⟩
theorem UG (os:Os)(H:Type)(enc:TypeId×Value->H):∃w0:World,w0.os=os ∧
 (w0.forCall (fun _ _=>0) ⟨#[],#[.slice none 0 0,.slice none 0 0,.slice none 0 0],[]⟩).variablesB Tryz.checked.prog=true ∧
 ((w0.forCall (fun _ _ => 0) ⟨#[], #[.slice none 0 0, .slice none 0 0, .slice none 0 0], []⟩).heap.toList.drop Tryz.checked.prog.globals.size).take ((begin Tryz.checked.prog (fun _ _ => 0) default).world.heap.size-Tryz.checked.prog.globals.size) =
   (begin Tryz.checked.prog (fun _ _=>0) default).world.heap.toList.drop Tryz.checked.prog.globals.size ∧
 Input.okWideB Tryz.checked.prog (w0.forCall (fun _ _=>0) ⟨#[],#[.slice none 0 0,.slice none 0 0,.slice none 0 0],[]⟩) 5 ⟨#[],#[.slice none 0 0,.slice none 0 0,.slice none 0 0],[]⟩=true ∧
 laidMet prog Rows.gateApartRow.laid (w0.forCall (fun _ _=>0) ⟨#[],#[.slice none 0 0,.slice none 0 0,.slice none 0 0],[]⟩).memory ∧
 ∃places,DataW.whole enc prog (w0.forCall (fun _ _=>0) ⟨#[],#[.slice none 0 0,.slice none 0 0,.slice none 0 0],[]⟩).memory Tryz.f5.params.toList Rows.gateApartSpec.vars false #[Value.slice none 0 0,Value.slice none 0 0,Value.slice none 0 0].toList 8=some ([.nil,.nil,.nil],[],places) :=
 ⟨{ World.holding prog os ⟨#[],#[],[]⟩ with heap:=Yl (World.holding prog os ⟨#[],#[],[]⟩).heap },rfl,by kernel_rfl,by kernel_rfl,by kernel_rfl,laidMet_of_run' 8 (by kernel_rfl) (by kernel_rfl),[],by kernel_rfl⟩
theorem lifted (os:Os)(started:os.Started)(H:Type)(enc:TypeId×Value->H)(ac:Stop.Interp):
 ReturnsInHanded {} Tryz.checked os 5 .any ((OpenSpec.ofChange Rows.gateApartSpec).preRow enc prog Tryz.f5 Rows.gateApartRow.domain false Rows.gateApartRow.laid) (((OpenSpec.ofChange Rows.gateApartSpec).at ac).post enc prog Tryz.f5 false true false false):=by
 obtain⟨w0,hos,hv,hr,hok,hl,places,hx⟩:=UG os H enc;refine returnsInHanded_of_row (C:=Tryz.checked) (s:=OpenSpec.ofChange Rows.gateApartSpec) own started (by kernel_rfl) func5
  (witness_row_at (enc := enc) (C := Tryz.checked) false w0 #[.slice none 0 0, .slice none 0 0, .slice none 0 0] hos hv hr hok
   (OpenSpec.preRow_of_cond 8 hx (by kernel_rfl) (fun k hk=>by cases hk) (by kernel_rfl) hl)) ?_
 intro W base args ds gs before hval hW _ _ hwt Xo _ _;exact contract H enc W base args ds gs before hval hW hwt Xo
/- what the row tells of the program, each by itself: in one piece the kernel wants more memory than it is given -/
theorem kF {a b:Bool}(ha:a=true)(c:b=true):(a&&b)=true:=by rw[ha,c];rfl
theorem j1:laidOutB Tryz.pinned.checked.prog=true:=by kernel_rfl
theorem j2:mapsRowed Tryz.pinned.checked.prog=true:=by kernel_rfl
theorem j9:(Rows.gateApartRow.inPlace==Tryz.pinned.checked.prog.inPlace 5)=true:=by kernel_rfl
theorem j10:(Rows.gateApartRow.unfollowed==Tryz.pinned.checked.prog.unfollowed 5)=true:=by kernel_rfl
theorem j11:(Rows.gateApartRow.recurses==Tryz.pinned.checked.prog.recurses 5)=true:=by kernel_rfl
theorem j12:(Rows.gateApartRow.named==Tryz.pinned.checked.prog.varsNamed 5)=true:=by kernel_rfl
theorem j22:(Rows.gateApartRow.plainKeys==Tryz.pinned.checked.prog.plainKeys)=true:=by kernel_rfl
theorem j24:Tryz.pinned.checked.prog.stopsHeard=true:=by kernel_rfl
theorem j25:Tryz.pinned.checked.prog.mayEnter=true:=by kernel_rfl
theorem j26:(Rows.gateApartRow.lifted==Tryz.pinned.checked.prog.liftsFinal)=true:=by kernel_rfl
theorem j27:(Tryz.pinned.checked.prog.make==M Rows.gateApartRow.make)=true:=by kernel_rfl
theorem joined:joinedFacts Tryz.pinned.checked.prog 5 Tryz.f5 (OpenSpec.ofChange Rows.gateApartSpec).bare Rows.gateApartRow=true:=by
 unfold joinedFacts;exact kF (kF (kF (kF (kF (kF (kF (kF (kF (kF (kF (kF (kF (kF (kF (kF (kF (kF (kF (kF (kF (kF (kF (kF (kF (kF (kF (kF (kF (kF (kF (by as_aux_lemma=>kernel_rfl) j1) j2) (by as_aux_lemma=>kernel_rfl)) (by as_aux_lemma=>kernel_rfl)) (by as_aux_lemma=>kernel_rfl)) (by as_aux_lemma=>kernel_rfl)) (by as_aux_lemma=>kernel_rfl)) (by as_aux_lemma=>kernel_rfl)) j9) j10) j11) j12) (by as_aux_lemma=>kernel_rfl)) (by as_aux_lemma=>kernel_rfl)) (by as_aux_lemma=>kernel_rfl)) (by as_aux_lemma=>kernel_rfl)) (by as_aux_lemma=>kernel_rfl)) (by as_aux_lemma=>kernel_rfl)) (by as_aux_lemma=>kernel_rfl)) (by as_aux_lemma=>kernel_rfl)) (by as_aux_lemma=>kernel_rfl)) j22) (by as_aux_lemma=>kernel_rfl)) j24) j25) j26) j27) (by as_aux_lemma=>kernel_rfl)) (by as_aux_lemma=>kernel_rfl)) (by as_aux_lemma=>kernel_rfl)) (by as_aux_lemma=>kernel_rfl)
theorem said:Rows.GateApartSaid :=
 OpenClaim.holds_of_cond 5 Tryz.f5 rfl rfl rfl rfl rfl rfl rfl ⟨rfl,rfl,rfl,rfl,rfl⟩ rfl rfl rfl rfl rfl (by kernel_rfl) func5 joined
  (dh (by kernel_rfl)) (by unfold Func.isWrapper;first | (rw[if_pos (by decide +kernel)];kernel_rfl) | (rw[if_neg (by decide +kernel)];exact⟨rfl,rfl⟩))
  (fun b a H enc _ c=>by rw[OpenClaim.pre_eq_preRow];exact lifted b a H enc c)
theorem plain (f:FuncId)(b:Func)(e:Tryz.pinned.checked.prog.funcNamed "lighterage/lighteragelaw.GateApart"=M f)(c:Tryz.pinned.checked.prog.funcs[f]? = M b):
 true=Tryz.pinned.checked.prog.looks []∧∀(j:Nat) t,b.params[j]? = M t->Tryz.pinned.checked.prog.wantsStandIn t=F:=by
 obtain rfl:f=5:=Option.some.inj ((show prog.funcNamed "lighterage/lighteragelaw.GateApart"=M 5 by kernel_rfl).symm.trans e) |>.symm;obtain rfl:b=Tryz.f5:=(Option.some.inj (func5.symm.trans c)).symm;refine⟨by kernel_rfl,fun j t d=>?_⟩;rw[Tryz.params5] at d;have a:=Array.mem_of_getElem? d;simp only[List.mem_toArray,fA,List.mem_nil_iff,or_false] at a;rcases a with rfl | rfl | rfl
 . exact(show prog.wantsStandIn 31=F by kernel_rfl)
 . exact(show prog.wantsStandIn 31=F by kernel_rfl)
 . exact(show prog.wantsStandIn 55=F by kernel_rfl)
end Go.Proofs.YtjmndjmhjleabaaGreatDoor.gateApart
namespace Go.Proofs.YtjmndjmhjleabaaGreatDoor
open Go
theorem gateApart_card:Rows.GateApartCardSaid :=
 Claim7.holds_tied_plain_at .later [] _ _ _ _ gateApart.said (fun _ h=>by cases h) (by kernel_rfl) (fun _ h=>by cases h) gateApart_row_tie rfl ⟨rfl,rfl⟩ (by kernel_rfl) rfl gateApart.plain (by kernel_rfl)
end Go.Proofs.YtjmndjmhjleabaaGreatDoor