/- THE CARD OF DeskShows: every Show and Mean is as the document says; Mean of Show is the bytes; no shown text has a byte that is not visible, or a tab; no argument turns; the tables of math/bits, internal/strconv and unicode/utf8 start as the text of the program lays them. -/
import Derived.Test.YtodmelffkfbalaaGreatDoorCards
import Derived.Test.YtodmelffkfbalaaGreatDoorTie
import Derived.Test.YtodmelffkfbalaaGreatDoorPk50
import Derived.Test.YtodmelffkfbalaaGreatDoorPk22
import Derived.Deep.DeepHandedRow
open Option renaming some->M
open Bool renaming false->F
set_option maxRecDepth 100000
open Go.Proofs.Tryz
namespace Go.Proofs.YtodmelffkfbalaaGreatDoor
open Go.ChangeShapes Go.WideShapes Go.ChangeAt Go.RowKit
theorem TV:ownKnob prog.godebug=none:=by kernel_rfl
theorem TG (H:Type)(enc:TypeId×Value->H)(W:World)(i:Nat)(args:Array Value)(r gs:List (DataW H))(b:List MemPlace)
 (a:∀(j:Nat) t v,Tryz.f8.params[j]? = M t->args[j]? = M v->Value.okWide prog W .any i t v)
 (hW:DataW.Whole enc prog Tryz.f8.params.toList Rows.deskShowsSpec.vars F W args.toList r gs b)
 (d:(DataW.weightsEach prog (Tryz.f8.params.toList++(OpenSpec.ofChange Rows.deskShowsSpec).bare.plain.varTypes prog) (r++gs)).all (·<=reachBytes)=true)
 (s:laidMetH prog Rows.deskShowsRow.laid W) :
 Calls prog 8 args W fun e W'=>∃v,e=.returned v∧Rows.deskShowsSpec.post enc prog Tryz.f8 F true F F W args v W':=by
 have f:=hW;obtain⟨p,q,k,hV,rfl,hfz,hnd⟩:=hW;have hA:DataW.TrodAll enc prog W 0 (fun _=>true) true Tryz.f8.params.toList args.toList r p:=k;have u:(OpenSpec.ofChange Rows.deskShowsSpec).bare.plain.varTypes prog=[]:=by kernel_rfl
 rw[u,fx] at d;rw[Tryz.params8] at hA a d;obtain⟨v0,vs0,d0,ds0,p0,q0,w,rfl,rfl,h0,r0⟩:=trodAll_cons hA;obtain⟨y,vs1,d1,ds1,p1,q1,rfl,rfl,rfl,h1,r1⟩:=trodAll_cons r0;obtain⟨rfl,rfl,rfl⟩:=trodAll_nil r1;obtain rfl:args=#[v0,y]:=by cases args;simp_all
 obtain⟨rfl,rfl⟩:=trodVars_none hV;have z:=Rg d;obtain⟨L0,B⟩:=Cs z;obtain⟨L1,_⟩:=Cs B;have C:=h0;obtain⟨f0,D⟩:=h0;obtain⟨G,l0,g,rfl⟩:=okWide_slice underlying31 (a 0 31 v0 rfl rfl);obtain⟨L,N,c,e0,S,_⟩:=Ok underlying31 underlying5 (by kernel_rfl) D;obtain⟨rfl,rfl,rfl⟩:G=L∧l0=c.length∧g=N:=by simpa[Value.cells] using e0
 have l:=h1;obtain⟨f1,T⟩:=h1;obtain⟨s1,e1,hs1⟩:=Rh underlying9 T L1;obtain rfl:y=.string s1:=by
  obtain⟨s',hv,_⟩:=Go.ChangeMaps.open_string underlying9 (a 1 9 y rfl rfl) l;subst hv;simpa[Value.cells] using e1
 have hPw:di W:=M2 s;clear k;simp only[fx] at f;have m:∀x∈p0++p1,x.block<W.heap.size:=fun x n=>by simpa using f.lt x (by simpa using n)
 have o:Calls prog 8 #[.slice G c.length g,.string s1] W fun e w'=>e=.returned (.bool true)∧Below W.heap.size W w' :=
  KX W hPw c G g c.length S rfl s1
 refine o.mono fun e W' ⟨he,hg⟩=>?_;subst he;refine⟨_,rfl,_,_,_,[],_,[],f,trodAll_cons_mk (shut_bool underlying4 _) trodAll_mk0,(trodAll_cons_mk (Below.trod Fe (by kernel_rfl) (sF (by kernel_rfl)) C hg (fun x n=>m x (by simp[n]))) (trodAll_cons_mk (Below.trod Fe (by kernel_rfl) (sF (by kernel_rfl)) l hg (fun x n=>m x (by simp[n]))) trodAll_mk0)),rfl,hg.frame _,fun h=>by cases h⟩
theorem TF (os:Os)(H:Type)(enc:TypeId×Value->H):∃w0:World,w0.os=os ∧
 (w0.forCall (fun _ _=>0) ⟨#[],#[.slice none 0 0,.string .empty],[]⟩).variablesB Tryz.checked.prog=true ∧
 ((w0.forCall (fun _ _ => 0) ⟨#[], #[.slice none 0 0, .string .empty], []⟩).heap.toList.drop Tryz.checked.prog.globals.size).take ((begin Tryz.checked.prog (fun _ _ => 0) default).world.heap.size-Tryz.checked.prog.globals.size) =
   (begin Tryz.checked.prog (fun _ _=>0) default).world.heap.toList.drop Tryz.checked.prog.globals.size ∧
 Input.okWideB Tryz.checked.prog (w0.forCall (fun _ _=>0) ⟨#[],#[.slice none 0 0,.string .empty],[]⟩) 8 ⟨#[],#[.slice none 0 0,.string .empty],[]⟩=true ∧
 laidMet prog Rows.deskShowsRow.laid (w0.forCall (fun _ _=>0) ⟨#[],#[.slice none 0 0,.string .empty],[]⟩).memory ∧
 ∃places,DataW.whole enc prog (w0.forCall (fun _ _=>0) ⟨#[],#[.slice none 0 0,.string .empty],[]⟩).memory Tryz.f8.params.toList Rows.deskShowsSpec.vars false #[Value.slice none 0 0,Value.string .empty].toList 8=some ([.nil,.lit (.string [])],[],places) :=
 ⟨{ World.holding prog os ⟨#[],#[],[]⟩ with heap:=Ss (World.holding prog os ⟨#[],#[],[]⟩).heap },rfl,by kernel_rfl,by kernel_rfl,by kernel_rfl,laidMet_of_run' 8 (by kernel_rfl) (by kernel_rfl),[],by kernel_rfl⟩
theorem TU (os:Os)(started:os.Started)(H:Type)(enc:TypeId×Value->H)(Pe:Stop.Interp):
 ReturnsInHanded {} Tryz.checked os 8 .any ((OpenSpec.ofChange Rows.deskShowsSpec).preRow enc prog Tryz.f8 Rows.deskShowsRow.domain false Rows.deskShowsRow.laid) (((OpenSpec.ofChange Rows.deskShowsSpec).at Pe).post enc prog Tryz.f8 false true false false):=by
 obtain⟨w0,hos,hv,hr,hok,hl,places,hx⟩:=TF os H enc;refine returnsInHanded_of_row (C:=Tryz.checked) (s:=OpenSpec.ofChange Rows.deskShowsSpec) TV started (by kernel_rfl) func8
  (witness_row_at (enc := enc) (C := Tryz.checked) false w0 #[.slice none 0 0, .string .empty] hos hv hr hok
   (OpenSpec.preRow_of_cond 8 hx (by kernel_rfl) (fun k hk=>by cases hk) (by kernel_rfl) hl)) ?_
 intro W base args ds gs before hval hW _ _ hwt hLd _ _;exact TG H enc W base args ds gs before hval hW hwt hLd
/- what the row tells of the program, each by itself: in one piece the kernel wants more memory than it is given -/
theorem em {a b:Bool}(ha:a=true)(c:b=true):(a&&b)=true:=by rw[ha,c];rfl
theorem TH:laidOutB Tryz.pinned.checked.prog=true:=by kernel_rfl
theorem TL:mapsRowed Tryz.pinned.checked.prog=true:=by kernel_rfl
theorem TS:(Rows.deskShowsRow.inPlace==Tryz.pinned.checked.prog.inPlace 8)=true:=by kernel_rfl
theorem TI:(Rows.deskShowsRow.unfollowed==Tryz.pinned.checked.prog.unfollowed 8)=true:=by kernel_rfl
theorem TJ:(Rows.deskShowsRow.recurses==Tryz.pinned.checked.prog.recurses 8)=true:=by kernel_rfl
theorem TK:(Rows.deskShowsRow.named==Tryz.pinned.checked.prog.varsNamed 8)=true:=by kernel_rfl
theorem TN:(Rows.deskShowsRow.plainKeys==Tryz.pinned.checked.prog.plainKeys)=true:=by kernel_rfl
theorem TO:Tryz.pinned.checked.prog.stopsHeard=true:=by kernel_rfl
theorem TP:Tryz.pinned.checked.prog.mayEnter=true:=by kernel_rfl
theorem TQ:(Rows.deskShowsRow.lifted==Tryz.pinned.checked.prog.liftsFinal)=true:=by kernel_rfl
theorem TR:(Tryz.pinned.checked.prog.make==M Rows.deskShowsRow.make)=true:=by kernel_rfl
theorem TT:joinedFacts Tryz.pinned.checked.prog 8 Tryz.f8 (OpenSpec.ofChange Rows.deskShowsSpec).bare Rows.deskShowsRow=true:=by
 unfold joinedFacts;exact em (em (em (em (em (em (em (em (em (em (em (em (em (em (em (em (em (em (em (em (em (em (em (em (em (em (em (em (em (em (em (by as_aux_lemma=>kernel_rfl) TH) TL) (by as_aux_lemma=>kernel_rfl)) (by as_aux_lemma=>kernel_rfl)) (by as_aux_lemma=>kernel_rfl)) (by as_aux_lemma=>kernel_rfl)) (by as_aux_lemma=>kernel_rfl)) (by as_aux_lemma=>kernel_rfl)) TS) TI) TJ) TK) (by as_aux_lemma=>kernel_rfl)) (by as_aux_lemma=>kernel_rfl)) (by as_aux_lemma=>kernel_rfl)) (by as_aux_lemma=>kernel_rfl)) (by as_aux_lemma=>kernel_rfl)) (by as_aux_lemma=>kernel_rfl)) (by as_aux_lemma=>kernel_rfl)) (by as_aux_lemma=>kernel_rfl)) (by as_aux_lemma=>kernel_rfl)) TN) (by as_aux_lemma=>kernel_rfl)) TO) TP) TQ) TR) (by as_aux_lemma=>kernel_rfl)) (by as_aux_lemma=>kernel_rfl)) (by as_aux_lemma=>kernel_rfl)) (by as_aux_lemma=>kernel_rfl)
theorem TX:Rows.DeskShowsSaid :=
 OpenClaim.holds_of_cond 8 Tryz.f8 rfl rfl rfl rfl rfl rfl rfl ⟨rfl,rfl,rfl,rfl,rfl⟩ rfl rfl rfl rfl rfl (by kernel_rfl) func8 TT
  (sF (by kernel_rfl)) (by unfold Func.isWrapper;first | (rw[if_pos (by decide +kernel)];kernel_rfl) | (rw[if_neg (by decide +kernel)];exact⟨rfl,rfl⟩))
  (fun b a H enc _ c=>by rw[OpenClaim.pre_eq_preRow];exact TU b a H enc c)
theorem TW (f:FuncId)(b:Func)(e:Tryz.pinned.checked.prog.funcNamed "lighterage/lighteragelaw.DeskShows"=M f)(c:Tryz.pinned.checked.prog.funcs[f]? = M b):
 true=Tryz.pinned.checked.prog.looks []∧∀(j:Nat) t,b.params[j]? = M t->Tryz.pinned.checked.prog.wantsStandIn t=F:=by
 obtain rfl:f=8:=Option.some.inj ((show prog.funcNamed "lighterage/lighteragelaw.DeskShows"=M 8 by kernel_rfl).symm.trans e) |>.symm;obtain rfl:b=Tryz.f8:=(Option.some.inj (func8.symm.trans c)).symm;refine⟨by kernel_rfl,fun j t d=>?_⟩;rw[Tryz.params8] at d;have a:=Array.mem_of_getElem? d;simp only[List.mem_toArray,fS,List.mem_nil_iff,or_false] at a;rcases a with rfl | rfl
 . exact(show prog.wantsStandIn 31=F by kernel_rfl)
 . exact(show prog.wantsStandIn 9=F by kernel_rfl)
end Go.Proofs.YtodmelffkfbalaaGreatDoor
namespace Go.Proofs.YtodmelffkfbalaaGreatDoor
open Go
theorem deskShows_card:Rows.DeskShowsCardSaid :=
 Claim7.holds_tied_plain_at .later [] _ _ _ _ TX (fun _ h=>by cases h) (by as_aux_lemma=>kernel_rfl) (fun _ h=>by cases h) deskShows_row_tie (by as_aux_lemma=>rfl) (by as_aux_lemma=>exact⟨rfl,rfl⟩) (by as_aux_lemma=>kernel_rfl) (by as_aux_lemma=>rfl) TW (by as_aux_lemma=>kernel_rfl)
