/- Small texts, one behind the other: RowKit0, RowKitF, RowKitL, RowKitX, RowKitH, RowKitE, RowKitTU. -/
import Derived.ProofKit
import Derived.OpenShut
import Derived.Deep.Strs
import Derived.HandedShaped
import Derived.Test.YthhklgjjnaeaoaaGreatDoorRows
import Derived.Stop.LaidErr
import Derived.Test.YthhklgjjnaeaoaaGreatDoorPk43
open Go.Obj renaming cells->K
open Option renaming some->M
open Go.Proofs.Tryz
namespace Go.Proofs.YthhklgjjnaeaoaaGreatDoor
open Go.ChangeShapes Go.WideShapes Go.ChangeAt Go.RowKit
theorem Mt:laidOutB prog=true:=by kernel_rfl
def Light {H:Type}(P:Program)(t:TypeId)(d:DataW H):Prop:=∀x∈d.weights P t,x<=reachBytes
theorem BM {H:Type}{P:Program}{t:TypeId}{b:List TypeId}{d:DataW H}{c:List (DataW H)}(h:∀x∈DataW.weightsEach P (t::b) (d::c),x<=reachBytes):Light P t d∧∀x∈DataW.weightsEach P b c,x<=reachBytes:=by
 rw[DataW.weightsEach] at h;exact⟨fun x a=>h x (bH _ a),fun x a=>h x (dN _ a)⟩
theorem Us {H:Type}{P:Program}{a:List TypeId}{b:List (DataW H)}(h:(DataW.weightsEach P a b).all (·<=reachBytes)=true):∀x∈DataW.weightsEach P a b,x<=reachBytes:=fun x c=>by
 simpa using dI.1 h x c
theorem Ut {H:Type}{P:Program}{e:TypeId}{l:List (DataW H)}{d:DataW H}(hd:d∈l):∀x∈d.weights P e,x∈DataW.weightsAll P e l:=by
 induction l with
 | nil=>cases hd
 | cons a t c =>
   intro x b;rw[DataW.weightsAll];rcases dZ.1 hd with rfl | hd
   . exact bH _ b
   . exact dN _ (c hd x b)
theorem PD {H:Type}{P:Program}{t e:TypeId}(ht:P.underlying t=some (.slice e)){elems spare:List (DataW H)}(h:Light P t (.slice elems spare)){d:DataW H}(hd:d∈elems):Light P e d:=by
 intro x hx;refine h x ?_;rw[DataW.weights,ht];exact cB _ (bH _ (Ut hd x hx))
theorem Hr {H:Type}{P:Program}{t e:TypeId}(ht:P.underlying t=some (.slice e)){elems spare:List (DataW H)}(h:Light P t (.slice elems spare)):(elems.length+spare.length)*P.bytesOf e<=reachBytes:=by
 refine h _ ?_;rw[DataW.weights,ht];exact cu ..
section
end
def Yj {H:Type}(d:DataW H)(n:Nat):Prop:=(d=.nil∧n=0)∨∃elems spare,d=.slice elems spare∧elems.length=n
section
variable {H:Type} {enc:TypeId×Value->H} {P:Program} {w:World} {base:Nat} {held:Bool}
theorem PE {u e:TypeId}{fuel:Nat}{cs:List Value}{d:DataW H}{p:List MemPlace}(hu:P.underlying u=some (.slice e))(he:P.underlying e=some (.int .u8))(hc:P.cellsOf e=1)
 (h:DataW.trod enc P w base (fun _=>true) held fuel u cs=some (d,p)) :
 ∃(a0:ak) (cap:Nat) (l:av),cs=[.slice a0 l.length cap]∧gN w a0 cap l∧Yj d l.length:=by
 rcases open_ints hu he hc h with ⟨hcs,hx⟩ | ⟨a,len,cap,zs,hcs,_,hl,_,hz,hx,hcell,hwz⟩
 . injection hx with hd _;exact⟨none,0,[],hcs,gN.nil w,Or.inl ⟨hd,rfl⟩⟩
 . simp only[if_true] at hz;injection hx with hd _;have hlen:((zs.take len).map fun z=>UInt8.ofNat z.toNat).length=len:=by rw[aF,bW];omega
   refine⟨some a,cap,(zs.take len).map (fun z=>UInt8.ofNat z.toNat),by rw[hlen];exact hcs,⟨by omega,(fun h=>by cases h),fun j hj=>⟨a,rfl,?_⟩⟩,Or.inr ⟨_,_,hd,?_⟩⟩
   . rw[hlen] at hj;have hj':j<zs.length:=by omega
     rw[hcell j hj'];have hg:zs.getD j 0=zs[j]:=by simp[List.getD,hj']
     have hw:=hwz zs[j] (aC _);have hx:0<=zs[j]∧zs[j]<=255:=by simpa[Lit.wf,IntKind.min,IntKind.max,IntKind.signed,IntKind.bits] using hw
     rw[hg];simp only[aG,List.getElem_take];have e:((UInt8.ofNat zs[j].toNat).toNat:Int)=zs[j]:=by
      rw[UInt8.toNat_ofNat'];omega
     rw[e]
   . simp[lits] <;> omega
theorem Yj.light {u e:TypeId}{d:DataW H}{n:Nat}(hu:P.underlying u=some (.slice e))(hb:P.bytesOf e=1)(h:Yj d n)(hL:Light P u d):n<=reachBytes:=by
 rcases h with ⟨rfl,rfl⟩ | ⟨elems,spare,rfl,rfl⟩
 . exact aA _
 . have:=Hr hu hL;rw[hb] at this;omega
end
section
variable {H:Type} {enc:TypeId×Value->H} {P:Program} {w:World} {base:Nat} {held:Bool}
theorem Uu {a:Nat->Bool}{t:TypeId}{c d e f:Field}{g:Nat}{b:List Value}{x:DataW H×List MemPlace}(p:P.underlying t=M (.struct #[c,d,e,f]))(h:DataW.trod enc P w base a held g t b=M x):
 ∃j k l m n, x.1 = .agg [j.1, k.1, l.1, m.1] ∧ b.length = P.cellsOf t ∧ DataW.trod enc P w base a held n c.type ((b.drop c.offset).take (P.cellsOf c.type)) = M j ∧
   DataW.trod enc P w base a held n d.type ((b.drop d.offset).take (P.cellsOf d.type))=M k∧DataW.trod enc P w base a held n e.type ((b.drop e.offset).take (P.cellsOf e.type))=M l∧DataW.trod enc P w base a held n f.type ((b.drop f.offset).take (P.cellsOf f.type))=M m:=by
 obtain⟨q,n,_,rfl,r,i,o⟩:=DataW.trod_struct p h;match q,i with
 | [j,k,l,m],_=>exact⟨j,k,l,m,n,by simp,r,by simpa using o 0 c rfl,by simpa using o 1 d rfl,by simpa using o 2 e rfl,by simpa using o 3 f rfl⟩
structure StepT (P:Program)(v k i b u8:TypeId):Prop where
 hv:P.underlying v=M (.slice k)
 hk:∃k0 k1 k2 k3:Field,P.underlying k=M (.struct #[k0,k1,k2,k3])∧k0.type=i∧k1.type=i∧k2.type=i∧k3.type=b∧k0.offset=0∧k1.offset=1∧k2.offset=2∧k3.offset=3
 hi:P.underlying i=M (.int .i64)
 hb:P.underlying b=M (.slice u8)
 h8:P.underlying u8=M (.int .u8)
 ci:P.cellsOf i=1
 cb:P.cellsOf b=1
 c8:P.cellsOf u8=1
 ck:P.cellsOf k=4
 b8:P.bytesOf u8=1
theorem Uv {v k i b u8:TypeId}(a:StepT P v k i b u8){c:Nat}{o:List Value}{d:DataW H}{p:List MemPlace}
 (h:DataW.trod enc P w base (fun _=>true) held c k o=M (d,p)) (hL:Light P k d) :
 ∃(x:Pt.aan) (s:UO),o=Yb x s∧gN w s.bo s.fU x.b∧x.b.length<=reachBytes:=by
 obtain⟨k0,k1,k2,k3,T,e,f,g,j,q,r,t,u⟩:=a.hk;obtain⟨y,z,B,m,n,C,W,q0,q1,q2,q3⟩:=Uu T h;rw[e,a.ci,q] at q0;rw[f,a.ci,r] at q1;rw[g,a.ci,t] at q2;rw[j,a.cb,u] at q3;rw[a.ck] at W;have hd:d=.agg [y.1,z.1,B.1,m.1]:=C;subst hd;have hw:∀x∈m.1.weights P b,x<=reachBytes:=by
  intro x C;refine hL x ?_;rw[DataW.weights,T];simp only[List.map_cons,List.map_nil,DataW.weightsEach,e,f,g,j,bU];exact dN _ (dN _ (dN _ C))
 match o,W with
 | [c0, c1, c2, c3], _ =>
   have D:DataW.trod enc P w base (fun _=>true) held n i [c0]=M (y.1,y.2):=by simpa using q0
   have G:DataW.trod enc P w base (fun _=>true) held n i [c1]=M (z.1,z.2):=by simpa using q1
   have L:DataW.trod enc P w base (fun _=>true) held n i [c2]=M (B.1,B.2):=by simpa using q2
   have N:DataW.trod enc P w base (fun _=>true) held n b [c3]=M (m.1,m.2):=by simpa using q3
   obtain⟨i0,e0,_,_⟩:=DataW.trod_int a.hi D;obtain⟨i1,e1,_,_⟩:=DataW.trod_int a.hi G;obtain⟨i2,e2,_,_⟩:=DataW.trod_int a.hi L;obtain⟨b0,fU,body,l,hB,sp⟩:=PE a.hb a.h8 a.c8 N;have S:=sp.light a.hb a.b8 hw;simp at e0 e1 e2 l;subst e0 e1 e2 l;exact⟨⟨i0,i1,i2,body⟩,⟨b0,fU⟩,rfl,hB,S⟩
theorem Mv {v k i b u8:TypeId}(Pd:StepT P v k i b u8){fuel:Nat}{a0:ak}{len cap:Nat}{d:DataW H}{p:List MemPlace}
 (h:DataW.trod enc P w base (fun _=>true) held fuel v [.slice a0 len cap]=some (d,p)) (hL:Light P v d) :
 ∃l:List Pt.aan,l.length=len∧rR w a0 cap l∧∀q∈l,q.b.length<=reachBytes:=by
 rcases Go.Deep.open_slice Pd.hv h with ⟨hcs,_⟩ | ⟨a,len',cap',m,n,D,Pl,hcs,_,hl,_,hm,hx,hcell⟩
 . simp at hcs;obtain⟨rfl,rfl,rfl⟩:=hcs;exact⟨[],rfl,rR.nil w,fun s hs=>by cases hs⟩
 . simp at hcs;obtain⟨rfl,rfl,rfl⟩:=hcs;simp only[if_true] at hm;subst hm;injection hx with hd _;subst hd;rw[Pd.ck] at hcell;have each:∀i,i<len->∃q:Pt.aan×UO,(∀j u,(Yb q.1 q.2)[j]? = some u->w.cell? (a.add (i*4+j))=some u)∧gN w q.2.bo q.2.fU q.1.b∧q.1.b.length<=reachBytes:=by
    intro i hi;obtain⟨cs',k1,k2⟩:=hcell i (by omega);obtain⟨q,x,rfl,hB,hz⟩:=Uv Pd k2 (PD Pd.hv hL (aN.2 ⟨i,List.mem_range.2 hi,rfl⟩));obtain⟨_,_,k3⟩:=World.cells?_some k1;refine⟨(q,x),fun j u hj=>?_,hB,hz⟩;have hj6:j<4:=(aQ.1 hj).1;have:=k3 j hj6;rw[Addr.add_add] at this;rw[this];simpa[Yb] using hj
   haveI:Inhabited (Pt.aan×UO):=⟨(⟨0,0,0,[]⟩,⟨none,0⟩)⟩
   obtain⟨Pe,hF⟩:=Go.Deep.choose_lt each;have hlen:((List.range len).map Pe).length=len:=by simp
   have hlen':(((List.range len).map Pe).map (·.1)).length=len:=by simp
   refine⟨((List.range len).map Pe).map (·.1),hlen',⟨(List.range len).map Pe,rfl,?_,fun q hq=>?_⟩,fun q hq=>?_⟩
   . rw[hlen'];refine⟨by omega,(fun h=>by cases h),fun j u hj=>⟨a,rfl,?_⟩⟩;have hlt:j<len*4:=by
      have:=(aQ.1 hj).1;rwa[EN,hlen] at this
     have hk:j / 4<((List.range len).map Pe).length:=by rw[hlen];omega
     have hp:=Pw _ (j / 4) hk (j % 4) (by omega);have hg:((List.range len).map Pe)[j / 4]=Pe (j / 4):=by simp
     rw[hg,show j / 4*4+j % 4=j by omega,hj] at hp;have hf:=(hF (j / 4) (by omega)).1 (j % 4) u hp.symm;rwa[show j / 4*4+j % 4=j by omega] at hf
   . obtain⟨j,hj,rfl⟩:=aN.1 hq;exact(hF j (List.mem_range.1 hj)).2.1
   . obtain⟨x,hx,rfl⟩:=aN.1 hq;obtain⟨j,hj,rfl⟩:=aN.1 hx;exact(hF j (List.mem_range.1 hj)).2.2
end
variable {H:Type} {enc:TypeId×Value->H} {P:Program} {w:World} {base:Nat} {held:Bool}
theorem PG {u t:TypeId}{fuel:Nat}{a0:ak}{len cap k:Nat}{d:DataW H}{p:List MemPlace}(hu:P.underlying u=some (.slice t))(hb:P.bytesOf t=k)(h:DataW.trod enc P w base (fun _=>true) held fuel u [.slice a0 len cap]=some (d,p))(hL:Light P u d):len*k<=reachBytes:=by
 rcases Go.Deep.open_slice hu h with ⟨hcs,_⟩ | ⟨a,len',cap',m,n,D,Pl,hcs,_,hl,_,hm,hx,hcell⟩
 . simp at hcs;obtain⟨rfl,rfl,rfl⟩:=hcs;rw[aY];exact aA _
 . simp at hcs;obtain⟨rfl,rfl,rfl⟩:=hcs;simp only[if_true] at hm;subst hm;injection hx with hd _;subst hd;have:=Hr hu hL;rw[hb] at this;simp at this;refine dB (Nat.mul_le_mul_right k ?_) this;omega
end Go.Proofs.YthhklgjjnaeaoaaGreatDoor
namespace Go.Proofs.YthhklgjjnaeaoaaGreatDoor
open Go.ChangeShapes Go.WideShapes Go.ChangeAt Go.RowKit
def Yk:DataW Unit->List Int
 | .agg l=>l.map fun | .lit (.int _ z)=>z | _=>0
 | _=>[]
def Yl (h:Array Obj):Array Obj :=
 ((((h.modify 1 (fun o=>match o with | K _ t frozen=>K ((Yk Rows.laid_internal_strconv_uint64pow10).map fun z=>Value.int .u64 z).toArray t frozen | o=>o)).modify 4 (fun o=>match o with | K _ t frozen=>K (Pinned.utf8FirstZ.map fun n:Nat=>Value.int .u8 (n:Int)).toArray t frozen | o=>o)).modify 5 (fun o=>match o with | K _ t frozen=>K (([128,191,160,191,128,159,144,191,128,143]++List.replicate 22 0).map fun n:Nat=>Value.int .u8 (n:Int)).toArray t frozen | o=>o)).modify 2 (fun o=>match o with | K _ t frozen=>K ((Yk Rows.laid_math_bits_deBruijn32tab).map fun z=>Value.int .u8 z).toArray t frozen | o=>o)).modify 3 (fun o=>match o with | K _ t frozen=>K ((Yk Rows.laid_math_bits_deBruijn64tab).map fun z=>Value.int .u8 z).toArray t frozen | o=>o)
end Go.Proofs.YthhklgjjnaeaoaaGreatDoor
namespace Go.Proofs.YthhklgjjnaeaoaaGreatDoor
open Go.ChangeShapes Go.WideShapes Go.ChangeAt Go.RowKit
theorem gPw:prog.globalNamed "internal/strconv.uint64pow10"=M 1:=by kernel_rfl
theorem aac:(prog.globals[1]?).map (·.type)=M 348:=by kernel_rfl
theorem aad:prog.cellsOf 348=20:=by kernel_rfl
theorem Ym:prog.cellsOf 321=1:=by kernel_rfl
theorem aae:Yk Rows.laid_internal_strconv_uint64pow10=Lib.pow10Tab:=by decide +kernel
theorem Mw {W:World}{rest:List (String×DataW Unit)}{x y:String×DataW Unit}(h:laidMet prog (x::y::("internal/strconv.uint64pow10",Rows.laid_internal_strconv_uint64pow10)::rest) W):kD W:=by
 have b:laidMet prog (("internal/strconv.uint64pow10",Lib.tabData .u64 (Yk Rows.laid_internal_strconv_uint64pow10))::rest) W:=h.tail.tail;have a:=Lib.tabIs_of_head (rest:=rest) gPw aac underlying348 underlying321 Ym aad b;rw[aae] at a;exact a
end Go.Proofs.YthhklgjjnaeaoaaGreatDoor