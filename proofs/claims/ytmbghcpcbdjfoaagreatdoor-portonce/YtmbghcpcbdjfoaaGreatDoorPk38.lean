import Derived.ProofKit
import Derived.OpenShut
import Derived.Deep.Strs
import Derived.HandedShaped
import Derived.Test.YtmbghcpcbdjfoaaGreatDoorRows
import Derived.Stop.LaidErr
import Derived.Test.YtmbghcpcbdjfoaaGreatDoorPk35
open Go.Obj renaming cells->K
open Option renaming some->M
open Go.Proofs.Tryz
namespace Go.Proofs.YtmbghcpcbdjfoaaGreatDoor
open Go.ChangeShapes Go.WideShapes Go.ChangeAt Go.RowKit
theorem TD:laidOutB prog=true:=by kernel_rfl
def pO {H:Type}(P:Program)(t:TypeId)(d:DataW H):Prop:=∀x∈d.weights P t,x<=reachBytes
theorem Ni {H:Type}{P:Program}{t:TypeId}{ts:List TypeId}{d:DataW H}{ds:List (DataW H)}(h:∀x∈DataW.weightsEach P (t::ts) (d::ds),x<=reachBytes):pO P t d∧∀x∈DataW.weightsEach P ts ds,x<=reachBytes:=by
 rw[DataW.weightsEach] at h;exact⟨fun x hx=>h x (qm _ hx),fun x hx=>h x (qr _ hx)⟩
theorem SB {H:Type}{P:Program}{a:List TypeId}{b:List (DataW H)}(h:(DataW.weightsEach P a b).all (·<=reachBytes)=true):∀x∈DataW.weightsEach P a b,x<=reachBytes:=fun x c=>by
 simpa using pm.1 h x c
theorem SC {H:Type}{P:Program}{e:TypeId}{l:List (DataW H)}{d:DataW H}(hd:d∈l):∀x∈d.weights P e,x∈DataW.weightsAll P e l:=by
 induction l with
 | nil=>cases hd
 | cons a t c =>
   intro x b;rw[DataW.weightsAll];rcases fr.1 hd with rfl | hd
   . exact qm _ b
   . exact qr _ (c hd x b)
theorem P8 {H:Type}{P:Program}{t e:TypeId}(ht:P.underlying t=some (.slice e)){elems spare:List (DataW H)}(h:pO P t (.slice elems spare)){d:DataW H}(hd:d∈elems):pO P e d:=by
 intro x hx;refine h x ?_;rw[DataW.weights,ht];exact iW _ (qm _ (SC hd x hx))
theorem EU {H:Type}{P:Program}{t e:TypeId}(ht:P.underlying t=some (.slice e)){elems spare:List (DataW H)}(h:pO P t (.slice elems spare)):(elems.length+spare.length)*P.bytesOf e<=reachBytes:=by
 refine h _ ?_;rw[DataW.weights,ht];exact mR ..
def It {H:Type}(d:DataW H)(n:Nat):Prop:=(d=.nil∧n=0)∨∃elems spare,d=.slice elems spare∧elems.length=n
section
variable {H:Type} {enc:TypeId×Value->H} {P:Program} {w:World} {base:Nat} {held:Bool}
theorem P9 {u e:TypeId}{i:Nat}{q:List Value}{d:DataW H}{p:List MemPlace}(s:P.underlying u=M (.slice e))(t:P.underlying e=M (.int .u8))(v:P.cellsOf e=1)
 (h:DataW.trod enc P w base (fun _=>true) held i u q=M (d,p)) :
 ∃(r:ai) (cap:Nat) (l:ae),q=[.slice r l.length cap]∧ay w r cap l∧It d l.length:=by
 rcases open_ints s t v h with ⟨f,m⟩ | ⟨a,len,cap,b,f,_,D,_,x,m,g,n⟩
 . injection m with o _;exact⟨none,0,[],f,ay.d w,Or.inl ⟨o,rfl⟩⟩
 . simp only[if_true] at x;injection m with o _;have c:((b.take len).map fun z=>UInt8.ofNat z.toNat).length=len:=by rw[ij,bP];omega
   refine⟨M a,cap,(b.take len).map (fun z=>UInt8.ofNat z.toNat),by rw[c];exact f,⟨by omega,(fun h=>by cases h),fun j y=>⟨a,rfl,?_⟩⟩,Or.inr ⟨_,_,o,?_⟩⟩
   . rw[c] at y;have k:j<b.length:=by omega
     rw[g j k];have B:b.getD j 0=b[j]:=by simp[List.getD,k]
     have C:=n b[j] (dG _);have m:0<=b[j]∧b[j]<=255:=by simpa[Lit.wf,IntKind.min,IntKind.max,IntKind.signed,IntKind.bits] using C
     rw[B];simp only[dH,List.getElem_take];have e:((UInt8.ofNat b[j].toNat).toNat:Int)=b[j]:=by
      rw[UInt8.toNat_ofNat'];omega
     rw[e]
   . simp[lits] <;> omega
theorem It.a {u e:TypeId}{d:DataW H}{n:Nat}(hu:P.underlying u=some (.slice e))(hb:P.bytesOf e=1)(h:It d n)(hL:pO P u d):n<=reachBytes:=by
 rcases h with ⟨rfl,rfl⟩ | ⟨elems,spare,rfl,rfl⟩
 . exact ax _
 . have:=EU hu hL;rw[hb] at this;omega
end
section
variable {H:Type} {enc:TypeId×Value->H} {P:Program} {w:World} {base:Nat} {held:Bool}
theorem Sp {a:Nat->Bool}{t:TypeId}{c d e f:Field}{g:Nat}{b:List Value}{x:DataW H×List MemPlace}(p:P.underlying t=M (.struct #[c,d,e,f]))(h:DataW.trod enc P w base a held g t b=M x):
 ∃j k l m n, x.1 = .agg [j.1, k.1, l.1, m.1] ∧ b.length = P.cellsOf t ∧ DataW.trod enc P w base a held n c.type ((b.drop c.offset).take (P.cellsOf c.type)) = M j ∧
   DataW.trod enc P w base a held n d.type ((b.drop d.offset).take (P.cellsOf d.type))=M k∧DataW.trod enc P w base a held n e.type ((b.drop e.offset).take (P.cellsOf e.type))=M l∧DataW.trod enc P w base a held n f.type ((b.drop f.offset).take (P.cellsOf f.type))=M m:=by
 obtain⟨q,n,_,rfl,r,i,o⟩:=DataW.trod_struct p h;match q,i with
 | [j,k,l,m],_=>exact⟨j,k,l,m,n,by simp,r,by simpa using o 0 c rfl,by simpa using o 1 d rfl,by simpa using o 2 e rfl,by simpa using o 3 f rfl⟩
structure BZ (P:Program)(v k i b u8:TypeId):Prop where
 f:P.underlying v=M (.slice k)
 m:∃k0 k1 k2 k3:Field,P.underlying k=M (.struct #[k0,k1,k2,k3])∧k0.type=i∧k1.type=i∧k2.type=i∧k3.type=b∧k0.offset=0∧k1.offset=1∧k2.offset=2∧k3.offset=3
 c:P.underlying i=M (.int .i64)
 e:P.underlying b=M (.slice u8)
 l:P.underlying u8=M (.int .u8)
 a:P.cellsOf i=1
 j:P.cellsOf b=1
 h:P.cellsOf u8=1
 d:P.cellsOf k=4
 g:P.bytesOf u8=1
theorem Sq {v k i b u8:TypeId}(Pd:BZ P v k i b u8){fuel:Nat}{cs:List Value}{d:DataW H}{p:List MemPlace}
 (h:DataW.trod enc P w base (fun _=>true) held fuel k cs=some (d,p)) (hL:pO P k d) :
 ∃(x:di) (s:mP),cs=nT x s∧ay w s.a s.b x.b∧x.b.length<=reachBytes:=by
 obtain⟨k0,k1,k2,k3,hk,kt0,kt1,kt2,kt3,ko0,ko1,ko2,ko3⟩:=Pd.m;obtain⟨y0,y1,y2,y3,n,hx,hl,q0,q1,q2,q3⟩:=Sp hk h;rw[kt0,Pd.a,ko0] at q0;rw[kt1,Pd.a,ko1] at q1;rw[kt2,Pd.a,ko2] at q2;rw[kt3,Pd.j,ko3] at q3;rw[Pd.d] at hl;have hd:d=.agg [y0.1,y1.1,y2.1,y3.1]:=hx;subst hd;have hw:∀x∈y3.1.weights P b,x<=reachBytes:=by
  intro x hx;refine hL x ?_;rw[DataW.weights,hk];simp only[List.map_cons,List.map_nil,DataW.weightsEach,kt0,kt1,kt2,kt3,eN];exact qr _ (qr _ (qr _ hx))
 match cs,hl with
 | [c0, c1, c2, c3], _ =>
   have q0':DataW.trod enc P w base (fun _=>true) held n i [c0]=some (y0.1,y0.2):=by simpa using q0
   have q1':DataW.trod enc P w base (fun _=>true) held n i [c1]=some (y1.1,y1.2):=by simpa using q1
   have q2':DataW.trod enc P w base (fun _=>true) held n i [c2]=some (y2.1,y2.2):=by simpa using q2
   have q3':DataW.trod enc P w base (fun _=>true) held n b [c3]=some (y3.1,y3.2):=by simpa using q3
   obtain⟨i0,e0,_,_⟩:=DataW.trod_int Pd.c q0';obtain⟨i1,e1,_,_⟩:=DataW.trod_int Pd.c q1';obtain⟨i2,e2,_,_⟩:=DataW.trod_int Pd.c q2';obtain⟨b0,gF,body,hb5,hB,sp⟩:=P9 Pd.e Pd.l Pd.h q3';have hbl:=sp.a Pd.e Pd.g hw;simp at e0 e1 e2 hb5;subst e0 e1 e2 hb5;exact⟨⟨i0,i1,i2,body⟩,⟨b0,gF⟩,rfl,hB,hbl⟩
theorem Nj {v k i b u8:TypeId}(Pd:BZ P v k i b u8){fuel:Nat}{a0:ai}{len cap:Nat}{d:DataW H}{p:List MemPlace}
 (h:DataW.trod enc P w base (fun _=>true) held fuel v [.slice a0 len cap]=some (d,p)) (hL:pO P v d) :
 ∃l:List di,l.length=len∧px w a0 cap l∧∀q∈l,q.b.length<=reachBytes:=by
 rcases Go.Deep.open_slice Pd.f h with ⟨hcs,_⟩ | ⟨a,len',cap',m,n,D,Pl,hcs,_,hl,_,hm,hx,hcell⟩
 . simp at hcs;obtain⟨rfl,rfl,rfl⟩:=hcs;exact⟨[],rfl,px.e w,fun s hs=>by cases hs⟩
 . simp at hcs;obtain⟨rfl,rfl,rfl⟩:=hcs;simp only[if_true] at hm;subst hm;injection hx with hd _;subst hd;rw[Pd.d] at hcell;have each:∀i,i<len->∃q:di×mP,(∀j u,(nT q.1 q.2)[j]? = some u->w.cell? (a.add (i*4+j))=some u)∧ay w q.2.a q.2.b q.1.b∧q.1.b.length<=reachBytes:=by
    intro i hi;obtain⟨cs',k1,k2⟩:=hcell i (by omega);obtain⟨q,x,rfl,hB,hz⟩:=Sq Pd k2 (P8 Pd.f hL (jT.2 ⟨i,List.mem_range.2 hi,rfl⟩));obtain⟨_,_,k3⟩:=World.cells?_some k1;refine⟨(q,x),fun j u hj=>?_,hB,hz⟩;have hj6:j<4:=(fB.1 hj).1;have:=k3 j hj6;rw[Addr.add_add] at this;rw[this];simpa[nT] using hj
   haveI:Inhabited (di×mP):=⟨(⟨0,0,0,[]⟩,⟨none,0⟩)⟩
   obtain⟨Pe,hF⟩:=Go.Deep.choose_lt each;have hlen:((List.range len).map Pe).length=len:=by simp
   have hlen':(((List.range len).map Pe).map (·.1)).length=len:=by simp
   refine⟨((List.range len).map Pe).map (·.1),hlen',⟨(List.range len).map Pe,rfl,?_,fun q hq=>?_⟩,fun q hq=>?_⟩
   . rw[hlen'];refine⟨by omega,(fun h=>by cases h),fun j u hj=>⟨a,rfl,?_⟩⟩;have hlt:j<len*4:=by
      have:=(fB.1 hj).1;rwa[En,hlen] at this
     have hk:j / 4<((List.range len).map Pe).length:=by rw[hlen];omega
     have hp:=Bs _ (j / 4) hk (j % 4) (by omega);have hg:((List.range len).map Pe)[j / 4]=Pe (j / 4):=by simp
     rw[hg,show j / 4*4+j % 4=j by omega,hj] at hp;have hf:=(hF (j / 4) (by omega)).1 (j % 4) u hp.symm;rwa[show j / 4*4+j % 4=j by omega] at hf
   . obtain⟨j,hj,rfl⟩:=jT.1 hq;exact(hF j (List.mem_range.1 hj)).2.1
   . obtain⟨x,hx,rfl⟩:=jT.1 hq;obtain⟨j,hj,rfl⟩:=jT.1 hx;exact(hF j (List.mem_range.1 hj)).2.2
end
variable {H:Type} {enc:TypeId×Value->H} {P:Program} {w:World} {base:Nat} {held:Bool}
theorem Qa {u t:TypeId}{fuel:Nat}{a0:ai}{len cap k:Nat}{d:DataW H}{p:List MemPlace}(hu:P.underlying u=some (.slice t))(hb:P.bytesOf t=k)(h:DataW.trod enc P w base (fun _=>true) held fuel u [.slice a0 len cap]=some (d,p))(hL:pO P u d):len*k<=reachBytes:=by
 rcases Go.Deep.open_slice hu h with ⟨hcs,_⟩ | ⟨a,len',cap',m,n,D,Pl,hcs,_,hl,_,hm,hx,hcell⟩
 . simp at hcs;obtain⟨rfl,rfl,rfl⟩:=hcs;rw[pj];exact ax _
 . simp at hcs;obtain⟨rfl,rfl,rfl⟩:=hcs;simp only[if_true] at hm;subst hm;injection hx with hd _;subst hd;have:=EU hu hL;rw[hb] at this;simp at this;refine ce (Nat.mul_le_mul_right k ?_) this;omega
end Go.Proofs.YtmbghcpcbdjfoaaGreatDoor
namespace Go.Proofs.YtmbghcpcbdjfoaaGreatDoor
open Go.ChangeShapes Go.WideShapes Go.ChangeAt Go.RowKit
def wl:DataW Unit->List Int
 | .agg l=>l.map fun | .lit (.int _ z)=>z | _=>0
 | _=>[]
def TE (h:Array Obj):Array Obj :=
 ((((h.modify 1 (fun o=>match o with | K _ t frozen=>K ((wl Rows.laid_internal_strconv_uint64pow10).map fun z=>Value.int .u64 z).toArray t frozen | o=>o)).modify 4 (fun o=>match o with | K _ t frozen=>K (Pinned.utf8FirstZ.map fun n:Nat=>Value.int .u8 (n:Int)).toArray t frozen | o=>o)).modify 5 (fun o=>match o with | K _ t frozen=>K (([128,191,160,191,128,159,144,191,128,143]++List.replicate 22 0).map fun n:Nat=>Value.int .u8 (n:Int)).toArray t frozen | o=>o)).modify 2 (fun o=>match o with | K _ t frozen=>K ((wl Rows.laid_math_bits_deBruijn32tab).map fun z=>Value.int .u8 z).toArray t frozen | o=>o)).modify 3 (fun o=>match o with | K _ t frozen=>K ((wl Rows.laid_math_bits_deBruijn64tab).map fun z=>Value.int .u8 z).toArray t frozen | o=>o)
theorem UT:prog.globalNamed "internal/strconv.uint64pow10"=M 1:=by kernel_rfl
theorem Ui:(prog.globals[1]?).map (·.type)=M 345:=by kernel_rfl
theorem Uj:prog.cellsOf 345=20:=by kernel_rfl
theorem TF:prog.cellsOf 318=1:=by kernel_rfl
theorem Uk:wl Rows.laid_internal_strconv_uint64pow10=Lib.pow10Tab:=by decide +kernel
theorem Nk {W:World}{rest:List (String×DataW Unit)}{x y:String×DataW Unit}(h:laidMet prog (x::y::("internal/strconv.uint64pow10",Rows.laid_internal_strconv_uint64pow10)::rest) W):fu W:=by
 have b:laidMet prog (("internal/strconv.uint64pow10",Lib.tabData .u64 (wl Rows.laid_internal_strconv_uint64pow10))::rest) W:=h.tail.tail;have a:=Lib.tabIs_of_head (rest:=rest) UT Ui underlying345 underlying318 TF Uj b;rw[Uk] at a;exact a
