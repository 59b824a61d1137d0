import Derived.Test.YtodmelffkfbalaaGreatDoorPk17
import Derived.Test.YtodmelffkfbalaaGreatDoorPk15
import Derived.Test.YtodmelffkfbalaaGreatDoorPk10
open Go.Value renaming int->I,string->V,slice->Z,pointer->Q
open Go.IntKind renaming i64->J
open Go.Obj renaming cells->K
open Go.Ending renaming returned->Y
open Option renaming none->U,some->M
open Bool renaming false->F
open Or renaming inl->A,inr->R
open Go renaming World->X
set_option maxHeartbeats 1600000
set_option maxRecDepth 100000
open Go.Proofs.Tryz
namespace Go.Proofs.YtodmelffkfbalaaGreatDoor
open Go.RowKit
def cN (w:X)(S:Nat->Prop)(g:Nat)(s:ct):Prop :=
 ∃ao cap, w.heap[g]? = M (K #[Z ao s.b.length cap, .bool s.c, I J (s.a : Int)] 263 (0, 0)) ∧
   bl w 0 5 ao cap s.b∧S g∧∀a,ao=M a->S a.block
theorem cN.r {w:X}{S:Nat->Prop}{g:Nat}{s:ct}(h:cN w S g s):g<w.heap.size:=by grind [cN]
theorem cN.a {w:X}{S S':Nat->Prop}{g:Nat}{s:ct}(h:cN w S g s)(c:∀k,k<w.heap.size->S k->S' k):cN w S' g s:=by
 obtain⟨i,b,d,f,j,l⟩:=h;exact⟨i,b,d,f,c g (bM.1 d).1 j,fun a e=>c _ (f.e a e).2 (l a e)⟩
theorem cN.e {w w':X}{S S':Nat->Prop}{g:Nat}{s:ct}(h:cN w S g s)(c:ak S' w w')(d:∀k,S k->¬S' k):cN w' S g s:=by
 obtain⟨j,b,l,m,f,i⟩:=h;exact⟨j,b,c.q l (d g f),m.j c (fun a e=>d _ (i a e)),f,i⟩
theorem cN.j {w:X}{S:Nat->Prop}{g:Nat}{s:ct}(h:cN w S g s)(n:Nat):cN (w.drewN n) S g s:=h.e (ak.B (fun _=>False) w n) (fun _ _ e=>e)
theorem cN.f {w:X}{S:Nat->Prop}{g:Nat}{s:ct}(h:cN w S g s)(k:Nat):cN (w.setCell ⟨g,2,U⟩ (I J (k:Int))) S g { s with a:=k }∧ak S w (w.setCell ⟨g,2,U⟩ (I J (k:Int))):=by
 obtain⟨j,b,c,d,f,l⟩:=h;refine⟨⟨j,b,?_,d.j (ak.j (fun i=>i=g) w _ _ rfl) ?_,f,l⟩,ak.j S w _ _ f⟩
 . rw[aR w g 2 _ _ _ c];rfl
 . intro a e;have:=gG c d (by decide);rw[dp,e] at this;intro m;exact this (by simp[aw,m])
theorem cN.q {w:X}{S:Nat->Prop}{g:Nat}{s:ct}(h:cN w S g s)(b:Bool):cN (w.setCell ⟨g,1,U⟩ (.bool b)) S g { s with c:=b }∧ak S w (w.setCell ⟨g,1,U⟩ (.bool b)):=by
 obtain⟨k,c,d,f,j,l⟩:=h;refine⟨⟨k,c,?_,f.j (ak.j (fun i=>i=g) w _ _ rfl) ?_,j,l⟩,ak.j S w _ _ j⟩
 . rw[aR w g 1 _ _ _ d];rfl
 . intro a e;have:=gG d f (by decide);rw[dp,e] at this;intro m;exact this (by simp[aw,m])
theorem cN.y {w:X}{S:Nat->Prop}{g:Nat}{s:ct}(h:cN w S g s):cN (w.setCell ⟨g,0,U⟩ (Z U 0 0)) S g { s with b:=[] }∧ak S w (w.setCell ⟨g,0,U⟩ (Z U 0 0)):=by
 obtain⟨f,c,d,i,b,j⟩:=h;refine⟨⟨U,0,?_,bl.q _ _ _,b,fun a e=>by cases e⟩,ak.j S w _ _ b⟩;rw[aR w g 0 _ _ _ d];rfl
theorem cN.B {w c:X}{S:Nat->Prop}{g:Nat}{s:ct}{l:ab}{ao:ag}{cap:Nat}{gL:ag}{b:Nat}(o:w.heap[g]? = M (K #[Z ao s.b.length cap,.bool s.c,I J (s.a:Int)] 263 (0,0)))(f:S g)(j:bl c 0 5 gL b l)(m:ak (fun k=>S k∧k≠g) w c)(ha:∀a,gL=M a->ay S w a.block)(n:Nat)(p:n=l.length):
 cN (c.setCell ⟨g,0,U⟩ (Z gL n b)) (ay S w) g { s with b:=l }∧ak S w (c.setCell ⟨g,0,U⟩ (Z gL n b)):=by
 subst p;have d:=m.q o (fun e=>e.2 rfl);refine⟨⟨gL,b,?_,j.j (ak.j (fun i=>i=g) c _ _ rfl) ?_,A f,ha⟩,(m.f (fun k e=>e.1)).a (ak.j S c _ _ f) (fun i e _=>e)⟩
 . rw[aR c g 0 _ _ _ d];rfl
 . intro a e;have:=gG d j (by decide);rw[dp,e] at this;intro q;exact this (by simp[aw,q])
theorem BF (w:X):
 Calls prog 147 #[] w fun e w'=>e=Y (Q (M ⟨w.heap.size,0,U⟩))∧cN w' (fun k=>w.heap.size<=k) w.heap.size dv∧Below w.heap.size w w':=by
 go_enter func147,ntmps147;go_wp2;go_ret;exact⟨rfl,⟨U,0,be w _,bl.q _ _ _,am _,fun a e=>by cases e⟩,(ar _ _).alloc (am _) _⟩
theorem xW (w:X)(S:Nat->Prop)(g:Nat)(s:ct)(c:UInt8)(h:cN w S g s):
 Calls prog 221 #[Q (M ⟨g,0,U⟩),I .u8 c.toNat] w fun e w'=>e=Y (I J (fq s c:Int))∧w'=w:=by
 obtain⟨x,u,r,_⟩:=h;have y:=aq w g 0 _ _ _ r;have k:=aq w g 1 _ _ _ r;have l:=vH (c.toNat:Int) w;by_cases b:s.c=(c==10)
 . by_cases m:c=13
   . have p:((c.toNat:Int)==13)=true:=by rw[m];rfl
     have f:((c.toNat:Int)==10)=F:=by rw[m];rfl
     have d:fq s c=0:=by unfold fq;rw[if_pos b,if_pos (A m)]
     have i:s.c=F:=by rw[b,m];rfl
     rw[d];rw[i] at k;go_enter func221,ntmps221;go_wp2;go_ret;exact⟨rfl,rfl⟩
   . have p:((c.toNat:Int)==13)=F:=ot m;by_cases a:c=10
     . have f:((c.toNat:Int)==10)=true:=by rw[a];rfl
       have d:fq s c=0:=by unfold fq;rw[if_pos b,if_pos (R a)]
       have i:s.c=true:=by rw[b,a];rfl
       rw[d];rw[i] at k;go_enter func221,ntmps221;go_wp2;go_ret;exact⟨rfl,rfl⟩
     . have f:((c.toNat:Int)==10)=F:=ot a;have i:s.c=F:=by rw[b];exact aO.2 a
       have j:¬(c=13∨c=10):=by rintro (e | e) <;> contradiction
       rw[i] at k;cases n:ex (c.toNat:Int)
       . have d:fq s c=3:=by unfold fq;rw[if_pos b,if_neg j,if_pos n]
         rw[n] at l;rw[d];go_enter func221,ntmps221;go_wp2_with fail;refine l.mono ?_;rintro e w' ⟨rfl,o⟩;subst o;go_wp2;go_ret;exact⟨rfl,rfl⟩
       . rw[n] at l;by_cases t:200<=s.b.length
         . have d:fq s c=4:=by unfold fq;rw[if_pos b,if_neg j,if_neg (by rw[n];simp),if_pos t]
           have v:decide ((s.b.length:Int)≥200)=true:=by rw[bN];omega
           rw[d];go_enter func221,ntmps221;go_wp2_with fail;refine l.mono ?_;rintro e w' ⟨rfl,o⟩;subst o;go_wp2;go_ret;exact⟨rfl,rfl⟩
         . have d:fq s c=0:=by unfold fq;rw[if_pos b,if_neg j,if_neg (by rw[n];simp),if_neg t]
           have v:decide ((s.b.length:Int)≥200)=F:=by rw[cz];omega
           rw[d];go_enter func221,ntmps221;go_wp2_with fail;refine l.mono ?_;rintro e w' ⟨rfl,o⟩;subst o;go_wp2;go_ret;exact⟨rfl,rfl⟩
 . have d:fq s c=2:=by unfold fq;rw[if_neg b]
   rw[d];by_cases a:c=10
   . have f:((c.toNat:Int)==10)=true:=by rw[a];rfl
     have i:s.c=F:=by
      cases q:s.c
      . rfl
      . exact absurd (by rw[q,a];rfl) b
     rw[i] at k;go_enter func221,ntmps221;go_wp2;go_ret;exact⟨rfl,rfl⟩
   . have f:((c.toNat:Int)==10)=F:=ot a;have i:s.c=true:=by
      cases q:s.c
      . exact absurd (by rw[q];exact(aO.2 a).symm) b
      . rfl
     rw[i] at k;go_enter func221,ntmps221;go_wp2;go_ret;exact⟨rfl,rfl⟩
def kH (s:ct)(c:UInt8):Value:=.tuple #[V ⟨(cT s c).toArray⟩,.bool (fI s c),I J ((bj s c).a:Int)]
theorem ux {s a:ct}{c:UInt8}{t:ab}{b:Bool}{k:Nat}(d:cT s c=t)(e:fI s c=b)(f:bj s c=a)(g:a.a=k):kH s c=.tuple #[V ⟨t.toArray⟩,.bool b,I J (k:Int)]:=by
 unfold kH;rw[d,e,f,g]
theorem yq {w:X}{S:Nat->Prop}{g:Nat}{s:ct}(h:cN w S g s)(W:X):cN w (ay S W) g s:=h.a (fun _ _ e=>A e)
theorem az.nU (W:X)(c:UInt8)(t:Nat)(a:Nat×Nat){k:Nat}(b:W.heap.size=k):az (W.alloc (K #[I .u8 (c.toNat:Int)] t a)) (M ⟨k,0,U⟩) 1 [c]:=b▸az.f W c t a
theorem RD {W b:X}{g:Nat}{row:Obj}{r:Option Nat}(c:W.heap[g]? = M row)(d:Obj)(e:(W.alloc d).grownBy b r)(f:M g≠r):b.heap[g]? = M row:=by
 have a:g<W.heap.size:=(bM.1 c).1;have:=e.block g (by simp;omega) f;rw[this,(ri W d U).block g a (by simp)];exact c
theorem Nq (w:X)(S:Nat->Prop)(g:Nat)(s:ct)(c:UInt8)(h:cN w S g s)(b:s.a≠0):
 Calls prog 165 #[Q (M ⟨g,0,U⟩),I .u8 c.toNat] w fun e w'=>e=Y (kH s c)∧cN w' (ay S w) g (bj s c)∧ak S w w':=by
 have a:=Mw c b;rw[ux a.2.1 a.2.2 a.1 rfl,a.1];have d:=aa h;obtain⟨j,f,i,_⟩:=h;have k:=aq w g 2 _ _ _ i;have l:((s.a:Int)==0)=F:=by rw[aO];omega
 have m:((s.a:Int) != 0)=true:=by rw[dh];omega
 go_enter func165,ntmps165;go_wp2;go_quiet (fail)
 go_wp2;go_ret3
 exact⟨rfl,yq (d.o.j _) w,ak.B _ _ _⟩
theorem Ql (w:X)(S:Nat->Prop)(g:Nat)(s:ct)(c:UInt8)(k:Nat)(h:cN w S g s)(m:s.a=0)(a:fq s c=k)(d:k≠0):
 Calls prog 165 #[Q (M ⟨g,0,U⟩),I .u8 c.toNat] w fun e w'=>e=Y (kH s c)∧cN w' (ay S w) g (bj s c)∧ak S w w':=by
 have f:bj s c={ s with a:=k }:=by unfold bj;rw[if_neg (by omega),a,if_pos d]
 rw[ux (t:=[]) (b:=F) (by unfold cT;rw[if_neg (fun e=>d (a.symm.trans e.2.1))]) (by unfold fI;rw[cz];exact fun e=>d (a.symm.trans e.2.1)) f rfl,f];have i:=xW w S g s c h;rw[a] at i;have j:=h.f k;obtain⟨p,n,l,_⟩:=h;have q:w.cell? ⟨g,2,U⟩=M (I J 0):=by
  rw[aq w g 2 _ _ _ l];simp[m]
 have r:=aP w g 2 _ _ l;have u:((k:Int) != 0)=true:=by rw[dh];omega
 go_enter func165,ntmps165;go_wp2_with fail;refine i.mono ?_;rintro e v ⟨rfl,o⟩;subst o;go_wp2;go_quiet (fail)
 go_wp2;go_ret3
 exact⟨rfl,yq (j.1.j _) _,j.2.a (ak.B S _ _) (fun _ e _=>e)⟩
theorem RE (w:X)(S:Nat->Prop)(g:Nat)(s:ct)(h:cN w S g s)(j:s.a=0)(f:fq s 10=0):
 Calls prog 165 #[Q (M ⟨g,0,U⟩),I .u8 10] w fun e w'=>e=Y (kH s 10)∧cN w' (ay S w) g (bj s 10)∧ak S w w':=by
 have k:bj s 10=⟨[],F,0⟩:=by unfold bj;rw[if_neg (by omega),f];rfl
 rw[ux (t:=s.b) (b:=true) (by unfold cT;rw[if_pos ⟨j,f,rfl⟩]) (by unfold fI;rw[bN];exact⟨j,f,rfl⟩) k rfl,k];have l:=xW w S g s 10 h;rw[f] at l;have m:=h.f 0;have d:=m.1.y;have n:=d.1.q F;obtain⟨v,p,c,o,_⟩:=h;have x:=aq w g 0 _ _ _ c;have y:=aq w g 1 _ _ _ c;have z:w.cell? ⟨g,2,U⟩=M (I J 0):=by
  rw[aq w g 2 _ _ _ c];simp[j]
 have B:=aP w g 0 _ _ c;have C:=aP w g 1 _ _ c;have D:=aP w g 2 _ _ c;have q:=(o.f.r (w':=w.setCell ⟨g,2,U⟩ (I J 0)) (ak.j (fun i=>i=g) w _ _ rfl) (fun a e=>by
  have:=gG c o (by decide);rw[dp,e] at this;intro r;exact this (by simp[aw,r]))).B (P:=prog) 31 9 5 underlying31 underlying5 underlying9
 generalize (⟨s.b.toArray⟩:ae)=bs at q ⊢;go_enter func165,ntmps165;go_wp2_with fail;refine l.mono ?_;rintro e G ⟨rfl,u⟩;subst u;go_wp2;go_ret3
 exact⟨rfl,yq n.1 _,m.2.a (d.2.a n.2 (fun _ e _=>e)) (fun _ e _=>e)⟩
theorem SN (w:X)(S:Nat->Prop)(g:Nat)(s:ct)(h:cN w S g s)(c:s.a=0)(d:fq s 13=0):
 Calls prog 165 #[Q (M ⟨g,0,U⟩),I .u8 13] w fun e w'=>e=Y (kH s 13)∧cN w' (ay S w) g (bj s 13)∧ak S w w':=by
 have f:bj s 13=⟨s.b,true,0⟩:=by unfold bj;rw[if_neg (by omega),d,c];rfl
 rw[ux (t:=[]) (b:=F) (by unfold cT;rw[if_neg (fun e=>by cases e.2.2)]) (by unfold fI;rw[cz];exact fun e=>by cases e.2.2) f rfl,f];have i:=xW w S g s 13 h;rw[d] at i;have j:=h.f 0;have k:=j.1.q true;obtain⟨n,l,a,o,_⟩:=h;have p:=aq w g 1 _ _ _ a;have q:w.cell? ⟨g,2,U⟩=M (I J 0):=by
  rw[aq w g 2 _ _ _ a];simp[c]
 have r:=aP w g 1 _ _ a;have u:=aP w g 2 _ _ a;go_enter func165,ntmps165;go_wp2_with fail;refine i.mono ?_;rintro e v ⟨rfl,m⟩;subst m;go_wp2;go_ret3
 exact⟨rfl,yq k.1 _,j.2.a k.2 (fun _ e _=>e)⟩
theorem Qm (w:X)(S:Nat->Prop)(g:Nat)(s:ct)(c:UInt8)(h:cN w S g s)(hs:s.b.length<=200)(C:s.a=0)(D:fq s c=0)(d:c≠10)(G:c≠13):
 Calls prog 165 #[Q (M ⟨g,0,U⟩),I .u8 c.toNat] w fun e w'=>e=Y (kH s c)∧cN w' (ay S w) g (bj s c)∧ak S w w':=by
 have H:bj s c=⟨s.b++[c],s.c,0⟩:=by unfold bj;rw[if_neg (by omega),D,if_neg (by omega),if_neg d,if_neg G,C]
 rw[ux (t:=[]) (b:=F) (by unfold cT;rw[if_neg (fun e=>d e.2.2)]) (by unfold fI;rw[cz];exact fun e=>d e.2.2) H rfl,H];have L:=xW w S g s c h;rw[D] at L;have t10:((c.toNat:Int)==10)=F:=ot d;have t13:((c.toNat:Int)==13)=F:=ot G;have HS:=h.f 0;obtain⟨f,j,m,N,h1,T⟩:=h;obtain⟨i0,v,x,y,z⟩:=info_parts gm;have Hi:=v;have kS:=aa x;have kM:=aa y;have kT:=aa z
 have n:∀a,f=M a->a.block≠g:=fun a e e2=>by
  have:=gG m N (by decide);rw[dp,e] at this;exact this (by simp[aw,e2])
 have c0:w.cell? ⟨g,0,U⟩=M (Z f s.b.length j):=aq w g 0 _ _ _ m;have c2:w.cell? ⟨g,2,U⟩=M (I J 0):=by
  rw[aq w g 2 _ _ _ m];simp[C]
 have f0:w.frozen? ⟨g,0,U⟩=F:=aP w g 0 _ _ m;have f2:w.frozen? ⟨g,2,U⟩=F:=aP w g 2 _ _ m;have HO:=N.j (w':=w.setCell ⟨g,2,U⟩ (I J 0)) (ak.j (fun i=>i=g) w _ _ rfl) (fun a e=>n a e);have W:(w.setCell ⟨g,2,U⟩ (I J 0)).heap[g]? = M (K #[Z f s.b.length j,.bool s.c,I J (0:Int)] 263 (0,0)):=by
  show _=_;rw[aR w g 2 _ _ _ m];rfl
 have hlt:g<w.heap.size:=(bM.1 m).1;go_enter func165,ntmps165;go_wp2_with fail;refine L.mono ?_;rintro e u ⟨rfl,hw⟩;subst hw;have HN:M g≠aw f:=by
  cases f with
  | none=>simp[aw]
  | some a=>intro e;injection e with e;exact n a rfl e.symm
 go_wp2_with (at_builtin;refine sR rfl (.tmp 23) (.tmp 25) 31 rfl 0 5 i0 underlying31 Hi kS.o kM.o kT.o (l:=s.b) (l2:=[c]) rfl rfl (HO.a _) rfl rfl (az.nU _ _ _ _ (by simp)) (by simp;omega) (ax _) ?_;intro lN iw q r p kE;have B:=RD W _ p HN;have c3:q.cell? ⟨g,0,U⟩=M (Z f s.b.length j):=aq q g 0 _ _ _ B;have f3:q.frozen? ⟨g,0,U⟩=F:=aP q g 0 _ _ B;have sW:=aa r;have yK:=aa p;have Ki:=aa kE;clear r p kE B)
 go_ret3
 have hz:(u.setCell ⟨g,2,U⟩ (I J 0)).heap.size=u.heap.size:=by simp
 have hT:ak (fun k=>S k∧k≠g) (u.setCell ⟨g,2,U⟩ (I J 0)) q :=
  (ak.y (ri _ _ U) (fun k e => by cases e)).a (ak.y yK.o (S := fun k => S k ∧ k ≠ g) (fun k e => by
   cases f with
   | none=>cases e
   | some a=>injection e with e;subst e;exact⟨T a rfl,n a rfl⟩)) (fun _ e _=>e)
 have hA:∀a,lN=M a->ay S (u.setCell ⟨g,2,U⟩ (I J 0)) a.block:=by
  intro a e;subst e;rcases Ki.o with e | e
  . cases f with
    | none=>cases e
    | some a'=>injection e with e;rw[e];exact A (T a' rfl)
  . injection e with e;rw[e];exact R (by simp)
 have hL:=cN.B (s:=⟨s.b,s.c,0⟩) W h1 sW.o hT hA (s.b.length+1) (by simp);refine⟨rfl,hL.1.a (fun k _ e=>?_),HS.2.a hL.2 (fun _ e _=>e)⟩;rcases e with e | e
 . exact A e
 . exact R (by omega)
theorem xX (w:X)(S:Nat->Prop)(g:Nat)(s:ct)(c:UInt8)(h:cN w S g s)(i:s.b.length<=200):
 Calls prog 165 #[Q (M ⟨g,0,U⟩),I .u8 c.toNat] w fun e w'=>e=Y (kH s c)∧cN w' (ay S w) g (bj s c)∧ak S w w':=by
 by_cases a:s.a=0
 . by_cases d:fq s c=0
   . by_cases b:c=10
     . subst b;exact RE w S g s h a d
     . by_cases f:c=13
       . subst f;exact SN w S g s h a d
       . exact Qm w S g s c h i a d b f
   . exact Ql w S g s c _ h a rfl d
 . exact Nq w S g s c h a
structure cP (w:X)(S:Nat->Prop)(g gl:Nat)(nx lf rm fd code:Int)(ln:ct):Prop where
 b:w.heap[g]? = M (K #[Q (M ⟨gl,0,U⟩),I J nx,I J lf,I J rm,I J fd,I J code] 315 (0,0))
 c:S g
 d:cN w (fun k=>S k∧k≠g) gl ln
def jv (w:X)(S:Nat->Prop)(g:Nat)(s:dy):Prop :=
 ∃gl nx lf rm fd ln,cP w S g gl nx lf rm fd (fj s:Int) ln∧(fj s=0->ln=s.d∧nx=(ib s:Int)∧lf=(jX s:Int)∧rm=4000-(s.f:Int)∧fd=(s.e:Int))
section
variable {w w':X} {S S':Nat->Prop} {g gl:Nat} {nx lf rm fd code:Int} {ln:ct}
theorem cP.jL (h:cP w S g gl nx lf rm fd code ln)(a:∀k,k<w.heap.size->S k->S' k):cP w S' g gl nx lf rm fd code ln :=
 ⟨h.b,a g (bM.1 h.b).1 h.c,h.d.a (fun k b e=>⟨a k b e.1,e.2⟩)⟩
theorem cP.G (h:cP w S g gl nx lf rm fd code ln)(a:ak S' w w')(b:∀k,S k->¬S' k):cP w' S g gl nx lf rm fd code ln :=
 ⟨a.q h.b (b g h.c),h.c,h.d.e a (fun k e=>b k e.1)⟩
theorem cP.j (h:cP w S g gl nx lf rm fd code ln)(a:Below w.heap.size w w'):cP w' S g gl nx lf rm fd code ln:=h.G (ak.e (S:=fun _=>False) a) (fun _ _ e=>e)
theorem cP.a (h:cP w S g gl nx lf rm fd code ln)(j:Nat)(a:j<6):w.cell? ⟨g,j,U⟩=#[Value.pointer (M ⟨gl,0,U⟩),I J nx,I J lf,I J rm,I J fd,I J code][j]?:=by
 match j,a with
 | 0,_=>exact aq w g 0 _ _ _ h.b
 | 1,_=>exact aq w g 1 _ _ _ h.b
 | 2,_=>exact aq w g 2 _ _ _ h.b
 | 3,_=>exact aq w g 3 _ _ _ h.b
 | 4,_=>exact aq w g 4 _ _ _ h.b
 | 5,_=>exact aq w g 5 _ _ _ h.b
theorem cP.f (h:cP w S g gl nx lf rm fd code ln)(j:Nat):w.frozen? ⟨g,j,U⟩=F:=aP w g j _ _ h.b
theorem cP.y (h:cP w S g gl nx lf rm fd code ln)(j:Nat)(v:Value){b c d f a:Int}
 (e:(#[Value.pointer (M ⟨gl,0,U⟩),I J nx,I J lf,I J rm,I J fd,I J code].setIfInBounds j v)=#[Value.pointer (M ⟨gl,0,U⟩),I J b,I J c,I J d,I J f,I J a]) :
 cP (w.setCell ⟨g,j,U⟩ v) S g gl b c d f a ln:=by
 refine⟨?_,h.c,h.d.e (ak.j (fun i=>i=g) w _ _ rfl) (fun k e=>e.2)⟩;rw[aR w g j _ _ _ h.b,e]
theorem cP.r (h:cP w S g gl nx lf rm fd code ln)(k:Int):cP (w.setCell ⟨g,1,U⟩ (I J k)) S g gl k lf rm fd code ln:=h.y 1 _ rfl
theorem cP.B (h:cP w S g gl nx lf rm fd code ln)(k:Int):cP (w.setCell ⟨g,2,U⟩ (I J k)) S g gl nx k rm fd code ln:=h.y 2 _ rfl
theorem cP.lG (h:cP w S g gl nx lf rm fd code ln)(k:Int):cP (w.setCell ⟨g,3,U⟩ (I J k)) S g gl nx lf k fd code ln:=h.y 3 _ rfl
theorem cP.kW (h:cP w S g gl nx lf rm fd code ln)(k:Int):cP (w.setCell ⟨g,4,U⟩ (I J k)) S g gl nx lf rm k code ln:=h.y 4 _ rfl
theorem cP.q (h:cP w S g gl nx lf rm fd code ln)(k:Int):cP (w.setCell ⟨g,5,U⟩ (I J k)) S g gl nx lf rm fd k ln:=h.y 5 _ rfl
theorem cP.e (h:cP w S g gl nx lf rm fd code ln)(j:Nat)(v:Value):ak S w (w.setCell ⟨g,j,U⟩ v):=ak.j S w _ _ h.c
end
theorem jv.a {w:X}{S S':Nat->Prop}{g:Nat}{s:dy}(h:jv w S g s)(a:∀k,k<w.heap.size->S k->S' k):jv w S' g s:=by
 obtain⟨b,nx,lf,c,d,e,h,k⟩:=h;exact⟨b,nx,lf,c,d,e,h.jL a,k⟩
theorem jv.f {w w':X}{S S':Nat->Prop}{g:Nat}{s:dy}(h:jv w S g s)(a:ak S' w w')(b:∀k,S k->¬S' k):jv w' S g s:=by
 obtain⟨c,nx,lf,d,e,f,h,k⟩:=h;exact⟨c,nx,lf,d,e,f,h.G a b,k⟩
theorem KY (w:X):
 Calls prog 225 #[] w fun e w'=>∃g,e=Y (Q (M ⟨g,0,U⟩))∧jv w' (fun k=>w.heap.size<=k) g rM∧Below w.heap.size w w':=by
 go_enter func225,ntmps225;go_wp2_with fail;refine(BF w).mono ?_;rintro e a ⟨rfl,i,j⟩;have d:=i;have f:=aa j
 go_wp2;go_ret;have b:=f.o.size;have l:=d.r;have m:ak (fun _=>False) a (a.alloc (K #[Q (M ⟨w.heap.size,0,U⟩),I J 0,I J 0,I J 4000,I J 0,I J 0] 315)):=ak.e ((ar _ _).alloc (am _) _);have c:=(d.a (S':=fun k=>w.heap.size<=k∧k≠a.heap.size) (fun k n e=>⟨e,by omega⟩)).e m (fun _ _ e=>e);exact⟨a.heap.size,rfl,⟨w.heap.size,0,0,4000,0,dv,⟨be a _,b,c⟩,fun _=>⟨rfl,rfl,rfl,rfl,rfl⟩⟩,f.o.trans ((ar _ _).alloc b _)⟩
def bC (w:X)(g:Nat)(s:ae)(i:Nat):Prop:=w.heap[g]? = M (K #[V s,I J (i:Int)] 338 (0,0))
def bD(g:Nat):Nat->Prop:=fun k=>k=g
def eY (c:Nat):Ending:=.panicked [{ v:=.iface 363 (I J (c:Int)),recovered:=F }]
section
variable {w w':X} {g:Nat} {s:ae} {i:Nat}
theorem bC.q (h:bC w g s i):g<w.heap.size:=(bM.1 h).1
theorem bC.f (h:bC w g s i)(a:Below w.heap.size w w'):bC w' g s i:=(a.block g h.q).trans h
theorem bC.a (h:bC w g s i)(n:Nat):bC (w.drewN n) g s i:=h
theorem bC.y {S:Nat->Prop}(h:bC w g s i)(a:ak S w w')(b:¬S g):bC w' g s i:=a.q h b
theorem bC.e (h:bC w g s i):w.cell? ⟨g,0,U⟩=M (V s)∧w.cell? ⟨g,1,U⟩=M (I J (i:Int))∧w.frozen? ⟨g,1,U⟩=F :=
 ⟨aq w _ 0 _ _ _ h,aq w _ 1 _ _ _ h,aP w _ 1 _ _ h⟩
theorem bC.r (h:bC w g s i)(j:Nat)(x:Int)(a:x=j):bC (w.setCell ⟨g,1,U⟩ (I J x)) g s j:=by
 subst a;unfold bC at h ⊢;rw[aR w g 1 _ _ _ h];rfl
end
theorem ak.G {w:X}{g:Nat}(n:Nat)(v:Value):ak (bD g) w ((w.drewN n).setCell ⟨g,1,U⟩ v) :=
 (ak.B _ w n).a (ak.j (bD g) _ _ _ rfl) (fun _ h _=>h)
theorem rz (s:ae)(i g:Nat)(w:X)(h:bC w g s i):
 Calls prog 335 #[Q (M ⟨g,0,U⟩)] w fun e w'=>e=Y (.bool (decide (i<s.size)))∧∃n,w'=w.drewN n:=by
 obtain⟨a,b,c⟩:=h.e;clear h;go_enter func335,ntmps335;go_wp2;go_quiet (fail)
 go_wp2;go_ret;exact⟨rfl,nq,rfl⟩
theorem vS (s:ae)(i g:Nat)(c:UInt8)(w:X)(h:bC w g s i)(m:s.size<=1000000)(a:s.data.toList[i]? = M c):
 Calls prog 362 #[Q (M ⟨g,0,U⟩),I .u8 (c.toNat:Int)] w fun e w'=>e=Y (.bool true)∧bC w' g s (i+1)∧ak (bD g) w w':=by
 have d:s.data.toList.length=s.size:=by rw[cI];rfl
 have f:=fun q=>rz s i g (w.drewN q) (h.a q);have n:=h.e;have b:i<s.size:=by
  have:=(fw.1 a).1;rwa[d] at this
 have k:decide (i<s.size)=true:=by rw[bN];omega
 have j:(i:Int)<s.size:=by omega
 have l:s[i]=c:=by
  rw[iA (by rw[d];exact b)] at a;injection a with a
 rw[k] at f;have o:=FP l;go_enter func362,ntmps362;go_wp2;go_quiet ((go_at_call 335;exact Calls.quiet_of (f _)))
 go_wp2;go_ret;exact⟨rfl,(h.a nq).r (i+1) _ (by omega),ak.G _ _⟩
theorem Ah (s:ae)(i g:Nat)(c:UInt8)(w:X)(h:bC w g s i)(j:¬s.data.toList[i]? = M c):
 Calls prog 362 #[Q (M ⟨g,0,U⟩),I .u8 (c.toNat:Int)] w fun e w'=>e=Y (.bool F)∧bC w' g s i∧ak (bD g) w w':=by
 have k:s.data.toList.length=s.size:=by rw[cI];rfl
 have a:=fun q=>rz s i g (w.drewN q) (h.a q);have m:=h.e;by_cases b:i<s.size
 . have d:decide (i<s.size)=true:=by rw[bN];omega
   have f:(i:Int)<s.size:=by omega
   have l:s[i]≠c:=by
    intro e;refine j ?_;rw[iA (by rw[k];exact b),<-e];simp[ByteArray.getElem_eq_getElem_data]
   rw[d] at a;have n:=FO l;go_enter func362,ntmps362;go_wp2;go_quiet ((go_at_call 335;exact Calls.quiet_of (a _)))
   go_wp2;go_ret;exact⟨rfl,h.a nq,ak.B _ _ _⟩
 . have d:decide (i<s.size)=F:=by rw[cz];omega
   rw[d] at a;go_enter func362,ntmps362;go_wp2;go_quiet ((go_at_call 335;exact Calls.quiet_of (a _)))
   go_wp2;go_ret;exact⟨rfl,h.a nq,ak.B _ _ _⟩
theorem vT (s:ae)(i g:Nat)(c:UInt8)(w:X)(h:bC w g s i)(a:s.size<=1000000)(b:s.data.toList[i]? = M c):
 Calls prog 336 #[Q (M ⟨g,0,U⟩),I .u8 (c.toNat:Int)] w fun e w'=>e=Y (.tuple #[])∧bC w' g s (i+1)∧ak (bD g) w w':=by
 go_enter func336,ntmps336;go_wp2_with fail;refine(vS s i g c w h a b).mono ?_;rintro e j ⟨rfl,d,f⟩;go_wp2;go_end0
 exact⟨rfl,d,f⟩
theorem FJ (s:ae)(i g:Nat)(c:UInt8)(w:X)(h:bC w g s i)(a:¬s.data.toList[i]? = M c):
 Calls prog 336 #[Q (M ⟨g,0,U⟩),I .u8 (c.toNat:Int)] w fun e w'=>e=eY 5∧ak (bD g) w w':=by
 have b:=aa (Ah s i g c w h a);clear a;go_enter func336,ntmps336;go_wp2_with fail;refine b.o.mono ?_;rintro e f ⟨rfl,j,d⟩;go_wp2;exact⟨rfl,rfl,d⟩
def tK (w:X)(g:Nat):Nat:=match w.cell? ⟨g,1,U⟩ with
 | some (I _ x)=>x.toNat
 | _=>0
theorem bC.j {w:X}{g:Nat}{s:ae}{i:Nat}(h:bC w g s i):tK w g=i:=by
 unfold tK;rw[h.e.2.1];simp
theorem wk (s:ae)(k:Nat)(h:k<s.size):s.data.toList[k]'(by rw[cI];exact h)=s[k]:=by simp[ByteArray.getElem_eq_getElem_data]
theorem EQ (c:UInt8):lt (c.toNat:Int)=dC c:=rfl
theorem ED (c:UInt8)(w:X):
 Calls prog 360 #[I .u8 (c.toNat:Int)] w fun e w'=>e=Y (.bool (eb c))∧w'=w:=by
 by_cases a:c=32
 . subst a;go_enter func360,ntmps360;go_wp2;go_ret;exact⟨rfl,rfl⟩
 . have f:((c.toNat:Int)==32)=F:=ot a;by_cases b:c=9
   . subst b;go_enter func360,ntmps360;go_wp2;go_ret;exact⟨rfl,rfl⟩
   . have g:((c.toNat:Int)==9)=F:=ot b;have d:Hid (eb c=F):=by unfold Hid eb;rw[aO.2 a,aO.2 b];rfl
     go_enter func360,ntmps360;go_wp2;go_ret;exact⟨fy (by rw[d.o]),rfl⟩
theorem FK (s:ae)(i g:Nat)(w:X)(h:bC w g s i)(L:s.size<=1000000)(v:i<=s.size):
 Calls prog 359 #[Q (M ⟨g,0,U⟩),.func (.func 312) #[] #[]] w fun e w' =>
  e=Y (V (s.extract i (i+aG s.data.toList i)))∧bC w' g s (i+aG s.data.toList i)∧ak (bD g) w w':=by
 have x:s.data.toList.length=s.size:=by rw[cI];rfl
 have r:=aa x;have H:=aa h;obtain⟨y,N,S⟩:=h.e;go_enter func359,ntmps359;go_wp2;go_loopw [] (fun wr=>∃k:Nat,i<=k∧k<=s.size∧bC wr g s k∧ak (bD g) w wr∧i+aG s.data.toList i=k+aG s.data.toList k) (fun wr=>s.size-tK wr g)
 case atStart=>exact⟨i,am _,v,H.o,ak.r _ _,rfl⟩
 case round =>
  obtain⟨k,z,T,h,B,C⟩:=hrel;have c:=fun q=>rz s k g (wr.drewN q) (h.a q);have m:=aa B;have n:=aa C;have y:=h.e;have D:=aa h.j;by_cases d:k<s.size
  . have p:decide (k<s.size)=true:=by rw[bN];omega
    have t:(k:Int)<s.size:=by omega
    have f:k<s.data.toList.length:=by rw[r.o];exact d
    have j:=wk s k d;rw[p] at c;cases a:dC s[k]
    . have b:Hid (i+aG s.data.toList i=k):=by
       unfold Hid;rw[n.o];unfold aG;rw[Fj f (by rw[j];exact a)];rfl
      have l:=fun W=>ys (s[k].toNat:Int) W;rw[EQ,a] at l;have G:(i:Int)<=k:=by omega
      have e2:(k:Int)<=s.size:=by omega
      go_wp2;go_quiet ((first | (go_at_call 335;exact Calls.quiet_of (c _)) | (go_at_call 312;exact Calls.quiet_of_same (l _))))
      go_wp2;go_quiet (fail)
      go_wp2;go_ret;exact⟨mE (by rw[b.o]),by rw[b.o];exact h,(m.o.a (ak.B (bD g) _ _) (fun _ h _=>h)).a (ak.B (bD g) _ _) (fun _ h _=>h)⟩
    . have b:Hid (i+aG s.data.toList i=(k+1)+aG s.data.toList (k+1)):=by
       unfold Hid;rw[n.o];unfold aG;rw[Fr f (by rw[j];exact a)];omega
      have l:=fun W=>ys (s[k].toNat:Int) W;rw[EQ,a] at l;go_wp2;go_quiet ((first | (go_at_call 335;exact Calls.quiet_of (c _)) | (go_at_call 312;exact Calls.quiet_of_same (l _))))
      go_wp2;have u:=(h.a nq).r (k+1) ((k:Int)+1) (by omega);go_roundw
      case rel=>exact⟨k+1,by omega,by omega,u,m.o.a (ak.G _ _) (fun _ h _=>h),b.o⟩
      case measure=>rw[u.j,D.o];omega
  . obtain rfl:k=s.size:=by omega
    have p:decide (s.size<s.size)=F:=by rw[cz];omega
    have b:Hid (i+aG s.data.toList i=s.size):=by
     unfold Hid;rw[n.o];unfold aG;rw[Fw _ (by rw[r.o];exact am _)];rfl
    rw[p] at c;have G:(i:Int)<=s.size:=by omega
    go_wp2;go_quiet ((go_at_call 335;exact Calls.quiet_of (c _)))
    go_wp2;go_quiet (fail)
    go_wp2;go_ret;exact⟨mE (by rw[b.o]),by rw[b.o];exact h,(m.o.a (ak.B (bD g) _ _) (fun _ h _=>h)).a (ak.B (bD g) _ _) (fun _ h _=>h)⟩
theorem PT (s:ae)(i g:Nat)(w:X)(h:bC w g s i)(L:s.size<=1000000)(v:i<=s.size):
 Calls prog 359 #[Q (M ⟨g,0,U⟩),.func (.func 360) #[] #[]] w fun e w' =>
  e=Y (V (s.extract i (i+fQ eb s.data.toList i)))∧bC w' g s (i+fQ eb s.data.toList i)∧ak (bD g) w w':=by
 have x:s.data.toList.length=s.size:=by rw[cI];rfl
 have r:=aa x;have H:=aa h;obtain⟨y,N,S⟩:=h.e;go_enter func359,ntmps359;go_wp2;go_loopw [] (fun wr=>∃k:Nat,i<=k∧k<=s.size∧bC wr g s k∧ak (bD g) w wr∧i+fQ eb s.data.toList i=k+fQ eb s.data.toList k) (fun wr=>s.size-tK wr g)
 case atStart=>exact⟨i,am _,v,H.o,ak.r _ _,rfl⟩
 case round =>
  obtain⟨k,z,T,h,B,C⟩:=hrel;have c:=fun q=>rz s k g (wr.drewN q) (h.a q);have m:=aa B;have n:=aa C;have y:=h.e;have D:=aa h.j;by_cases d:k<s.size
  . have p:decide (k<s.size)=true:=by rw[bN];omega
    have t:(k:Int)<s.size:=by omega
    have f:k<s.data.toList.length:=by rw[r.o];exact d
    have j:=wk s k d;rw[p] at c;cases a:eb s[k]
    . have b:Hid (i+fQ eb s.data.toList i=k):=by
       unfold Hid;rw[n.o];rw[Fj f (by rw[j];exact a)];rfl
      have l:=fun W=>ED s[k] W;rw[a] at l;have G:(i:Int)<=k:=by omega
      have e2:(k:Int)<=s.size:=by omega
      go_wp2;go_quiet ((first | (go_at_call 335;exact Calls.quiet_of (c _)) | (go_at_call 360;exact Calls.quiet_of_same (l _))))
      go_wp2;go_quiet (fail)
      go_wp2;go_ret;exact⟨mE (by rw[b.o]),by rw[b.o];exact h,(m.o.a (ak.B (bD g) _ _) (fun _ h _=>h)).a (ak.B (bD g) _ _) (fun _ h _=>h)⟩
    . have b:Hid (i+fQ eb s.data.toList i=(k+1)+fQ eb s.data.toList (k+1)):=by
       unfold Hid;rw[n.o];rw[Fr f (by rw[j];exact a)];omega
      have l:=fun W=>ED s[k] W;rw[a] at l;go_wp2;go_quiet ((first | (go_at_call 335;exact Calls.quiet_of (c _)) | (go_at_call 360;exact Calls.quiet_of_same (l _))))
      go_wp2;have u:=(h.a nq).r (k+1) ((k:Int)+1) (by omega);go_roundw
      case rel=>exact⟨k+1,by omega,by omega,u,m.o.a (ak.G _ _) (fun _ h _=>h),b.o⟩
      case measure=>rw[u.j,D.o];omega
  . obtain rfl:k=s.size:=by omega
    have p:decide (s.size<s.size)=F:=by rw[cz];omega
    have b:Hid (i+fQ eb s.data.toList i=s.size):=by
     unfold Hid;rw[n.o];rw[Fw _ (by rw[r.o];exact am _)];rfl
    rw[p] at c;have G:(i:Int)<=s.size:=by omega
    go_wp2;go_quiet ((go_at_call 335;exact Calls.quiet_of (c _)))
    go_wp2;go_quiet (fail)
    go_wp2;go_ret;exact⟨mE (by rw[b.o]),by rw[b.o];exact h,(m.o.a (ak.B (bD g) _ _) (fun _ h _=>h)).a (ak.B (bD g) _ _) (fun _ h _=>h)⟩
theorem yj (s:ae)(i g:Nat)(w:X)(h:bC w g s i)(a:s.size<=1000000)(b:i<=s.size):
 Calls prog 333 #[Q (M ⟨g,0,U⟩)] w fun e w'=>e=Y (.tuple #[])∧bC w' g s (ce s.data.toList i)∧ak (bD g) w w':=by
 have c:=aa (PT s i g w h a b);go_enter func333,ntmps333;go_wp2_with fail;refine c.o.mono ?_;rintro e j ⟨rfl,d,f⟩;go_wp2;go_end0
 exact⟨rfl,d,f⟩
theorem yu (s:ae)(i g:Nat)(w:X)(h:bC w g s i)(f:s.size<=1000000)(b:i<=s.size)(p:aG s.data.toList i≠0):
 Calls prog 361 #[Q (M ⟨g,0,U⟩)] w fun e w'=>e=Y (V (s.extract i (i+aG s.data.toList i)))∧bC w' g s (i+aG s.data.toList i)∧ak (bD g) w w':=by
 have j:=FK s i g w h f b;have c:=uG s.data.toList i (by rw[cI];exact b);rw[cI] at c;have k:i+aG s.data.toList i<=s.size:=c;have a:=qm (s.extract i (i+aG s.data.toList i)) (by simp;omega);have d:((s.extract i (i+aG s.data.toList i)).toList==[])=F:=by
  cases l:(s.extract i (i+aG s.data.toList i)).toList with
  | nil=>rw[l] at a;cases a
  | cons _ _=>rfl
 generalize aG s.data.toList i=n at *;generalize s.extract i (i+n)=x at *;go_enter func361,ntmps361;go_wp2_with fail;refine j.mono ?_;rintro e q ⟨rfl,m,o⟩;go_wp2;go_ret;exact⟨rfl,m,o⟩
theorem vZ (s:ae)(i g:Nat)(w:X)(h:bC w g s i)(b:s.size<=1000000)(c:i<=s.size)(d:aG s.data.toList i=0):
 Calls prog 361 #[Q (M ⟨g,0,U⟩)] w fun e w'=>e=eY 5∧ak (bD g) w w':=by
 have a:=FK s i g w h b c;have f:s.extract i (i+aG s.data.toList i)=⟨#[]⟩:=ql _ (by rw[d];simp);rw[f] at a;go_enter func361,ntmps361;go_wp2_with fail;refine a.mono ?_;rintro e k ⟨rfl,l,j⟩;go_wp2;exact⟨rfl,rfl,j⟩
theorem EE (s:ae)(i g:Nat)(w:X)(h:bC w g s i)(m:s.size<=1000000)(o:i<s.size):
 Calls prog 375 #[Q (M ⟨g,0,U⟩)] w fun e w'=>e=Y (I .u8 (s[i].toNat:Int))∧bC w' g s (i+1)∧ak (bD g) w w':=by
 have a:=rz s i g w h;have j:decide (i<s.size)=true:=by rw[bN];omega
 rw[j] at a;go_enter func375,ntmps375;go_wp2_with fail;refine a.mono ?_;rintro e b ⟨rfl,n,c⟩;have d:bC b g s i:=by rw[c];exact h.a n
 have k:ak (bD g) w b:=by rw[c];exact ak.B _ _ _
 clear c  a;have p:=d.e;have f:=d.r (i+1) ((i:Int)+1) (by omega);have l:ak (bD g) w (b.setCell ⟨g,1,U⟩ (I J ((i:Int)+1))):=k.a (ak.j (bD g) _ _ _ rfl) (fun _ h _=>h);have q:=f.e.1;have r:(i:Int)+1-1=i:=by omega
 have t:(i:Int)<s.size:=by omega
 go_wp2;go_quiet (fail)
 go_wp2;go_ret;exact⟨rfl,f.a nq,l.a (ak.B (bD g) _ _) (fun _ h _=>h)⟩
theorem ER (s:ae)(i g:Nat)(w:X)(h:bC w g s i)(j:¬i<s.size):
 Calls prog 375 #[Q (M ⟨g,0,U⟩)] w fun e w'=>e=eY 14∧ak (bD g) w w':=by
 have a:=rz s i g w h;have c:decide (i<s.size)=F:=by rw[cz];omega
 rw[c] at a;go_enter func375,ntmps375;go_wp2_with fail;refine a.mono ?_;rintro e d ⟨rfl,n,b⟩;have f:ak (bD g) w d:=by rw[b];exact ak.B _ _ _
 clear b;go_wp2;exact⟨rfl,rfl,f⟩
def BI (m:Option (ab×ab))(w:X)(g:Nat)(s:ae)(e:Ending)(w':X):Prop :=
 ak (bD g) w w'∧match m with
  | none=>e=eY 14
  | some x=>e=Y (V ⟨x.1.toArray⟩)∧∃j,j<=s.size∧bC w' g s j∧s.data.toList.drop j=x.2
theorem BI.a {m:Option (ab×ab)}{w:X}{g:Nat}{s:ae}{w':X}(a:m=U)(b:ak (bD g) w w'):BI m w g s (eY 14) w':=by
 subst a;exact⟨b,rfl⟩
theorem BI.e {m:Option (ab×ab)}{w:X}{g:Nat}{s:ae}{v r:ab}{e:Ending}{w':X}{j:Nat}(a:m=M (v,r))(b:e=Y (V ⟨v.toArray⟩))(c:j<=s.size)(d:bC w' g s j)(hd:s.data.toList.drop j=r)(f:ak (bD g) w w'):BI m w g s e w':=by
 subst a;exact⟨f,b,j,c,d,hd⟩
structure tV (w:X)(g:Nat)(s:ae)(k:Nat)(acc:ab)(ao:ag)(cap:Nat)(wr:X):Prop where
 a:bC wr g s k
 c:bl wr w.heap.size 5 ao cap acc
 b:ak (bD g) w wr
 d:g<w.heap.size
section
variable {w wr w1 w3:X} {g k k':Nat} {s:ae} {acc acc':ab} {ao gL:ag} {cap cap':Nat}
theorem tV.e (h:tV w g s k acc ao cap wr)(c:bC w1 g s k')(b:ak (bD g) wr w1):tV w g s k' acc ao cap w1 :=
 ⟨c,h.c.j b (fun a e d=>by have:=(h.c.e a e).1;have:=h.d;unfold bD at d;omega),h.b.a b (fun _ h _=>h),h.d⟩
theorem tV.f (h:tV w g s k acc ao cap wr)(b:Obj)(d:bl w3 w.heap.size 5 gL cap' acc')(f:(wr.alloc b).grownBy w3 (aw ao)):tV w g s k acc' gL cap' w3:=by
 have j:∀i,aw ao=M i->w.heap.size<=i:=by
  intro i e;cases ao with
  | none=>simp[aw] at e
  | some a=>simp only[aw,jr] at e;have:=(h.c.e a rfl).1;omega
 have c:=(ak.y (ri wr b U) (fun k e=>by cases e)).a (ak.y f j) (fun _ h _=>h);exact⟨h.a.y c (by have:=h.d;omega),d,h.b.a c (fun i m l=>by omega),h.d⟩
end
theorem az.mH (W:X)(c:UInt8)(t:Nat)(a:Nat×Nat){k:Nat}(b:W.heap.size=k):az (W.alloc (K #[I .u8 (c.toNat:Int)] t a)) (M ⟨k,0,U⟩) 1 [c]:=b▸az.f W c t a
theorem Nj (s:ae)(i g:Nat)(w:X)(h:bC w g s i)(hs:s.size<=1000000)(hi:i<=s.size):
 Calls prog 363 #[Q (M ⟨g,0,U⟩)] w fun e w'=>BI (fa [] (s.data.toList.drop i)) w g s e w':=by
 have hl:s.data.toList.length=s.size:=by rw[cI];rfl
 have z:=aa hl;obtain⟨i0,D,G,H,L⟩:=info_parts gm;have Hi:=D;have kS:=aa G;have kM:=aa H;have kT:=aa L
 go_enter func363,ntmps363;go_wp2;go_loopw [3] (fun t wr=>∃(k:Nat) (a:ab) (N:ag) (q:Nat),k<=s.size∧a.length<=k∧t=Z N a.length q∧tV w g s k a N q wr∧fa [] (s.data.toList.drop i)=fa a (s.data.toList.drop k)) (fun _ wr=>s.size-tK wr g)
 case atStart=>exact⟨i,[],U,0,hi,ax _,rfl,⟨h,bl.q _ _ _,ak.r _ _,h.q⟩,rfl⟩
 case round =>
  obtain⟨k,a,N,q,hk,hal,rfl,hA,hq⟩:=hrel;have B:=aa hA;have ZU:=aa hA.a.j;have v:=aa hq;by_cases n:k<s.size
  . have C:Hid (s.data.toList.drop k=s[k]::s.data.toList.drop (k+1)):=by
     unfold Hid;rw[hJ (by rw[z.o];exact n),wk s k n]
    go_wp2_with fail;refine(EE s k g _ B.o.a hs n).mono ?_;rintro e w1 ⟨rfl,S,r⟩;have b:=B.o.e S r;generalize s[k]=c at *;by_cases T:c=34
    . subst T;have p:fa [] (s.data.toList.drop i)=M (a,s.data.toList.drop (k+1)):=by rw[v.o,C.o,Fs]
      have rY:=b.c.f.B (P:=prog) 31 9 5 underlying31 underlying5 underlying9;go_wp2;go_ret;exact BI.e p rfl (by omega) b.a rfl b.b
    . have t34:((c.toNat:Int)==34)=F:=ot T;by_cases W:c=92
      . subst W;by_cases f:k+1<s.size
        . have HD2:Hid (s.data.toList.drop (k+1)=s[k+1]::s.data.toList.drop (k+2)):=by
           unfold Hid;rw[hJ (by rw[z.o];exact f),wk s (k+1) f]
          have p:Hid (fa [] (s.data.toList.drop i)=fa (a++[s[k+1]]) (s.data.toList.drop (k+2))):=by
           unfold Hid;rw[v.o,C.o,HD2.o,Fl]
          go_wp2_with fail;refine(EE s (k+1) g _ b.a hs f).mono ?_;rintro e w2 ⟨rfl,S,r⟩;have u:=b.e S r;generalize s[k+1]=d at *;go_wp2_with (at_builtin;refine sR rfl (.tmp 15) (.tmp 17) 31 rfl w.heap.size 5 i0 underlying31 Hi kS.o kM.o kT.o (l:=a) (l2:=[d]) rfl rfl (u.c.a _) rfl rfl (az.mH _ _ _ _ (by simp)) (by simp;omega) (by have:=u.b.b;simp;omega) ?_;intro lN iw w3 j m kE;have x:=aa (u.f _ j m);clear j m kE)
          go_roundw
          case rel=>exact⟨k+2,a++[d],lN,iw,by omega,by rw[aD];simp;omega,by rw[aD];rfl,x.o,p.o⟩
          case measure=>rw[x.o.a.j,ZU.o];omega
        . have p:Hid (fa [] (s.data.toList.drop i)=U):=by
           unfold Hid;rw[v.o,C.o,oV (show s.data.toList.length<=k+1 by rw[z.o];omega),Fx]
          go_wp2_with fail;refine(ER s (k+1) g _ b.a f).mono ?_;rintro e w2 ⟨y,r⟩;unfold eY at y;subst y;have HT:=b.b.a r (fun _ h _=>h);go_wp2;exact⟨rfl,BI.a p.o HT⟩
      . have t92:((c.toNat:Int)==92)=F:=ot W;have p:Hid (fa [] (s.data.toList.drop i)=fa (a++[c]) (s.data.toList.drop (k+1))):=by
         unfold Hid;rw[v.o,C.o,Fo _ _ _ T W]
        go_wp2_with (at_builtin;refine sR rfl (.tmp 15) (.tmp 17) 31 rfl w.heap.size 5 i0 underlying31 Hi kS.o kM.o kT.o (l:=a) (l2:=[c]) rfl rfl (b.c.a _) rfl rfl (az.mH _ _ _ _ (by simp)) (by simp;omega) (by have:=b.b.b;simp;omega) ?_;intro lN iw w3 j m kE;have x:=aa (b.f _ j m);clear j m kE)
        go_roundw
        case rel=>exact⟨k+1,a++[c],lN,iw,by omega,by rw[aD];simp;omega,by rw[aD];rfl,x.o,p.o⟩
        case measure=>rw[x.o.a.j,ZU.o];omega
  . have p:Hid (fa [] (s.data.toList.drop i)=U):=by
     unfold Hid;rw[v.o,oV (show s.data.toList.length<=k by rw[z.o];omega),AJ]
    go_wp2_with fail;refine(ER s k g _ B.o.a n).mono ?_;rintro e w2 ⟨y,r⟩;unfold eY at y;subst y;have HT:=B.o.b.a r (fun _ h _=>h);go_wp2;exact⟨rfl,BI.a p.o HT⟩
structure fW (w:X)(S:Nat->Prop)(g:Nat)(ao:ag)(cap:Nat)(bo:ag)(bc:Nat)(t:dI):Prop where
 c:w.heap[g]? = M (K #[Z ao t.b.length cap,Z bo t.a.length bc] 354 (0,0))
 e:ju w (fun k=>(S k∧k≠g)∧aw bo≠M k) 98 ao cap t.b
 f:bl w 0 5 bo bc t.a
 b:∀a,bo=M a->S a.block∧a.block≠g
 d:S g
section
variable {w w':X} {S S':Nat->Prop} {g:Nat} {ao bo:ag} {cap bc:Nat} {t:dI}
theorem fW.a (h:fW w S g ao cap bo bc t):g<w.heap.size:=(bM.1 h.c).1
theorem fW.j (h:fW w S g ao cap bo bc t):w.cell? ⟨g,0,U⟩=M (Z ao t.b.length cap):=aq w g 0 _ _ _ h.c
theorem fW.q (h:fW w S g ao cap bo bc t):w.cell? ⟨g,1,U⟩=M (Z bo t.a.length bc):=aq w g 1 _ _ _ h.c
theorem fW.E (h:fW w S g ao cap bo bc t)(b:ak S' w w')(c:∀k,S k->¬S' k):fW w' S g ao cap bo bc t :=
 ⟨b.q h.c (c g h.d),h.e.e b (fun k e=>c k e.1.1),h.f.j b (fun a e=>c _ (h.b a e).1),h.b,h.d⟩
theorem fW.r (h:fW w S g ao cap bo bc t)(b:∀k,k<w.heap.size->S k->S' k):fW w S' g ao cap bo bc t :=
 ⟨h.c,h.e.a (fun k c e=>⟨⟨b k c e.1.1,e.1.2⟩,e.2⟩),h.f,fun a e=>⟨b _ (h.f.e a e).2 (h.b a e).1,(h.b a e).2⟩,b g h.a h.d⟩
theorem fW.B (h:fW w S g ao cap bo bc t)(a:Below w.heap.size w w'):fW w' S g ao cap bo bc t:=h.E (ak.e (S:=fun _=>False) a) (fun _ _ e=>e)
end
theorem fW.G (w:X):fW (w.alloc (K #[Z U 0 0,Z U 0 0] 354)) (fun k=>w.heap.size<=k) w.heap.size U 0 U 0 gN :=
 ⟨be w _,ju.r _ _ _,bl.q _ _ _,fun a e=>(by cases e),am _⟩
def et (w:X)(S:Nat->Prop)(g:Nat)(t:dI):Prop:=∃ao cap bo bc,fW w S g ao cap bo bc t
section
variable {w w':X} {S S':Nat->Prop} {g:Nat} {t:dI}
theorem et.a (h:et w S g t)(e:ak S' w w')(f:∀k,S k->¬S' k):et w' S g t:=by obtain⟨a,b,c,d,h⟩:=h;exact⟨a,b,c,d,h.E e f⟩
theorem et.e (h:et w S g t)(e:∀k,k<w.heap.size->S k->S' k):et w S' g t:=by obtain⟨a,b,c,d,h⟩:=h;exact⟨a,b,c,d,h.r e⟩
theorem et.f (h:et w S g t)(e:Below w.heap.size w w'):et w' S g t:=by obtain⟨a,b,c,d,h⟩:=h;exact⟨a,b,c,d,h.B e⟩
end
theorem ju.y {W:X}{S:Nat->Prop}{f:Nat}{ao:ag}{cap:Nat}{es:List aA}(h:ju W S f ao cap es)(g:Obj):∃i:List (aA×cS),aL (W.alloc g) 0 f 12 ao cap es.length (cR i) ∧
 ∀gL b w' (e:aA) s (N:Nat->Prop) j,e.e s=j->fY W N e s->s.c=U∧s.b=0->(∀k,S k->¬N k)->aL w' 0 f 12 gL b (es.length+1) (cR i++j)->(W.alloc g).grownBy w' (aw ao)->(aw gL=aw ao∨aw gL=M (W.alloc g).heap.size)->ju w' (fun k=>S k∨N k∨W.heap.size<=k) f gL b (es++[e])∧ak S W w':=by
 obtain⟨i,c,u,o,v,w⟩:=h;have l:Below W.heap.size W (W.alloc g):=(ar _ _).alloc (am _) _;have q:=ak.e (S:=fun _=>False) l;refine⟨i,u.r l,fun gL b w' e s N j x y m z r t n=>?_⟩;subst x;have B:cR [(e,s)]=e.e s:=by simp[cR]
 rw[<-B] at r;have:=ju.f (N:=N) o (fun p d=>(v p d).e q (fun _ _ e=>e)) (ps2:=[(e,s)]) (fun p d=>by rw[cW.1 d];exact y.e q (fun _ _ e=>e)) z r (by rw[<-c,iv];rfl) t n w (fun p d=>by rw[cW.1 d];exact m);refine⟨?_,?_⟩
 . rw[c] at this;refine this.a (fun k C e=>?_);rcases e with e | e | e
   . exact A e
   . exact R (A e)
   . rw[bu] at e;exact R (R (by omega))
 . refine(ak.e (S:=S) l).a (ak.y (S:=S) t (fun k e=>?_)) (fun _ e _=>e);cases ao with
   | none=>cases e
   | some a=>injection e with e;subst e;exact o a rfl
theorem Ae:(prog.info? 98).map (fun i=>(i.zero,i.size,i.bytes))=M (M (.agg #[I J 0,V ⟨#[]⟩,V ⟨#[]⟩,I J 0,Z U 0 0,I J 0,Z U 0 0,V ⟨#[]⟩,V ⟨#[]⟩,V ⟨#[]⟩,Z U 0 0,I J 0]),12,184):=by kernel_rfl
structure pB (w:X)(S N:Nat->Prop)(e:aA)(s:cS):Prop where
 c:jt w (fun k=>N k∧ep e s≠M k) s.f s.e e.d.length (aJ e.d)
 d:dM w (fun k=>N k∧ep e s≠M k) s.c s.b e.c
 a:bI w N 5 s.a s.d e.a
 b:∀k,S k->¬N k
theorem pB.e {w w':X}{S N:Nat->Prop}{e:aA}{s:cS}(h:pB w S N e s)(b:Below w.heap.size w w'):pB w' S N e s :=
 have a:=ak.e (S:=fun _=>False) b
 ⟨h.c.e a (fun _ _ k=>k),h.d.e a (fun _ _ k=>k),h.a.a a (fun _ _ k=>k),h.b⟩
inductive vO (w:X)(S N:Nat->Prop)(es:List aA)(e:aA)(v:Ending)(w':X):Prop
 | mk (ao:ag) (cap:Nat) (hv:v=Y (Z ao (es.length+1) cap)) (hO:gi w' (fun k=>S k∨N k∨w.heap.size<=k) 98 5 ao cap (es++[e])) (hT:ak S w w')
structure xm (w:X)(S N:Nat->Prop)(ao:ag)(ps:List (aA×cS))(es:List aA)(e:aA)(s:cS):Prop where
 b:ps.map (·.1)=es
 c:∀a,ao=M a->S a.block
 d:∀p∈ps,fY w (fun k=>S k∧aw ao≠M k) p.1 p.2
 f:pB w S N e s
theorem vO.a {w g:X}{S N:Nat->Prop}{ao d:ag}{i n:Nat}{f:List (aA×cS)}{es:List aA}{e:aA}{s:cS}{x y:Obj}
 (h:xm w S N ao f es e s) (q:aL g 0 98 12 d i (n+1) (cR f++e.e s)) (o:((w.alloc x).alloc y).grownBy g (aw ao)) (l:aw d=aw ao∨aw d=M ((w.alloc x).alloc y).heap.size) (r:n=es.length:=by rfl) :
 vO w S N es e (Y (Z d (n+1) i)) g:=by
 subst r;have j:Below w.heap.size w ((w.alloc x).alloc y):=((ar _ _).alloc (am _) _).alloc (by simp) _;have t:=ak.e (S:=fun _=>False) j;have u:es.length=f.length:=by rw[<-h.b];simp
 have m:∀p∈f,fY ((w.alloc x).alloc y) (fun k=>S k∧aw ao≠M k) p.1 p.2:=fun p v=>(h.d p v).e t (fun _ _ k=>k);have b:=h.f.e j;have z:aL g 0 98 12 d i (f.length+1) (cR (f++[(e,s)])):=by
  rw[vE,<-u];have B:cR [(e,s)]=e.e s:=by simp[cR]
  rw[B];exact q
 have C:=gi.y (tb:=5) h.c m b.c b.d b.a b.b z rfl o l;refine .mk d i rfl ?_ ?_
 . rw[<-h.b];refine C.e (fun k _ c=>?_);rcases c with c | c | c
   . exact A c
   . exact R (A c)
   . refine R (R ?_);rw[c];exact j.size
 . refine(ak.e (S:=S) j).a (ak.y (S:=S) o (fun k c=>?_)) (fun _ k _=>k);cases ao with
   | none=>cases c
   | some a=>injection c with c;subst c;exact h.c a rfl
theorem Ri (w:X)(S N:Nat->Prop)(ao:ag)(cap:Nat)(es:List aA)(e:aA)(s:cS)(h:gi w S 98 5 ao cap es)(j:pB w S N e s)(B:es.length<=1000000)(k:e.b≠2):
 Calls prog 169 #[Z ao es.length cap,.agg #[I J e.b,V e.i,V e.j,I J e.m,Z s.f e.d.length s.e,I J e.l,Z s.a e.a.length s.d,V e.g,V e.f,V e.h,Z s.c e.c.length s.b,I J e.k]] w fun v w'=>vO w S N es e v w':=by
 have C:=aO.2 k;obtain⟨l,a,m,n,p⟩:=h.f;have q:xm w S N ao l es e s:=⟨a,n,p,j⟩;obtain⟨r,b,c,d,f⟩:=info_parts Ae;have t:=b;have u:=aa c;have x:=aa d;have y:=aa f
 go_enter func169,ntmps169;go_wp2_with (at_builtin;go_loud (refine lP rfl (.tmp 37) (.tmp 39) 58 rfl 0 98 r (.agg #[I J 0,V ⟨#[]⟩,V ⟨#[]⟩,I J 0,Z U 0 0,I J 0,Z U 0 0,V ⟨#[]⟩,V ⟨#[]⟩,V ⟨#[]⟩,Z U 0 0,I J 0]) 12 184 underlying58 t u.o x.o y.o rfl (by decide) rfl ((m.y _).y _) rfl (aA.q e s _ _ _ (by simp)) rfl (sH e s) (by omega) (by omega) (ax _) ?_;intro D G H g i z))
 go_ret;exact vO.a q g i z
theorem Rj (w:X)(S N:Nat->Prop)(e:aA)(s:cS)(j:pB w S N e s)(l:e.b=2):
 Calls prog 169 #[Z U 0 0,.agg #[I J e.b,V e.i,V e.j,I J e.m,Z s.f e.d.length s.e,I J e.l,Z s.a e.a.length s.d,V e.g,V e.f,V e.h,Z s.c e.c.length s.b,I J e.k]] w fun v w'=>vO w S N [] e v w':=by
 have C:=cJ.2 l;have m:xm w S N U [] [] e s:=⟨rfl,(fun a k=>by cases k),(fun p q=>by cases q),j⟩;have r:=aL.q w 0 98 12;obtain⟨t,b,c,d,f⟩:=info_parts Ae;have u:=b;have x:=aa c;have y:=aa d;have z:=aa f
 clear b c d f j l;go_enter func169,ntmps169;go_wp2_with (at_builtin;go_loud (refine lP rfl (.tmp 37) (.tmp 39) 58 rfl 0 98 t (.agg #[I J 0,V ⟨#[]⟩,V ⟨#[]⟩,I J 0,Z U 0 0,I J 0,Z U 0 0,V ⟨#[]⟩,V ⟨#[]⟩,V ⟨#[]⟩,Z U 0 0,I J 0]) 12 184 underlying58 u x.o y.o z.o rfl (by decide) rfl ((r.y _).y _) rfl (aA.q e s _ _ _ (by simp)) rfl (sH e s) (by omega) (by omega) (ax _) ?_;intro D G H g i B))
 go_ret;exact vO.a (n:=0) m g i B
theorem Ot (w:X)(S N:Nat->Prop)(ao:ag)(cap m:Nat)(es:List aA)(e:aA)(s:cS)(h:gi w S 98 5 ao cap es)(z:pB w S N e s)(g:es.length=m+1)(hl:m<=1000000)(B:e.b=2)(C:∀x,es.getLast? = M x->x.b≠2):
 Calls prog 169 #[Z ao (m+1) cap,.agg #[I J e.b,V e.i,V e.j,I J e.m,Z s.f e.d.length s.e,I J e.l,Z s.a e.a.length s.d,V e.g,V e.f,V e.h,Z s.c e.c.length s.b,I J e.k]] w fun v w'=>vO w S N es e v w':=by
 have k2:=cJ.2 B;obtain⟨c,d,q,D,G⟩:=h.f;have i:c.length=m+1:=by rw[<-g,<-d];simp
 have r:=q.a;obtain⟨b,o,t,H⟩:=r.f (by rw[vD];omega);have a:w.cell? ⟨b,o+m*12,U⟩=M (I J c[m].1.b):=H (m*12) _ (by
  have:=tC c m (by omega) 0 (by omega);rw[mA] at this;rw[this];rfl)
 have f:c[m].1.b≠2:=C _ (by
  have T:c[c.length-1]? = M c[m]:=by rw[show c.length-1=m by omega,iA (by omega)]
  rw[<-d,List.getLast?_map,List.getLast?_eq_getElem?,T];rfl)
 generalize c[m].1.b=W at a f;have kx2:=aO.2 f;have c0:(w.alloc (K #[I J e.b,V e.i,V e.j,I J e.m,Z s.f e.d.length s.e,I J e.l,Z s.a e.a.length s.d,V e.g,V e.f,V e.h,Z s.c e.c.length s.b,I J e.k] 98)).cell? ⟨b,o+m*12,U⟩=M (I J W):=((ar _ w).alloc (am _) _).cell (ch w _ a)▸a;have L:m+1<=cap:=by have:=r.1;rwa[g] at this
 rw[g] at q;subst t;have HP:xm w S N (M ⟨b,o,U⟩) c es e s:=⟨d,D,G,z⟩;have HO:=q;have HM:=aa g
 obtain⟨i0,j,k,l,p⟩:=info_parts Ae;have Hi:=j;have kS:=aa k;have kM:=aa l;have kT:=aa p
 clear j k l p h z d q D G B r H a f C g i;go_enter func169,ntmps169;go_wp2_with (at_builtin;go_loud (refine lP rfl (.tmp 37) (.tmp 39) 58 rfl 0 98 i0 (.agg #[I J 0,V ⟨#[]⟩,V ⟨#[]⟩,I J 0,Z U 0 0,I J 0,Z U 0 0,V ⟨#[]⟩,V ⟨#[]⟩,V ⟨#[]⟩,Z U 0 0,I J 0]) 12 184 underlying58 Hi kS.o kM.o kT.o rfl (by decide) rfl ((HO.y _).y _) rfl (aA.q e s _ _ _ (by simp)) rfl (sH e s) (by omega) (by omega) (ax _) ?_;intro lN iw w3 u y kE))
 go_ret;exact vO.a (n:=m+1) HP u y kE HM.o.symm
def jD (w:X)(S:Nat->Prop)(t:Nat)(ao:ag)(cap:Nat)(l:ab):Prop :=
 (l=[]∧ao=U∧cap=0)∨(l≠[]∧bl w 0 t ao cap l∧∀a,ao=M a->S a.block)
section
variable {w w':X} {S S':Nat->Prop} {t:Nat} {ao:ag} {cap:Nat} {l:ab}
theorem jD.f (w:X)(S:Nat->Prop)(t:Nat):jD w S t U 0 []:=A ⟨rfl,rfl,rfl⟩
theorem jD.q (h:jD w S t ao cap l)(c:ak S' w w')(d:∀k,S k->¬S' k):jD w' S t ao cap l:=by
 rcases h with h | ⟨f,g,b⟩
 . exact A h
 . exact R ⟨f,g.j c (fun a e=>d _ (b a e)),b⟩
theorem jD.a (h:jD w S t ao cap l)(c:∀k,k<w.heap.size->S k->S' k):jD w S' t ao cap l:=by
 rcases h with h | ⟨d,b,f⟩
 . exact A h
 . exact R ⟨d,b,fun a e=>c _ (b.e a e).2 (f a e)⟩
end
theorem KU {P:Program}(w:X)(t u z e:TypeId)(i:TypeInfo)(D:P.underlying t=M (.slice e))(G:P.underlying u=M .string)(H:P.info? e=M i)(T:i.zero=M (I .u8 0))(f:i.size=1)(r:i.bytes=1)
 {S:Nat->Prop} {ao:ag} {cap n:Nat} {l:ab} (h:jD w S e ao cap l) (hn:l.length=n) (s:ae) (m:n+s.size<=140737488355328) :
 ∃gL b w',(Builtin.append_ #[t,u] z #[Z ao n cap,V s]).run P w=.ok (Z gL (n+s.size) b) w'∧jD w' (ay S w) e gL b (l++s.data.toList)∧ak S w w':=by
 subst hn;have o:s.data.toList.length=s.size:=by rw[cI];rfl
 rcases h with ⟨rfl,rfl,rfl⟩ | ⟨h1,L,h3⟩
 . obtain⟨v',w',x,c,p,q⟩:=Lib.run_append_own_string w (P:=P) w.heap.size t u z e i D G H T f r (Z U 0 0) 0 [] (World.ownsRow_nil _ _ _ _) s (by unfold maxLen;simp at m;omega) (by simpa using m) (am _);rw[BD,lc] at c;obtain⟨gL,b,rfl,N⟩:=bl.B (by rw[o];omega) c;rw[o] at x q;refine⟨gL,b,w',by simpa using x,?_,⟨p.os,p.tape,p.output,p.size,fun k W _=>p.block k W (by simp[Value.ownBlock])⟩⟩;by_cases hs:s.data.toList=[]
   . have h0:s.size=0:=by rw[<-o,hs];rfl
     have:=q.2 ⟨rfl,h0⟩;injection this with d B e3;exact A ⟨by rw[hs];rfl,d,e3⟩
   . exact R ⟨hs,N.y (ax _),fun a e=>R (N.e a e).1⟩
 . obtain⟨g,rfl,_,_⟩:=L.E (mC.2 h1);obtain⟨v',w',x,c,p,_⟩:=Lib.run_append_own_string w (P:=P) 0 t u z e i D G H T f r (Z (M ⟨g,0,U⟩) l.length cap) l.length (bA l) L s (by unfold maxLen;omega) m (ax _);rw[BD,<-oY] at c;obtain⟨gL,b,rfl,N⟩:=bl.B (by rw[aD,o]) c;rw[aD,o] at x;have C:gL=M ⟨g,0,U⟩∨gL=M ⟨w.heap.size,0,U⟩:=by
    have h2':=L;rcases L.2 with ⟨e,_⟩ | ⟨g',cap2,cur,e,_,hh,hc1,hc2,hc3,hc4⟩
    . cases e
    . injection e with d B e3;injection d with d;injection d with d;subst d;subst e3;by_cases y:l.length+s.size<=cap
      . have:=Lib.run_append_room_string w (P:=P) t u z e i D G H f g l.length cap cur hh s y (by rw[hc3,f] at *;omega);rw[x] at this;injection this with d _;injection d with d _ _;exact A d
      . have:=Lib.run_append_grow_string w (P:=P) t u z e i (I .u8 0) D G H T ⟨g,0,U⟩ l.length cap (bA l) (by rw[dq,f,Nat.mul_one]) (fun j v hv=>World.ownsRow.cells h2' rfl j v hv) s (by omega) (by omega) (by rw[r];exact growslice_fits (by omega) (by omega));rw[x] at this;injection this with d _;injection d with d _ _;exact R d
   refine⟨gL,b,w',x,R ⟨by simp[h1],N,fun a e=>?_⟩,⟨p.os,p.tape,p.output,p.size,fun k W hS=>p.block k W (fun e=>?_)⟩⟩
   . rcases C with rfl | rfl
     . injection e with e;subst e;exact A (h3 _ rfl)
     . injection e with e;subst e;exact R (am _)
   . have B:M k=M g:=e;injection B with B;subst B;exact hS (h3 _ rfl)
theorem Is {P:Program}{w:X}{d:Array Oper}{rest:List Oper}{o:Oper}{a:Act}{aaw:Exit->Act->X->Prop}(g:o.guard=U)(s x:Operand)(t u:TypeId)
 (m:o.op=.call { callee:=.builtin .append,args:=#[s,x],argTypes:=#[t,u] })
 (e:TypeId) (i:TypeInfo) (p:P.underlying t=M (.slice e)) (q:P.underlying u=M .string) (r:P.info? e=M i) (v:i.zero=M (I .u8 0)) (j:i.size=1) (k:i.bytes=1)
 {S:Nat->Prop} {ao:ag} {cap n:Nat} {l:ab} (y:a.eval s=Z ao n cap) (z:l.length=n) (B:jD w S e ao cap l) (c:ae) (C:a.eval x=V c) (f:n+c.size<=140737488355328)
 (h:∀gL b w',jD w' (ay S w) e gL b (l++c.data.toList)->ak S w w'->wpList P d aaw rest (a.put o.dst (Z gL (n+c.size) b)) w'):wpList P d aaw (o::rest) a w :=
 wpList_plain g fun _ D=>by
  obtain⟨gL,b,w',G,H,L⟩:=KU (P:=P) w t u o.type e i p q r v j k B z c f;unfold Oper.wp execOp;simp only[m,resolve,invoke,builtin,Sem.run_bind,Sem.run_pure,Result.andThen_ok,List.map_toArray,List.map_cons,List.map_nil,y,C,G];exact D _ _ (h gL b w' H L)
