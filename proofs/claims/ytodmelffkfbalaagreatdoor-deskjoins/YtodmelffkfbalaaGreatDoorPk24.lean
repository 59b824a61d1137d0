import Derived.Test.YtodmelffkfbalaaGreatDoorPk17
import Derived.Test.YtodmelffkfbalaaGreatDoorPk15
import Derived.Test.YtodmelffkfbalaaGreatDoorPk10
open Go.Value renaming int->I,string->V,slice->Z,pointer->Q
open Go.IntKind renaming i64->J
open Go.Obj renaming cells->K
open Go.Ending renaming returned->Y
open Option renaming none->U,some->M
open Bool renaming false->F
open Or renaming inl->A,inr->R
open Go renaming World->X
set_option maxHeartbeats 1600000
set_option maxRecDepth 100000
open Go.Proofs.Tryz
namespace Go.Proofs.YtodmelffkfbalaaGreatDoor
open Go.RowKit
def cP (w:X)(S:Nat->Prop)(g:Nat)(s:cx):Prop :=
 ∃ao cap, w.heap[g]? = M (K #[Z ao s.b.length cap, .bool s.c, I J (s.a : Int)] 263 (0, 0)) ∧
   bl w 0 5 ao cap s.b∧S g∧∀a,ao=M a->S a.block
theorem cP.B {w:X}{S:Nat->Prop}{g:Nat}{s:cx}(h:cP w S g s):g<w.heap.size:=by grind [cP]
theorem cP.a {w:X}{S S':Nat->Prop}{g:Nat}{s:cx}(h:cP w S g s)(c:∀k,k<w.heap.size->S k->S' k):cP w S' g s:=by
 obtain⟨i,b,d,f,j,l⟩:=h;exact⟨i,b,d,f,c g (bO.1 d).1 j,fun a e=>c _ (f.a a e).2 (l a e)⟩
theorem cP.f {w w':X}{S S':Nat->Prop}{g:Nat}{s:cx}(h:cP w S g s)(c:am S' w w')(d:∀k,S k->¬S' k):cP w' S g s:=by
 obtain⟨j,b,l,m,f,i⟩:=h;exact⟨j,b,c.y l (d g f),m.j c (fun a e=>d _ (i a e)),f,i⟩
theorem cP.r {w:X}{S:Nat->Prop}{g:Nat}{s:cx}(h:cP w S g s)(n:Nat):cP (w.drewN n) S g s:=h.f (am.H (fun _=>False) w n) (fun _ _ e=>e)
theorem cP.j {w:X}{S:Nat->Prop}{g:Nat}{s:cx}(h:cP w S g s)(k:Nat):cP (w.setCell ⟨g,2,U⟩ (I J (k:Int))) S g { s with a:=k }∧am S w (w.setCell ⟨g,2,U⟩ (I J (k:Int))):=by
 obtain⟨j,b,c,d,f,l⟩:=h;refine⟨⟨j,b,?_,d.j (am.r (fun i=>i=g) w _ _ rfl) ?_,f,l⟩,am.r S w _ _ f⟩
 . rw[aP w g 2 _ _ _ c];rfl
 . intro a e;have:=gH c d (by decide);rw[dq,e] at this;intro m;exact this (by simp[aw,m])
theorem cP.y {w:X}{S:Nat->Prop}{g:Nat}{s:cx}(h:cP w S g s)(b:Bool):cP (w.setCell ⟨g,1,U⟩ (.bool b)) S g { s with c:=b }∧am S w (w.setCell ⟨g,1,U⟩ (.bool b)):=by
 obtain⟨k,c,d,f,j,l⟩:=h;refine⟨⟨k,c,?_,f.j (am.r (fun i=>i=g) w _ _ rfl) ?_,j,l⟩,am.r S w _ _ j⟩
 . rw[aP w g 1 _ _ _ d];rfl
 . intro a e;have:=gH d f (by decide);rw[dq,e] at this;intro m;exact this (by simp[aw,m])
theorem cP.G {w:X}{S:Nat->Prop}{g:Nat}{s:cx}(h:cP w S g s):cP (w.setCell ⟨g,0,U⟩ (Z U 0 0)) S g { s with b:=[] }∧am S w (w.setCell ⟨g,0,U⟩ (Z U 0 0)):=by
 obtain⟨f,c,d,i,b,j⟩:=h;refine⟨⟨U,0,?_,bl.y _ _ _,b,fun a e=>by cases e⟩,am.r S w _ _ b⟩;rw[aP w g 0 _ _ _ d];rfl
theorem cP.H {w c:X}{S:Nat->Prop}{g:Nat}{s:cx}{l:ab}{ao:ag}{cap:Nat}{gL:ag}{b:Nat}(o:w.heap[g]? = M (K #[Z ao s.b.length cap,.bool s.c,I J (s.a:Int)] 263 (0,0)))(f:S g)(j:bl c 0 5 gL b l)(m:am (fun k=>S k∧k≠g) w c)(ha:∀a,gL=M a->ay S w a.block)(n:Nat)(p:n=l.length):
 cP (c.setCell ⟨g,0,U⟩ (Z gL n b)) (ay S w) g { s with b:=l }∧am S w (c.setCell ⟨g,0,U⟩ (Z gL n b)):=by
 subst p;have d:=m.y o (fun e=>e.2 rfl);refine⟨⟨gL,b,?_,j.j (am.r (fun i=>i=g) c _ _ rfl) ?_,A f,ha⟩,(m.j (fun k e=>e.1)).a (am.r S c _ _ f) (fun i e _=>e)⟩
 . rw[aP c g 0 _ _ _ d];rfl
 . intro a e;have:=gH d j (by decide);rw[dq,e] at this;intro q;exact this (by simp[aw,q])
theorem BF (w:X):
 Calls prog 147 #[] w fun e w'=>e=Y (Q (M ⟨w.heap.size,0,U⟩))∧cP w' (fun k=>w.heap.size<=k) w.heap.size dw∧Below w.heap.size w w':=by
 go_enter func147,ntmps147;go_wp2;go_ret;exact⟨rfl,⟨U,0,aX w _,bl.y _ _ _,ak _,fun a e=>by cases e⟩,(ar _ _).alloc (ak _) _⟩
theorem xZ (w:X)(S:Nat->Prop)(g:Nat)(s:cx)(c:UInt8)(h:cP w S g s):
 Calls prog 221 #[Q (M ⟨g,0,U⟩),I .u8 c.toNat] w fun e w'=>e=Y (I J (ft s c:Int))∧w'=w:=by
 obtain⟨x,u,r,_⟩:=h;have y:=aq w g 0 _ _ _ r;have k:=aq w g 1 _ _ _ r;have l:=vF (c.toNat:Int) w;by_cases b:s.c=(c==10)
 . by_cases m:c=13
   . have p:((c.toNat:Int)==13)=true:=by rw[m];rfl
     have f:((c.toNat:Int)==10)=F:=by rw[m];rfl
     have d:ft s c=0:=by unfold ft;rw[if_pos b,if_pos (A m)]
     have i:s.c=F:=by rw[b,m];rfl
     rw[d];rw[i] at k;go_enter func221,ntmps221;go_wp2;go_ret;exact⟨rfl,rfl⟩
   . have p:((c.toNat:Int)==13)=F:=op m;by_cases a:c=10
     . have f:((c.toNat:Int)==10)=true:=by rw[a];rfl
       have d:ft s c=0:=by unfold ft;rw[if_pos b,if_pos (R a)]
       have i:s.c=true:=by rw[b,a];rfl
       rw[d];rw[i] at k;go_enter func221,ntmps221;go_wp2;go_ret;exact⟨rfl,rfl⟩
     . have f:((c.toNat:Int)==10)=F:=op a;have i:s.c=F:=by rw[b];exact aQ.2 a
       have j:¬(c=13∨c=10):=by rintro (e | e) <;> contradiction
       rw[i] at k;cases n:er (c.toNat:Int)
       . have d:ft s c=3:=by unfold ft;rw[if_pos b,if_neg j,if_pos n]
         rw[n] at l;rw[d];go_enter func221,ntmps221;go_wp2_with fail;refine l.mono ?_;rintro e w' ⟨rfl,o⟩;subst o;go_wp2;go_ret;exact⟨rfl,rfl⟩
       . rw[n] at l;by_cases t:200<=s.b.length
         . have d:ft s c=4:=by unfold ft;rw[if_pos b,if_neg j,if_neg (by rw[n];simp),if_pos t]
           have v:decide ((s.b.length:Int)≥200)=true:=by rw[bR];omega
           rw[d];go_enter func221,ntmps221;go_wp2_with fail;refine l.mono ?_;rintro e w' ⟨rfl,o⟩;subst o;go_wp2;go_ret;exact⟨rfl,rfl⟩
         . have d:ft s c=0:=by unfold ft;rw[if_pos b,if_neg j,if_neg (by rw[n];simp),if_neg t]
           have v:decide ((s.b.length:Int)≥200)=F:=by rw[cC];omega
           rw[d];go_enter func221,ntmps221;go_wp2_with fail;refine l.mono ?_;rintro e w' ⟨rfl,o⟩;subst o;go_wp2;go_ret;exact⟨rfl,rfl⟩
 . have d:ft s c=2:=by unfold ft;rw[if_neg b]
   rw[d];by_cases a:c=10
   . have f:((c.toNat:Int)==10)=true:=by rw[a];rfl
     have i:s.c=F:=by
      cases q:s.c
      . rfl
      . exact absurd (by rw[q,a];rfl) b
     rw[i] at k;go_enter func221,ntmps221;go_wp2;go_ret;exact⟨rfl,rfl⟩
   . have f:((c.toNat:Int)==10)=F:=op a;have i:s.c=true:=by
      cases q:s.c
      . exact absurd (by rw[q];exact(aQ.2 a).symm) b
      . rfl
     rw[i] at k;go_enter func221,ntmps221;go_wp2;go_ret;exact⟨rfl,rfl⟩
def kG (s:cx)(c:UInt8):Value:=.tuple #[V ⟨(cV s c).toArray⟩,.bool (fH s c),I J ((bi s c).a:Int)]
theorem uv {s a:cx}{c:UInt8}{t:ab}{b:Bool}{k:Nat}(d:cV s c=t)(e:fH s c=b)(f:bi s c=a)(g:a.a=k):kG s c=.tuple #[V ⟨t.toArray⟩,.bool b,I J (k:Int)]:=by
 unfold kG;rw[d,e,f,g]
theorem yw {w:X}{S:Nat->Prop}{g:Nat}{s:cx}(h:cP w S g s)(W:X):cP w (ay S W) g s:=h.a (fun _ _ e=>A e)
theorem aB.qg (W:X)(c:UInt8)(t:Nat)(a:Nat×Nat){k:Nat}(b:W.heap.size=k):aB (W.alloc (K #[I .u8 (c.toNat:Int)] t a)) (M ⟨k,0,U⟩) 1 [c]:=b▸aB.B W c t a
theorem Rz {W b:X}{g:Nat}{row:Obj}{r:Option Nat}(c:W.heap[g]? = M row)(d:Obj)(e:(W.alloc d).grownBy b r)(f:M g≠r):b.heap[g]? = M row:=by
 have a:g<W.heap.size:=(bO.1 c).1;have:=e.block g (by simp;omega) f;rw[this,(re W d U).block g a (by simp)];exact c
theorem MW (w:X)(S:Nat->Prop)(g:Nat)(s:cx)(c:UInt8)(h:cP w S g s)(b:s.a≠0):
 Calls prog 165 #[Q (M ⟨g,0,U⟩),I .u8 c.toNat] w fun e w'=>e=Y (kG s c)∧cP w' (ay S w) g (bi s c)∧am S w w':=by
 have a:=Mf c b;rw[uv a.2.1 a.2.2 a.1 rfl,a.1];have d:=aa h;obtain⟨j,f,i,_⟩:=h;have k:=aq w g 2 _ _ _ i;have l:((s.a:Int)==0)=F:=by rw[aQ];omega
 have m:((s.a:Int) != 0)=true:=by rw[di];omega
 go_enter func165,ntmps165;go_wp2;go_quiet (fail)
 go_wp2;go_ret3
 exact⟨rfl,yw (d.o.r _) w,am.H _ _ _⟩
theorem Qb (w:X)(S:Nat->Prop)(g:Nat)(s:cx)(c:UInt8)(k:Nat)(h:cP w S g s)(m:s.a=0)(a:ft s c=k)(d:k≠0):
 Calls prog 165 #[Q (M ⟨g,0,U⟩),I .u8 c.toNat] w fun e w'=>e=Y (kG s c)∧cP w' (ay S w) g (bi s c)∧am S w w':=by
 have f:bi s c={ s with a:=k }:=by unfold bi;rw[if_neg (by omega),a,if_pos d]
 rw[uv (t:=[]) (b:=F) (by unfold cV;rw[if_neg (fun e=>d (a.symm.trans e.2.1))]) (by unfold fH;rw[cC];exact fun e=>d (a.symm.trans e.2.1)) f rfl,f];have i:=xZ w S g s c h;rw[a] at i;have j:=h.j k;obtain⟨p,n,l,_⟩:=h;have q:w.cell? ⟨g,2,U⟩=M (I J 0):=by
  rw[aq w g 2 _ _ _ l];simp[m]
 have r:=aN w g 2 _ _ l;have u:((k:Int) != 0)=true:=by rw[di];omega
 go_enter func165,ntmps165;go_wp2_with fail;refine i.mono ?_;rintro e v ⟨rfl,o⟩;subst o;go_wp2;go_quiet (fail)
 go_wp2;go_ret3
 exact⟨rfl,yw (j.1.r _) _,j.2.a (am.H S _ _) (fun _ e _=>e)⟩
theorem RA (w:X)(S:Nat->Prop)(g:Nat)(s:cx)(h:cP w S g s)(j:s.a=0)(f:ft s 10=0):
 Calls prog 165 #[Q (M ⟨g,0,U⟩),I .u8 10] w fun e w'=>e=Y (kG s 10)∧cP w' (ay S w) g (bi s 10)∧am S w w':=by
 have k:bi s 10=⟨[],F,0⟩:=by unfold bi;rw[if_neg (by omega),f];rfl
 rw[uv (t:=s.b) (b:=true) (by unfold cV;rw[if_pos ⟨j,f,rfl⟩]) (by unfold fH;rw[bR];exact⟨j,f,rfl⟩) k rfl,k];have l:=xZ w S g s 10 h;rw[f] at l;have m:=h.j 0;have d:=m.1.G;have n:=d.1.y F;obtain⟨v,p,c,o,_⟩:=h;have x:=aq w g 0 _ _ _ c;have y:=aq w g 1 _ _ _ c;have z:w.cell? ⟨g,2,U⟩=M (I J 0):=by
  rw[aq w g 2 _ _ _ c];simp[j]
 have B:=aN w g 0 _ _ c;have C:=aN w g 1 _ _ c;have D:=aN w g 2 _ _ c;have q:=(o.f.y (w':=w.setCell ⟨g,2,U⟩ (I J 0)) (am.r (fun i=>i=g) w _ _ rfl) (fun a e=>by
  have:=gH c o (by decide);rw[dq,e] at this;intro r;exact this (by simp[aw,r]))).H (P:=prog) 31 9 5 underlying31 underlying5 underlying9
 generalize (⟨s.b.toArray⟩:ae)=bs at q ⊢;go_enter func165,ntmps165;go_wp2_with fail;refine l.mono ?_;rintro e G ⟨rfl,u⟩;subst u;go_wp2;go_ret3
 exact⟨rfl,yw n.1 _,m.2.a (d.2.a n.2 (fun _ e _=>e)) (fun _ e _=>e)⟩
theorem SK (w:X)(S:Nat->Prop)(g:Nat)(s:cx)(h:cP w S g s)(c:s.a=0)(d:ft s 13=0):
 Calls prog 165 #[Q (M ⟨g,0,U⟩),I .u8 13] w fun e w'=>e=Y (kG s 13)∧cP w' (ay S w) g (bi s 13)∧am S w w':=by
 have f:bi s 13=⟨s.b,true,0⟩:=by unfold bi;rw[if_neg (by omega),d,c];rfl
 rw[uv (t:=[]) (b:=F) (by unfold cV;rw[if_neg (fun e=>by cases e.2.2)]) (by unfold fH;rw[cC];exact fun e=>by cases e.2.2) f rfl,f];have i:=xZ w S g s 13 h;rw[d] at i;have j:=h.j 0;have k:=j.1.y true;obtain⟨n,l,a,o,_⟩:=h;have p:=aq w g 1 _ _ _ a;have q:w.cell? ⟨g,2,U⟩=M (I J 0):=by
  rw[aq w g 2 _ _ _ a];simp[c]
 have r:=aN w g 1 _ _ a;have u:=aN w g 2 _ _ a;go_enter func165,ntmps165;go_wp2_with fail;refine i.mono ?_;rintro e v ⟨rfl,m⟩;subst m;go_wp2;go_ret3
 exact⟨rfl,yw k.1 _,j.2.a k.2 (fun _ e _=>e)⟩
theorem Qc (w:X)(S:Nat->Prop)(g:Nat)(s:cx)(c:UInt8)(h:cP w S g s)(hs:s.b.length<=200)(C:s.a=0)(D:ft s c=0)(d:c≠10)(G:c≠13):
 Calls prog 165 #[Q (M ⟨g,0,U⟩),I .u8 c.toNat] w fun e w'=>e=Y (kG s c)∧cP w' (ay S w) g (bi s c)∧am S w w':=by
 have H:bi s c=⟨s.b++[c],s.c,0⟩:=by unfold bi;rw[if_neg (by omega),D,if_neg (by omega),if_neg d,if_neg G,C]
 rw[uv (t:=[]) (b:=F) (by unfold cV;rw[if_neg (fun e=>d e.2.2)]) (by unfold fH;rw[cC];exact fun e=>d e.2.2) H rfl,H];have L:=xZ w S g s c h;rw[D] at L;have t10:((c.toNat:Int)==10)=F:=op d;have t13:((c.toNat:Int)==13)=F:=op G;have HS:=h.j 0;obtain⟨f,j,m,N,h1,T⟩:=h;obtain⟨i0,v,x,y,z⟩:=info_parts gG;have Hi:=v;have lg:=aa x;have kZ:=aa y;have lq:=aa z
 have n:∀a,f=M a->a.block≠g:=fun a e e2=>by
  have:=gH m N (by decide);rw[dq,e] at this;exact this (by simp[aw,e2])
 have c0:w.cell? ⟨g,0,U⟩=M (Z f s.b.length j):=aq w g 0 _ _ _ m;have c2:w.cell? ⟨g,2,U⟩=M (I J 0):=by
  rw[aq w g 2 _ _ _ m];simp[C]
 have f0:w.frozen? ⟨g,0,U⟩=F:=aN w g 0 _ _ m;have f2:w.frozen? ⟨g,2,U⟩=F:=aN w g 2 _ _ m;have HO:=N.j (w':=w.setCell ⟨g,2,U⟩ (I J 0)) (am.r (fun i=>i=g) w _ _ rfl) (fun a e=>n a e);have W:(w.setCell ⟨g,2,U⟩ (I J 0)).heap[g]? = M (K #[Z f s.b.length j,.bool s.c,I J (0:Int)] 263 (0,0)):=by
  show _=_;rw[aP w g 2 _ _ _ m];rfl
 have hlt:g<w.heap.size:=(bO.1 m).1;go_enter func165,ntmps165;go_wp2_with fail;refine L.mono ?_;rintro e u ⟨rfl,hw⟩;subst hw;have HN:M g≠aw f:=by
  cases f with
  | none=>simp[aw]
  | some a=>intro e;injection e with e;exact n a rfl e.symm
 go_wp2_with (at_builtin;refine sM rfl (.tmp 23) (.tmp 25) 31 rfl 0 5 i0 underlying31 Hi lg.o kZ.o lq.o (l:=s.b) (l2:=[c]) rfl rfl (HO.r _) rfl rfl (aB.qg _ _ _ _ (by simp)) (by simp;omega) (ax _) ?_;intro lS iy q r p jS;have B:=Rz W _ p HN;have c3:q.cell? ⟨g,0,U⟩=M (Z f s.b.length j):=aq q g 0 _ _ _ B;have f3:q.frozen? ⟨g,0,U⟩=F:=aN q g 0 _ _ B;have sP:=aa r;have yE:=aa p;have Km:=aa jS;clear r p jS B)
 go_ret3
 have hz:(u.setCell ⟨g,2,U⟩ (I J 0)).heap.size=u.heap.size:=by simp
 have hT:am (fun k=>S k∧k≠g) (u.setCell ⟨g,2,U⟩ (I J 0)) q :=
  (am.G (re _ _ U) (fun k e => by cases e)).a (am.G yE.o (S := fun k => S k ∧ k ≠ g) (fun k e => by
   cases f with
   | none=>cases e
   | some a=>injection e with e;subst e;exact⟨T a rfl,n a rfl⟩)) (fun _ e _=>e)
 have hA:∀a,lS=M a->ay S (u.setCell ⟨g,2,U⟩ (I J 0)) a.block:=by
  intro a e;subst e;rcases Km.o with e | e
  . cases f with
    | none=>cases e
    | some a'=>injection e with e;rw[e];exact A (T a' rfl)
  . injection e with e;rw[e];exact R (by simp)
 have hL:=cP.H (s:=⟨s.b,s.c,0⟩) W h1 sP.o hT hA (s.b.length+1) (by simp);refine⟨rfl,hL.1.a (fun k _ e=>?_),HS.2.a hL.2 (fun _ e _=>e)⟩;rcases e with e | e
 . exact A e
 . exact R (by omega)
theorem ya (w:X)(S:Nat->Prop)(g:Nat)(s:cx)(c:UInt8)(h:cP w S g s)(i:s.b.length<=200):
 Calls prog 165 #[Q (M ⟨g,0,U⟩),I .u8 c.toNat] w fun e w'=>e=Y (kG s c)∧cP w' (ay S w) g (bi s c)∧am S w w':=by
 by_cases a:s.a=0
 . by_cases d:ft s c=0
   . by_cases b:c=10
     . subst b;exact RA w S g s h a d
     . by_cases f:c=13
       . subst f;exact SK w S g s h a d
       . exact Qc w S g s c h i a d b f
   . exact Qb w S g s c _ h a rfl d
 . exact MW w S g s c h a
structure cS (w:X)(S:Nat->Prop)(g gl:Nat)(nx lf rm fd code:Int)(ln:cx):Prop where
 b:w.heap[g]? = M (K #[Q (M ⟨gl,0,U⟩),I J nx,I J lf,I J rm,I J fd,I J code] 315 (0,0))
 c:S g
 d:cP w (fun k=>S k∧k≠g) gl ln
def ju (w:X)(S:Nat->Prop)(g:Nat)(s:dz):Prop :=
 ∃gl nx lf rm fd ln,cS w S g gl nx lf rm fd (fm s:Int) ln∧(fm s=0->ln=s.d∧nx=(hQ s:Int)∧lf=(jU s:Int)∧rm=4000-(s.f:Int)∧fd=(s.e:Int))
section
variable {w w':X} {S S':Nat->Prop} {g gl:Nat} {nx lf rm fd code:Int} {ln:cx}
theorem cS.kU (h:cS w S g gl nx lf rm fd code ln)(a:∀k,k<w.heap.size->S k->S' k):cS w S' g gl nx lf rm fd code ln :=
 ⟨h.b,a g (bO.1 h.b).1 h.c,h.d.a (fun k b e=>⟨a k b e.1,e.2⟩)⟩
theorem cS.jY (h:cS w S g gl nx lf rm fd code ln)(a:am S' w w')(b:∀k,S k->¬S' k):cS w' S g gl nx lf rm fd code ln :=
 ⟨a.y h.b (b g h.c),h.c,h.d.f a (fun k e=>b k e.1)⟩
theorem cS.r (h:cS w S g gl nx lf rm fd code ln)(a:Below w.heap.size w w'):cS w' S g gl nx lf rm fd code ln:=h.jY (am.f (S:=fun _=>False) a) (fun _ _ e=>e)
theorem cS.a (h:cS w S g gl nx lf rm fd code ln)(j:Nat)(a:j<6):w.cell? ⟨g,j,U⟩=#[Value.pointer (M ⟨gl,0,U⟩),I J nx,I J lf,I J rm,I J fd,I J code][j]?:=by
 match j,a with
 | 0,_=>exact aq w g 0 _ _ _ h.b
 | 1,_=>exact aq w g 1 _ _ _ h.b
 | 2,_=>exact aq w g 2 _ _ _ h.b
 | 3,_=>exact aq w g 3 _ _ _ h.b
 | 4,_=>exact aq w g 4 _ _ _ h.b
 | 5,_=>exact aq w g 5 _ _ _ h.b
theorem cS.j (h:cS w S g gl nx lf rm fd code ln)(j:Nat):w.frozen? ⟨g,j,U⟩=F:=aN w g j _ _ h.b
theorem cS.G (h:cS w S g gl nx lf rm fd code ln)(j:Nat)(v:Value){b c d f a:Int}
 (e:(#[Value.pointer (M ⟨gl,0,U⟩),I J nx,I J lf,I J rm,I J fd,I J code].setIfInBounds j v)=#[Value.pointer (M ⟨gl,0,U⟩),I J b,I J c,I J d,I J f,I J a]) :
 cS (w.setCell ⟨g,j,U⟩ v) S g gl b c d f a ln:=by
 refine⟨?_,h.c,h.d.f (am.r (fun i=>i=g) w _ _ rfl) (fun k e=>e.2)⟩;rw[aP w g j _ _ _ h.b,e]
theorem cS.B (h:cS w S g gl nx lf rm fd code ln)(k:Int):cS (w.setCell ⟨g,1,U⟩ (I J k)) S g gl k lf rm fd code ln:=h.G 1 _ rfl
theorem cS.H (h:cS w S g gl nx lf rm fd code ln)(k:Int):cS (w.setCell ⟨g,2,U⟩ (I J k)) S g gl nx k rm fd code ln:=h.G 2 _ rfl
theorem cS.mI (h:cS w S g gl nx lf rm fd code ln)(k:Int):cS (w.setCell ⟨g,3,U⟩ (I J k)) S g gl nx lf k fd code ln:=h.G 3 _ rfl
theorem cS.lI (h:cS w S g gl nx lf rm fd code ln)(k:Int):cS (w.setCell ⟨g,4,U⟩ (I J k)) S g gl nx lf rm k code ln:=h.G 4 _ rfl
theorem cS.y (h:cS w S g gl nx lf rm fd code ln)(k:Int):cS (w.setCell ⟨g,5,U⟩ (I J k)) S g gl nx lf rm fd k ln:=h.G 5 _ rfl
theorem cS.f (h:cS w S g gl nx lf rm fd code ln)(j:Nat)(v:Value):am S w (w.setCell ⟨g,j,U⟩ v):=am.r S w _ _ h.c
end
theorem ju.a {w:X}{S S':Nat->Prop}{g:Nat}{s:dz}(h:ju w S g s)(a:∀k,k<w.heap.size->S k->S' k):ju w S' g s:=by
 obtain⟨b,nx,lf,c,d,e,h,k⟩:=h;exact⟨b,nx,lf,c,d,e,h.kU a,k⟩
theorem ju.j {w w':X}{S S':Nat->Prop}{g:Nat}{s:dz}(h:ju w S g s)(a:am S' w w')(b:∀k,S k->¬S' k):ju w' S g s:=by
 obtain⟨c,nx,lf,d,e,f,h,k⟩:=h;exact⟨c,nx,lf,d,e,f,h.jY a b,k⟩
theorem KK (w:X):
 Calls prog 225 #[] w fun e w'=>∃g,e=Y (Q (M ⟨g,0,U⟩))∧ju w' (fun k=>w.heap.size<=k) g rH∧Below w.heap.size w w':=by
 go_enter func225,ntmps225;go_wp2_with fail;refine(BF w).mono ?_;rintro e a ⟨rfl,i,j⟩;have d:=i;have f:=aa j
 go_wp2;go_ret;have b:=f.o.size;have l:=d.B;have m:am (fun _=>False) a (a.alloc (K #[Q (M ⟨w.heap.size,0,U⟩),I J 0,I J 0,I J 4000,I J 0,I J 0] 315)):=am.f ((ar _ _).alloc (ak _) _);have c:=(d.a (S':=fun k=>w.heap.size<=k∧k≠a.heap.size) (fun k n e=>⟨e,by omega⟩)).f m (fun _ _ e=>e);exact⟨a.heap.size,rfl,⟨w.heap.size,0,0,4000,0,dw,⟨aX a _,b,c⟩,fun _=>⟨rfl,rfl,rfl,rfl,rfl⟩⟩,f.o.trans ((ar _ _).alloc b _)⟩
def bC (w:X)(g:Nat)(s:ae)(i:Nat):Prop:=w.heap[g]? = M (K #[V s,I J (i:Int)] 338 (0,0))
def bD(g:Nat):Nat->Prop:=fun k=>k=g
def eU (c:Nat):Ending:=.panicked [{ v:=.iface 363 (I J (c:Int)),recovered:=F }]
section
variable {w w':X} {g:Nat} {s:ae} {i:Nat}
theorem bC.y (h:bC w g s i):g<w.heap.size:=(bO.1 h).1
theorem bC.j (h:bC w g s i)(a:Below w.heap.size w w'):bC w' g s i:=(a.block g h.y).trans h
theorem bC.a (h:bC w g s i)(n:Nat):bC (w.drewN n) g s i:=h
theorem bC.G {S:Nat->Prop}(h:bC w g s i)(a:am S w w')(b:¬S g):bC w' g s i:=a.y h b
theorem bC.f (h:bC w g s i):w.cell? ⟨g,0,U⟩=M (V s)∧w.cell? ⟨g,1,U⟩=M (I J (i:Int))∧w.frozen? ⟨g,1,U⟩=F :=
 ⟨aq w _ 0 _ _ _ h,aq w _ 1 _ _ _ h,aN w _ 1 _ _ h⟩
theorem bC.B (h:bC w g s i)(j:Nat)(x:Int)(a:x=j):bC (w.setCell ⟨g,1,U⟩ (I J x)) g s j:=by
 subst a;unfold bC at h ⊢;rw[aP w g 1 _ _ _ h];rfl
end
theorem am.jY {w:X}{g:Nat}(n:Nat)(v:Value):am (bD g) w ((w.drewN n).setCell ⟨g,1,U⟩ v) :=
 (am.H _ w n).a (am.r (bD g) _ _ _ rfl) (fun _ h _=>h)
theorem rs (s:ae)(i g:Nat)(w:X)(h:bC w g s i):
 Calls prog 335 #[Q (M ⟨g,0,U⟩)] w fun e w'=>e=Y (.bool (decide (i<s.size)))∧∃n,w'=w.drewN n:=by
 obtain⟨a,b,c⟩:=h.f;clear h;go_enter func335,ntmps335;go_wp2;go_quiet (fail)
 go_wp2;go_ret;exact⟨rfl,nq,rfl⟩
theorem vQ (s:ae)(i g:Nat)(c:UInt8)(w:X)(h:bC w g s i)(m:s.size<=1000000)(a:s.data.toList[i]? = M c):
 Calls prog 362 #[Q (M ⟨g,0,U⟩),I .u8 (c.toNat:Int)] w fun e w'=>e=Y (.bool true)∧bC w' g s (i+1)∧am (bD g) w w':=by
 have d:s.data.toList.length=s.size:=by rw[cJ];rfl
 have f:=fun q=>rs s i g (w.drewN q) (h.a q);have n:=h.f;have b:i<s.size:=by
  have:=(fe.1 a).1;rwa[d] at this
 have k:decide (i<s.size)=true:=by rw[bR];omega
 have j:(i:Int)<s.size:=by omega
 have l:s[i]=c:=by
  rw[iz (by rw[d];exact b)] at a;injection a with a
 rw[k] at f;have o:=FJ l;go_enter func362,ntmps362;go_wp2;go_quiet ((go_at_call 335;exact Calls.quiet_of (f _)))
 go_wp2;go_ret;exact⟨rfl,(h.a nq).B (i+1) _ (by omega),am.jY _ _⟩
theorem Aj (s:ae)(i g:Nat)(c:UInt8)(w:X)(h:bC w g s i)(j:¬s.data.toList[i]? = M c):
 Calls prog 362 #[Q (M ⟨g,0,U⟩),I .u8 (c.toNat:Int)] w fun e w'=>e=Y (.bool F)∧bC w' g s i∧am (bD g) w w':=by
 have k:s.data.toList.length=s.size:=by rw[cJ];rfl
 have a:=fun q=>rs s i g (w.drewN q) (h.a q);have m:=h.f;by_cases b:i<s.size
 . have d:decide (i<s.size)=true:=by rw[bR];omega
   have f:(i:Int)<s.size:=by omega
   have l:s[i]≠c:=by
    intro e;refine j ?_;rw[iz (by rw[k];exact b),<-e];simp[ByteArray.getElem_eq_getElem_data]
   rw[d] at a;have n:=FI l;go_enter func362,ntmps362;go_wp2;go_quiet ((go_at_call 335;exact Calls.quiet_of (a _)))
   go_wp2;go_ret;exact⟨rfl,h.a nq,am.H _ _ _⟩
 . have d:decide (i<s.size)=F:=by rw[cC];omega
   rw[d] at a;go_enter func362,ntmps362;go_wp2;go_quiet ((go_at_call 335;exact Calls.quiet_of (a _)))
   go_wp2;go_ret;exact⟨rfl,h.a nq,am.H _ _ _⟩
theorem vR (s:ae)(i g:Nat)(c:UInt8)(w:X)(h:bC w g s i)(a:s.size<=1000000)(b:s.data.toList[i]? = M c):
 Calls prog 336 #[Q (M ⟨g,0,U⟩),I .u8 (c.toNat:Int)] w fun e w'=>e=Y (.tuple #[])∧bC w' g s (i+1)∧am (bD g) w w':=by
 go_enter func336,ntmps336;go_wp2_with fail;refine(vQ s i g c w h a b).mono ?_;rintro e j ⟨rfl,d,f⟩;go_wp2;go_end0
 exact⟨rfl,d,f⟩
theorem FD (s:ae)(i g:Nat)(c:UInt8)(w:X)(h:bC w g s i)(a:¬s.data.toList[i]? = M c):
 Calls prog 336 #[Q (M ⟨g,0,U⟩),I .u8 (c.toNat:Int)] w fun e w'=>e=eU 5∧am (bD g) w w':=by
 have b:=aa (Aj s i g c w h a);clear a;go_enter func336,ntmps336;go_wp2_with fail;refine b.o.mono ?_;rintro e f ⟨rfl,j,d⟩;go_wp2;exact⟨rfl,rfl,d⟩
def tH (w:X)(g:Nat):Nat:=match w.cell? ⟨g,1,U⟩ with
 | some (I _ x)=>x.toNat
 | _=>0
theorem bC.r {w:X}{g:Nat}{s:ae}{i:Nat}(h:bC w g s i):tH w g=i:=by
 unfold tH;rw[h.f.2.1];simp
theorem wi (s:ae)(k:Nat)(h:k<s.size):s.data.toList[k]'(by rw[cJ];exact h)=s[k]:=by simp[ByteArray.getElem_eq_getElem_data]
theorem EL (c:UInt8):lt (c.toNat:Int)=dD c:=rfl
theorem Ew (c:UInt8)(w:X):
 Calls prog 360 #[I .u8 (c.toNat:Int)] w fun e w'=>e=Y (.bool (dX c))∧w'=w:=by
 by_cases a:c=32
 . subst a;go_enter func360,ntmps360;go_wp2;go_ret;exact⟨rfl,rfl⟩
 . have f:((c.toNat:Int)==32)=F:=op a;by_cases b:c=9
   . subst b;go_enter func360,ntmps360;go_wp2;go_ret;exact⟨rfl,rfl⟩
   . have g:((c.toNat:Int)==9)=F:=op b;have d:Hid (dX c=F):=by unfold Hid dX;rw[aQ.2 a,aQ.2 b];rfl
     go_enter func360,ntmps360;go_wp2;go_ret;exact⟨fy (by rw[d.o]),rfl⟩
theorem FE (s:ae)(i g:Nat)(w:X)(h:bC w g s i)(L:s.size<=1000000)(v:i<=s.size):
 Calls prog 359 #[Q (M ⟨g,0,U⟩),.func (.func 312) #[] #[]] w fun e w' =>
  e=Y (V (s.extract i (i+aF s.data.toList i)))∧bC w' g s (i+aF s.data.toList i)∧am (bD g) w w':=by
 have x:s.data.toList.length=s.size:=by rw[cJ];rfl
 have r:=aa x;have H:=aa h;obtain⟨y,N,S⟩:=h.f;go_enter func359,ntmps359;go_wp2;go_loopw [] (fun wr=>∃k:Nat,i<=k∧k<=s.size∧bC wr g s k∧am (bD g) w wr∧i+aF s.data.toList i=k+aF s.data.toList k) (fun wr=>s.size-tH wr g)
 case atStart=>exact⟨i,ak _,v,H.o,am.B _ _,rfl⟩
 case round =>
  obtain⟨k,z,T,h,B,C⟩:=hrel;have c:=fun q=>rs s k g (wr.drewN q) (h.a q);have m:=aa B;have n:=aa C;have y:=h.f;have D:=aa h.r;by_cases d:k<s.size
  . have p:decide (k<s.size)=true:=by rw[bR];omega
    have t:(k:Int)<s.size:=by omega
    have f:k<s.data.toList.length:=by rw[r.o];exact d
    have j:=wi s k d;rw[p] at c;cases a:dD s[k]
    . have b:Hid (i+aF s.data.toList i=k):=by
       unfold Hid;rw[n.o];unfold aF;rw[Fh f (by rw[j];exact a)];rfl
      have l:=fun W=>yp (s[k].toNat:Int) W;rw[EL,a] at l;have G:(i:Int)<=k:=by omega
      have e2:(k:Int)<=s.size:=by omega
      go_wp2;go_quiet ((first | (go_at_call 335;exact Calls.quiet_of (c _)) | (go_at_call 312;exact Calls.quiet_of_same (l _))))
      go_wp2;go_quiet (fail)
      go_wp2;go_ret;exact⟨ru (by rw[b.o]),by rw[b.o];exact h,(m.o.a (am.H (bD g) _ _) (fun _ h _=>h)).a (am.H (bD g) _ _) (fun _ h _=>h)⟩
    . have b:Hid (i+aF s.data.toList i=(k+1)+aF s.data.toList (k+1)):=by
       unfold Hid;rw[n.o];unfold aF;rw[Fg f (by rw[j];exact a)];omega
      have l:=fun W=>yp (s[k].toNat:Int) W;rw[EL,a] at l;go_wp2;go_quiet ((first | (go_at_call 335;exact Calls.quiet_of (c _)) | (go_at_call 312;exact Calls.quiet_of_same (l _))))
      go_wp2;have u:=(h.a nq).B (k+1) ((k:Int)+1) (by omega);go_roundw
      case rel=>exact⟨k+1,by omega,by omega,u,m.o.a (am.jY _ _) (fun _ h _=>h),b.o⟩
      case measure=>rw[u.r,D.o];omega
  . obtain rfl:k=s.size:=by omega
    have p:decide (s.size<s.size)=F:=by rw[cC];omega
    have b:Hid (i+aF s.data.toList i=s.size):=by
     unfold Hid;rw[n.o];unfold aF;rw[Fr _ (by rw[r.o];exact ak _)];rfl
    rw[p] at c;have G:(i:Int)<=s.size:=by omega
    go_wp2;go_quiet ((go_at_call 335;exact Calls.quiet_of (c _)))
    go_wp2;go_quiet (fail)
    go_wp2;go_ret;exact⟨ru (by rw[b.o]),by rw[b.o];exact h,(m.o.a (am.H (bD g) _ _) (fun _ h _=>h)).a (am.H (bD g) _ _) (fun _ h _=>h)⟩
theorem PE (s:ae)(i g:Nat)(w:X)(h:bC w g s i)(L:s.size<=1000000)(v:i<=s.size):
 Calls prog 359 #[Q (M ⟨g,0,U⟩),.func (.func 360) #[] #[]] w fun e w' =>
  e=Y (V (s.extract i (i+fQ dX s.data.toList i)))∧bC w' g s (i+fQ dX s.data.toList i)∧am (bD g) w w':=by
 have x:s.data.toList.length=s.size:=by rw[cJ];rfl
 have r:=aa x;have H:=aa h;obtain⟨y,N,S⟩:=h.f;go_enter func359,ntmps359;go_wp2;go_loopw [] (fun wr=>∃k:Nat,i<=k∧k<=s.size∧bC wr g s k∧am (bD g) w wr∧i+fQ dX s.data.toList i=k+fQ dX s.data.toList k) (fun wr=>s.size-tH wr g)
 case atStart=>exact⟨i,ak _,v,H.o,am.B _ _,rfl⟩
 case round =>
  obtain⟨k,z,T,h,B,C⟩:=hrel;have c:=fun q=>rs s k g (wr.drewN q) (h.a q);have m:=aa B;have n:=aa C;have y:=h.f;have D:=aa h.r;by_cases d:k<s.size
  . have p:decide (k<s.size)=true:=by rw[bR];omega
    have t:(k:Int)<s.size:=by omega
    have f:k<s.data.toList.length:=by rw[r.o];exact d
    have j:=wi s k d;rw[p] at c;cases a:dX s[k]
    . have b:Hid (i+fQ dX s.data.toList i=k):=by
       unfold Hid;rw[n.o];rw[Fh f (by rw[j];exact a)];rfl
      have l:=fun W=>Ew s[k] W;rw[a] at l;have G:(i:Int)<=k:=by omega
      have e2:(k:Int)<=s.size:=by omega
      go_wp2;go_quiet ((first | (go_at_call 335;exact Calls.quiet_of (c _)) | (go_at_call 360;exact Calls.quiet_of_same (l _))))
      go_wp2;go_quiet (fail)
      go_wp2;go_ret;exact⟨ru (by rw[b.o]),by rw[b.o];exact h,(m.o.a (am.H (bD g) _ _) (fun _ h _=>h)).a (am.H (bD g) _ _) (fun _ h _=>h)⟩
    . have b:Hid (i+fQ dX s.data.toList i=(k+1)+fQ dX s.data.toList (k+1)):=by
       unfold Hid;rw[n.o];rw[Fg f (by rw[j];exact a)];omega
      have l:=fun W=>Ew s[k] W;rw[a] at l;go_wp2;go_quiet ((first | (go_at_call 335;exact Calls.quiet_of (c _)) | (go_at_call 360;exact Calls.quiet_of_same (l _))))
      go_wp2;have u:=(h.a nq).B (k+1) ((k:Int)+1) (by omega);go_roundw
      case rel=>exact⟨k+1,by omega,by omega,u,m.o.a (am.jY _ _) (fun _ h _=>h),b.o⟩
      case measure=>rw[u.r,D.o];omega
  . obtain rfl:k=s.size:=by omega
    have p:decide (s.size<s.size)=F:=by rw[cC];omega
    have b:Hid (i+fQ dX s.data.toList i=s.size):=by
     unfold Hid;rw[n.o];rw[Fr _ (by rw[r.o];exact ak _)];rfl
    rw[p] at c;have G:(i:Int)<=s.size:=by omega
    go_wp2;go_quiet ((go_at_call 335;exact Calls.quiet_of (c _)))
    go_wp2;go_quiet (fail)
    go_wp2;go_ret;exact⟨ru (by rw[b.o]),by rw[b.o];exact h,(m.o.a (am.H (bD g) _ _) (fun _ h _=>h)).a (am.H (bD g) _ _) (fun _ h _=>h)⟩
theorem yk (s:ae)(i g:Nat)(w:X)(h:bC w g s i)(a:s.size<=1000000)(b:i<=s.size):
 Calls prog 333 #[Q (M ⟨g,0,U⟩)] w fun e w'=>e=Y (.tuple #[])∧bC w' g s (cn s.data.toList i)∧am (bD g) w w':=by
 have c:=aa (PE s i g w h a b);go_enter func333,ntmps333;go_wp2_with fail;refine c.o.mono ?_;rintro e j ⟨rfl,d,f⟩;go_wp2;go_end0
 exact⟨rfl,d,f⟩
theorem yr (s:ae)(i g:Nat)(w:X)(h:bC w g s i)(f:s.size<=1000000)(b:i<=s.size)(p:aF s.data.toList i≠0):
 Calls prog 361 #[Q (M ⟨g,0,U⟩)] w fun e w'=>e=Y (V (s.extract i (i+aF s.data.toList i)))∧bC w' g s (i+aF s.data.toList i)∧am (bD g) w w':=by
 have j:=FE s i g w h f b;have c:=uD s.data.toList i (by rw[cJ];exact b);rw[cJ] at c;have k:i+aF s.data.toList i<=s.size:=c;have a:=qh (s.extract i (i+aF s.data.toList i)) (by simp;omega);have d:((s.extract i (i+aF s.data.toList i)).toList==[])=F:=by
  cases l:(s.extract i (i+aF s.data.toList i)).toList with
  | nil=>rw[l] at a;cases a
  | cons _ _=>rfl
 generalize aF s.data.toList i=n at *;generalize s.extract i (i+n)=x at *;go_enter func361,ntmps361;go_wp2_with fail;refine j.mono ?_;rintro e q ⟨rfl,m,o⟩;go_wp2;go_ret;exact⟨rfl,m,o⟩
theorem yz (s:ae)(i g:Nat)(w:X)(h:bC w g s i)(b:s.size<=1000000)(c:i<=s.size)(d:aF s.data.toList i=0):
 Calls prog 361 #[Q (M ⟨g,0,U⟩)] w fun e w'=>e=eU 5∧am (bD g) w w':=by
 have a:=FE s i g w h b c;have f:s.extract i (i+aF s.data.toList i)=⟨#[]⟩:=qe _ (by rw[d];simp);rw[f] at a;go_enter func361,ntmps361;go_wp2_with fail;refine a.mono ?_;rintro e k ⟨rfl,l,j⟩;go_wp2;exact⟨rfl,rfl,j⟩
theorem Ex (s:ae)(i g:Nat)(w:X)(h:bC w g s i)(m:s.size<=1000000)(o:i<s.size):
 Calls prog 375 #[Q (M ⟨g,0,U⟩)] w fun e w'=>e=Y (I .u8 (s[i].toNat:Int))∧bC w' g s (i+1)∧am (bD g) w w':=by
 have a:=rs s i g w h;have j:decide (i<s.size)=true:=by rw[bR];omega
 rw[j] at a;go_enter func375,ntmps375;go_wp2_with fail;refine a.mono ?_;rintro e b ⟨rfl,n,c⟩;have d:bC b g s i:=by rw[c];exact h.a n
 have k:am (bD g) w b:=by rw[c];exact am.H _ _ _
 clear c  a;have p:=d.f;have f:=d.B (i+1) ((i:Int)+1) (by omega);have l:am (bD g) w (b.setCell ⟨g,1,U⟩ (I J ((i:Int)+1))):=k.a (am.r (bD g) _ _ _ rfl) (fun _ h _=>h);have q:=f.f.1;have r:(i:Int)+1-1=i:=by omega
 have t:(i:Int)<s.size:=by omega
 go_wp2;go_quiet (fail)
 go_wp2;go_ret;exact⟨rfl,f.a nq,l.a (am.H (bD g) _ _) (fun _ h _=>h)⟩
theorem EO (s:ae)(i g:Nat)(w:X)(h:bC w g s i)(j:¬i<s.size):
 Calls prog 375 #[Q (M ⟨g,0,U⟩)] w fun e w'=>e=eU 14∧am (bD g) w w':=by
 have a:=rs s i g w h;have c:decide (i<s.size)=F:=by rw[cC];omega
 rw[c] at a;go_enter func375,ntmps375;go_wp2_with fail;refine a.mono ?_;rintro e d ⟨rfl,n,b⟩;have f:am (bD g) w d:=by rw[b];exact am.H _ _ _
 clear b;go_wp2;exact⟨rfl,rfl,f⟩
def BJ (m:Option (ab×ab))(w:X)(g:Nat)(s:ae)(e:Ending)(w':X):Prop :=
 am (bD g) w w'∧match m with
  | none=>e=eU 14
  | some x=>e=Y (V ⟨x.1.toArray⟩)∧∃j,j<=s.size∧bC w' g s j∧s.data.toList.drop j=x.2
theorem BJ.a {m:Option (ab×ab)}{w:X}{g:Nat}{s:ae}{w':X}(a:m=U)(b:am (bD g) w w'):BJ m w g s (eU 14) w':=by
 subst a;exact⟨b,rfl⟩
theorem BJ.f {m:Option (ab×ab)}{w:X}{g:Nat}{s:ae}{v r:ab}{e:Ending}{w':X}{j:Nat}(a:m=M (v,r))(b:e=Y (V ⟨v.toArray⟩))(c:j<=s.size)(d:bC w' g s j)(hd:s.data.toList.drop j=r)(f:am (bD g) w w'):BJ m w g s e w':=by
 subst a;exact⟨f,b,j,c,d,hd⟩
structure tS (w:X)(g:Nat)(s:ae)(k:Nat)(acc:ab)(ao:ag)(cap:Nat)(wr:X):Prop where
 a:bC wr g s k
 c:bl wr w.heap.size 5 ao cap acc
 b:am (bD g) w wr
 d:g<w.heap.size
section
variable {w wr w1 w3:X} {g k k':Nat} {s:ae} {acc acc':ab} {ao gL:ag} {cap cap':Nat}
theorem tS.f (h:tS w g s k acc ao cap wr)(c:bC w1 g s k')(b:am (bD g) wr w1):tS w g s k' acc ao cap w1 :=
 ⟨c,h.c.j b (fun a e d=>by have:=(h.c.a a e).1;have:=h.d;unfold bD at d;omega),h.b.a b (fun _ h _=>h),h.d⟩
theorem tS.j (h:tS w g s k acc ao cap wr)(b:Obj)(d:bl w3 w.heap.size 5 gL cap' acc')(f:(wr.alloc b).grownBy w3 (aw ao)):tS w g s k acc' gL cap' w3:=by
 have j:∀i,aw ao=M i->w.heap.size<=i:=by
  intro i e;cases ao with
  | none=>simp[aw] at e
  | some a=>simp only[aw,jq] at e;have:=(h.c.a a rfl).1;omega
 have c:=(am.G (re wr b U) (fun k e=>by cases e)).a (am.G f j) (fun _ h _=>h);exact⟨h.a.G c (by have:=h.d;omega),d,h.b.a c (fun i m l=>by omega),h.d⟩
end
theorem aB.nD (W:X)(c:UInt8)(t:Nat)(a:Nat×Nat){k:Nat}(b:W.heap.size=k):aB (W.alloc (K #[I .u8 (c.toNat:Int)] t a)) (M ⟨k,0,U⟩) 1 [c]:=b▸aB.B W c t a
theorem Na (s:ae)(i g:Nat)(w:X)(h:bC w g s i)(hs:s.size<=1000000)(hi:i<=s.size):
 Calls prog 363 #[Q (M ⟨g,0,U⟩)] w fun e w'=>BJ (eY [] (s.data.toList.drop i)) w g s e w':=by
 have hl:s.data.toList.length=s.size:=by rw[cJ];rfl
 have B:=aa hl;obtain⟨i0,G,H,L,N⟩:=info_parts gG;have Hi:=G;have lg:=aa H;have kZ:=aa L;have lq:=aa N
 go_enter func363,ntmps363;go_wp2;go_loopw [3] (fun t wr=>∃(k:Nat) (a:ab) (S:ag) (q:Nat),k<=s.size∧a.length<=k∧t=Z S a.length q∧tS w g s k a S q wr∧eY [] (s.data.toList.drop i)=eY a (s.data.toList.drop k)) (fun _ wr=>s.size-tH wr g)
 case atStart=>exact⟨i,[],U,0,hi,ax _,rfl,⟨h,bl.y _ _ _,am.B _ _,h.y⟩,rfl⟩
 case round =>
  obtain⟨k,a,S,q,hk,hal,rfl,hA,hq⟩:=hrel;have C:=aa hA;have ZI:=aa hA.a.r;have x:=aa hq;by_cases n:k<s.size
  . have D:Hid (s.data.toList.drop k=s[k]::s.data.toList.drop (k+1)):=by
     unfold Hid;rw[kt (by rw[B.o];exact n),wi s k n]
    go_wp2_with fail;refine(Ex s k g _ C.o.a hs n).mono ?_;rintro e w1 ⟨rfl,T,r⟩;have b:=C.o.f T r;generalize s[k]=c at *;by_cases W:c=34
    . subst W;have p:eY [] (s.data.toList.drop i)=M (a,s.data.toList.drop (k+1)):=by rw[x.o,D.o,Fl]
      have vC:=b.c.f.H (P:=prog) 31 9 5 underlying31 underlying5 underlying9;go_wp2;go_ret;exact BJ.f p rfl (by omega) b.a rfl b.b
    . have t34:((c.toNat:Int)==34)=F:=op W;by_cases u:c=92
      . subst u;by_cases f:k+1<s.size
        . have HD2:Hid (s.data.toList.drop (k+1)=s[k+1]::s.data.toList.drop (k+2)):=by
           unfold Hid;rw[kt (by rw[B.o];exact f),wi s (k+1) f]
          have p:Hid (eY [] (s.data.toList.drop i)=eY (a++[s[k+1]]) (s.data.toList.drop (k+2))):=by
           unfold Hid;rw[x.o,D.o,HD2.o,Fj]
          go_wp2_with fail;refine(Ex s (k+1) g _ b.a hs f).mono ?_;rintro e w2 ⟨rfl,T,r⟩;have v:=b.f T r;generalize s[k+1]=d at *;go_wp2_with (at_builtin;refine sM rfl (.tmp 15) (.tmp 17) 31 rfl w.heap.size 5 i0 underlying31 Hi lg.o kZ.o lq.o (l:=a) (l2:=[d]) rfl rfl (v.c.r _) rfl rfl (aB.nD _ _ _ _ (by simp)) (by simp;omega) (by have:=v.b.b;simp;omega) ?_;intro lS iy w3 j m jS;have y:=aa (v.j _ j m);clear j m jS)
          go_roundw
          case rel=>exact⟨k+2,a++[d],lS,iy,by omega,by rw[aD];simp;omega,by rw[aD];rfl,y.o,p.o⟩
          case measure=>rw[y.o.a.r,ZI.o];omega
        . have p:Hid (eY [] (s.data.toList.drop i)=U):=by
           unfold Hid;rw[x.o,D.o,oO (show s.data.toList.length<=k+1 by rw[B.o];omega),Fs]
          go_wp2_with fail;refine(EO s (k+1) g _ b.a f).mono ?_;rintro e w2 ⟨z,r⟩;unfold eU at z;subst z;have HT:=b.b.a r (fun _ h _=>h);go_wp2;exact⟨rfl,BJ.a p.o HT⟩
      . have t92:((c.toNat:Int)==92)=F:=op u;have p:Hid (eY [] (s.data.toList.drop i)=eY (a++[c]) (s.data.toList.drop (k+1))):=by
         unfold Hid;rw[x.o,D.o,Fk _ _ _ W u]
        go_wp2_with (at_builtin;refine sM rfl (.tmp 15) (.tmp 17) 31 rfl w.heap.size 5 i0 underlying31 Hi lg.o kZ.o lq.o (l:=a) (l2:=[c]) rfl rfl (b.c.r _) rfl rfl (aB.nD _ _ _ _ (by simp)) (by simp;omega) (by have:=b.b.b;simp;omega) ?_;intro lS iy w3 j m jS;have y:=aa (b.j _ j m);clear j m jS)
        go_roundw
        case rel=>exact⟨k+1,a++[c],lS,iy,by omega,by rw[aD];simp;omega,by rw[aD];rfl,y.o,p.o⟩
        case measure=>rw[y.o.a.r,ZI.o];omega
  . have p:Hid (eY [] (s.data.toList.drop i)=U):=by
     unfold Hid;rw[x.o,oO (show s.data.toList.length<=k by rw[B.o];omega),AJ]
    go_wp2_with fail;refine(EO s k g _ C.o.a n).mono ?_;rintro e w2 ⟨z,r⟩;unfold eU at z;subst z;have HT:=C.o.b.a r (fun _ h _=>h);go_wp2;exact⟨rfl,BJ.a p.o HT⟩
structure fU (w:X)(S:Nat->Prop)(g:Nat)(ao:ag)(cap:Nat)(bo:ag)(bc:Nat)(t:dI):Prop where
 c:w.heap[g]? = M (K #[Z ao t.b.length cap,Z bo t.a.length bc] 354 (0,0))
 e:jt w (fun k=>(S k∧k≠g)∧aw bo≠M k) 98 ao cap t.b
 f:bl w 0 5 bo bc t.a
 b:∀a,bo=M a->S a.block∧a.block≠g
 d:S g
section
variable {w w':X} {S S':Nat->Prop} {g:Nat} {ao bo:ag} {cap bc:Nat} {t:dI}
theorem fU.a (h:fU w S g ao cap bo bc t):g<w.heap.size:=(bO.1 h.c).1
theorem fU.j (h:fU w S g ao cap bo bc t):w.cell? ⟨g,0,U⟩=M (Z ao t.b.length cap):=aq w g 0 _ _ _ h.c
theorem fU.r (h:fU w S g ao cap bo bc t):w.cell? ⟨g,1,U⟩=M (Z bo t.a.length bc):=aq w g 1 _ _ _ h.c
theorem fU.H (h:fU w S g ao cap bo bc t)(b:am S' w w')(c:∀k,S k->¬S' k):fU w' S g ao cap bo bc t :=
 ⟨b.y h.c (c g h.d),h.e.f b (fun k e=>c k e.1.1),h.f.j b (fun a e=>c _ (h.b a e).1),h.b,h.d⟩
theorem fU.y (h:fU w S g ao cap bo bc t)(b:∀k,k<w.heap.size->S k->S' k):fU w S' g ao cap bo bc t :=
 ⟨h.c,h.e.a (fun k c e=>⟨⟨b k c e.1.1,e.1.2⟩,e.2⟩),h.f,fun a e=>⟨b _ (h.f.a a e).2 (h.b a e).1,(h.b a e).2⟩,b g h.a h.d⟩
theorem fU.G (h:fU w S g ao cap bo bc t)(a:Below w.heap.size w w'):fU w' S g ao cap bo bc t:=h.H (am.f (S:=fun _=>False) a) (fun _ _ e=>e)
end
theorem fU.jK (w:X):fU (w.alloc (K #[Z U 0 0,Z U 0 0] 354)) (fun k=>w.heap.size<=k) w.heap.size U 0 U 0 gN :=
 ⟨aX w _,jt.B _ _ _,bl.y _ _ _,fun a e=>(by cases e),ak _⟩
def ej (w:X)(S:Nat->Prop)(g:Nat)(t:dI):Prop:=∃ao cap bo bc,fU w S g ao cap bo bc t
section
variable {w w':X} {S S':Nat->Prop} {g:Nat} {t:dI}
theorem ej.a (h:ej w S g t)(e:am S' w w')(f:∀k,S k->¬S' k):ej w' S g t:=by obtain⟨a,b,c,d,h⟩:=h;exact⟨a,b,c,d,h.H e f⟩
theorem ej.f (h:ej w S g t)(e:∀k,k<w.heap.size->S k->S' k):ej w S' g t:=by obtain⟨a,b,c,d,h⟩:=h;exact⟨a,b,c,d,h.y e⟩
theorem ej.j (h:ej w S g t)(e:Below w.heap.size w w'):ej w' S g t:=by obtain⟨a,b,c,d,h⟩:=h;exact⟨a,b,c,d,h.G e⟩
end
theorem jt.G {W:X}{S:Nat->Prop}{f:Nat}{ao:ag}{cap:Nat}{es:List az}(h:jt W S f ao cap es)(g:Obj):∃i:List (az×cU),aK (W.alloc g) 0 f 12 ao cap es.length (cT i) ∧
 ∀gL b w' (e:az) s (N:Nat->Prop) j,e.f s=j->fX W N e s->s.c=U∧s.b=0->(∀k,S k->¬N k)->aK w' 0 f 12 gL b (es.length+1) (cT i++j)->(W.alloc g).grownBy w' (aw ao)->(aw gL=aw ao∨aw gL=M (W.alloc g).heap.size)->jt w' (fun k=>S k∨N k∨W.heap.size<=k) f gL b (es++[e])∧am S W w':=by
 obtain⟨i,c,u,o,v,w⟩:=h;have l:Below W.heap.size W (W.alloc g):=(ar _ _).alloc (ak _) _;have q:=am.f (S:=fun _=>False) l;refine⟨i,u.B l,fun gL b w' e s N j x y m z r t n=>?_⟩;subst x;have B:cT [(e,s)]=e.f s:=by simp[cT]
 rw[<-B] at r;have:=jt.j (N:=N) o (fun p d=>(v p d).f q (fun _ _ e=>e)) (ps2:=[(e,s)]) (fun p d=>by rw[cY.1 d];exact y.f q (fun _ _ e=>e)) z r (by rw[<-c,gD];rfl) t n w (fun p d=>by rw[cY.1 d];exact m);refine⟨?_,?_⟩
 . rw[c] at this;refine this.a (fun k C e=>?_);rcases e with e | e | e
   . exact A e
   . exact R (A e)
   . rw[bF] at e;exact R (R (by omega))
 . refine(am.f (S:=S) l).a (am.G (S:=S) t (fun k e=>?_)) (fun _ e _=>e);cases ao with
   | none=>cases e
   | some a=>injection e with e;subst e;exact o a rfl
theorem Ah:(prog.info? 98).map (fun i=>(i.zero,i.size,i.bytes))=M (M (.agg #[I J 0,V ⟨#[]⟩,V ⟨#[]⟩,I J 0,Z U 0 0,I J 0,Z U 0 0,V ⟨#[]⟩,V ⟨#[]⟩,V ⟨#[]⟩,Z U 0 0,I J 0]),12,184):=by kernel_rfl
structure pu (w:X)(S N:Nat->Prop)(e:az)(s:cU):Prop where
 c:js w (fun k=>N k∧eh e s≠M k) s.e s.f e.d.length (aI e.d)
 d:dL w (fun k=>N k∧eh e s≠M k) s.c s.b e.c
 a:bK w N 5 s.a s.d e.a
 b:∀k,S k->¬N k
theorem pu.f {w w':X}{S N:Nat->Prop}{e:az}{s:cU}(h:pu w S N e s)(b:Below w.heap.size w w'):pu w' S N e s :=
 have a:=am.f (S:=fun _=>False) b
 ⟨h.c.f a (fun _ _ k=>k),h.d.f a (fun _ _ k=>k),h.a.a a (fun _ _ k=>k),h.b⟩
inductive vP (w:X)(S N:Nat->Prop)(es:List az)(e:az)(v:Ending)(w':X):Prop
 | mk (ao:ag) (cap:Nat) (hv:v=Y (Z ao (es.length+1) cap)) (hO:gg w' (fun k=>S k∨N k∨w.heap.size<=k) 98 5 ao cap (es++[e])) (hT:am S w w')
structure xq (w:X)(S N:Nat->Prop)(ao:ag)(ps:List (az×cU))(es:List az)(e:az)(s:cU):Prop where
 b:ps.map (·.1)=es
 c:∀a,ao=M a->S a.block
 d:∀p∈ps,fX w (fun k=>S k∧aw ao≠M k) p.1 p.2
 f:pu w S N e s
theorem vP.a {w g:X}{S N:Nat->Prop}{ao d:ag}{i n:Nat}{f:List (az×cU)}{es:List az}{e:az}{s:cU}{x y:Obj}
 (h:xq w S N ao f es e s) (q:aK g 0 98 12 d i (n+1) (cT f++e.f s)) (o:((w.alloc x).alloc y).grownBy g (aw ao)) (l:aw d=aw ao∨aw d=M ((w.alloc x).alloc y).heap.size) (r:n=es.length:=by rfl) :
 vP w S N es e (Y (Z d (n+1) i)) g:=by
 subst r;have j:Below w.heap.size w ((w.alloc x).alloc y):=((ar _ _).alloc (ak _) _).alloc (by simp) _;have t:=am.f (S:=fun _=>False) j;have u:es.length=f.length:=by rw[<-h.b];simp
 have m:∀p∈f,fX ((w.alloc x).alloc y) (fun k=>S k∧aw ao≠M k) p.1 p.2:=fun p v=>(h.d p v).f t (fun _ _ k=>k);have b:=h.f.f j;have z:aK g 0 98 12 d i (f.length+1) (cT (f++[(e,s)])):=by
  rw[vB,<-u];have B:cT [(e,s)]=e.f s:=by simp[cT]
  rw[B];exact q
 have C:=gg.G (tb:=5) h.c m b.c b.d b.a b.b z rfl o l;refine .mk d i rfl ?_ ?_
 . rw[<-h.b];refine C.f (fun k _ c=>?_);rcases c with c | c | c
   . exact A c
   . exact R (A c)
   . refine R (R ?_);rw[c];exact j.size
 . refine(am.f (S:=S) j).a (am.G (S:=S) o (fun k c=>?_)) (fun _ k _=>k);cases ao with
   | none=>cases c
   | some a=>injection c with c;subst c;exact h.c a rfl
theorem Rb (w:X)(S N:Nat->Prop)(ao:ag)(cap:Nat)(es:List az)(e:az)(s:cU)(h:gg w S 98 5 ao cap es)(j:pu w S N e s)(B:es.length<=1000000)(k:e.b≠2):
 Calls prog 169 #[Z ao es.length cap,.agg #[I J e.b,V e.i,V e.j,I J e.m,Z s.e e.d.length s.f,I J e.l,Z s.a e.a.length s.d,V e.g,V e.e,V e.h,Z s.c e.c.length s.b,I J e.k]] w fun v w'=>vP w S N es e v w':=by
 have C:=aQ.2 k;obtain⟨l,a,m,n,p⟩:=h.j;have q:xq w S N ao l es e s:=⟨a,n,p,j⟩;obtain⟨r,b,c,d,f⟩:=info_parts Ah;have t:=b;have u:=aa c;have x:=aa d;have y:=aa f
 go_enter func169,ntmps169;go_wp2_with (at_builtin;go_loud (refine lO rfl (.tmp 37) (.tmp 39) 58 rfl 0 98 r (.agg #[I J 0,V ⟨#[]⟩,V ⟨#[]⟩,I J 0,Z U 0 0,I J 0,Z U 0 0,V ⟨#[]⟩,V ⟨#[]⟩,V ⟨#[]⟩,Z U 0 0,I J 0]) 12 184 underlying58 t u.o x.o y.o rfl (by decide) rfl ((m.G _).G _) rfl (az.r e s _ _ _ (by simp)) rfl (sC e s) (by omega) (by omega) (ax _) ?_;intro D G H g i z))
 go_ret;exact vP.a q g i z
theorem Rc (w:X)(S N:Nat->Prop)(e:az)(s:cU)(j:pu w S N e s)(l:e.b=2):
 Calls prog 169 #[Z U 0 0,.agg #[I J e.b,V e.i,V e.j,I J e.m,Z s.e e.d.length s.f,I J e.l,Z s.a e.a.length s.d,V e.g,V e.e,V e.h,Z s.c e.c.length s.b,I J e.k]] w fun v w'=>vP w S N [] e v w':=by
 have C:=cR.2 l;have m:xq w S N U [] [] e s:=⟨rfl,(fun a k=>by cases k),(fun p q=>by cases q),j⟩;have r:=aK.y w 0 98 12;obtain⟨t,b,c,d,f⟩:=info_parts Ah;have u:=b;have x:=aa c;have y:=aa d;have z:=aa f
 clear b c d f j l;go_enter func169,ntmps169;go_wp2_with (at_builtin;go_loud (refine lO rfl (.tmp 37) (.tmp 39) 58 rfl 0 98 t (.agg #[I J 0,V ⟨#[]⟩,V ⟨#[]⟩,I J 0,Z U 0 0,I J 0,Z U 0 0,V ⟨#[]⟩,V ⟨#[]⟩,V ⟨#[]⟩,Z U 0 0,I J 0]) 12 184 underlying58 u x.o y.o z.o rfl (by decide) rfl ((r.G _).G _) rfl (az.r e s _ _ _ (by simp)) rfl (sC e s) (by omega) (by omega) (ax _) ?_;intro D G H g i B))
 go_ret;exact vP.a (n:=0) m g i B
theorem Oi (w:X)(S N:Nat->Prop)(ao:ag)(cap m:Nat)(es:List az)(e:az)(s:cU)(h:gg w S 98 5 ao cap es)(z:pu w S N e s)(g:es.length=m+1)(hl:m<=1000000)(B:e.b=2)(C:∀x,es.getLast? = M x->x.b≠2):
 Calls prog 169 #[Z ao (m+1) cap,.agg #[I J e.b,V e.i,V e.j,I J e.m,Z s.e e.d.length s.f,I J e.l,Z s.a e.a.length s.d,V e.g,V e.e,V e.h,Z s.c e.c.length s.b,I J e.k]] w fun v w'=>vP w S N es e v w':=by
 have k2:=cR.2 B;obtain⟨c,d,q,D,G⟩:=h.j;have i:c.length=m+1:=by rw[<-g,<-d];simp
 have r:=q.a;obtain⟨b,o,t,H⟩:=r.f (by rw[vA];omega);have a:w.cell? ⟨b,o+m*12,U⟩=M (I J c[m].1.b):=H (m*12) _ (by
  have:=tq c m (by omega) 0 (by omega);rw[mA] at this;rw[this];rfl)
 have f:c[m].1.b≠2:=C _ (by
  have T:c[c.length-1]? = M c[m]:=by rw[show c.length-1=m by omega,iz (by omega)]
  rw[<-d,List.getLast?_map,List.getLast?_eq_getElem?,T];rfl)
 generalize c[m].1.b=W at a f;have kx2:=aQ.2 f;have c0:(w.alloc (K #[I J e.b,V e.i,V e.j,I J e.m,Z s.e e.d.length s.f,I J e.l,Z s.a e.a.length s.d,V e.g,V e.e,V e.h,Z s.c e.c.length s.b,I J e.k] 98)).cell? ⟨b,o+m*12,U⟩=M (I J W):=((ar _ w).alloc (ak _) _).cell (bY w _ a)▸a;have L:m+1<=cap:=by have:=r.1;rwa[g] at this
 rw[g] at q;subst t;have HP:xq w S N (M ⟨b,o,U⟩) c es e s:=⟨d,D,G,z⟩;have HO:=q;have HM:=aa g
 obtain⟨i0,j,k,l,p⟩:=info_parts Ah;have Hi:=j;have lg:=aa k;have kZ:=aa l;have lq:=aa p
 clear j k l p h z d q D G B r H a f C g i;go_enter func169,ntmps169;go_wp2_with (at_builtin;go_loud (refine lO rfl (.tmp 37) (.tmp 39) 58 rfl 0 98 i0 (.agg #[I J 0,V ⟨#[]⟩,V ⟨#[]⟩,I J 0,Z U 0 0,I J 0,Z U 0 0,V ⟨#[]⟩,V ⟨#[]⟩,V ⟨#[]⟩,Z U 0 0,I J 0]) 12 184 underlying58 Hi lg.o kZ.o lq.o rfl (by decide) rfl ((HO.G _).G _) rfl (az.r e s _ _ _ (by simp)) rfl (sC e s) (by omega) (by omega) (ax _) ?_;intro lS iy w3 u y jS))
 go_ret;exact vP.a (n:=m+1) HP u y jS HM.o.symm
def jC (w:X)(S:Nat->Prop)(t:Nat)(ao:ag)(cap:Nat)(l:ab):Prop :=
 (l=[]∧ao=U∧cap=0)∨(l≠[]∧bl w 0 t ao cap l∧∀a,ao=M a->S a.block)
section
variable {w w':X} {S S':Nat->Prop} {t:Nat} {ao:ag} {cap:Nat} {l:ab}
theorem jC.j (w:X)(S:Nat->Prop)(t:Nat):jC w S t U 0 []:=A ⟨rfl,rfl,rfl⟩
theorem jC.y (h:jC w S t ao cap l)(c:am S' w w')(d:∀k,S k->¬S' k):jC w' S t ao cap l:=by
 rcases h with h | ⟨f,g,b⟩
 . exact A h
 . exact R ⟨f,g.j c (fun a e=>d _ (b a e)),b⟩
theorem jC.a (h:jC w S t ao cap l)(c:∀k,k<w.heap.size->S k->S' k):jC w S' t ao cap l:=by
 rcases h with h | ⟨d,b,f⟩
 . exact A h
 . exact R ⟨d,b,fun a e=>c _ (b.a a e).2 (f a e)⟩
end
theorem KG {P:Program}(w:X)(t u z e:TypeId)(i:TypeInfo)(D:P.underlying t=M (.slice e))(G:P.underlying u=M .string)(H:P.info? e=M i)(T:i.zero=M (I .u8 0))(f:i.size=1)(r:i.bytes=1)
 {S:Nat->Prop} {ao:ag} {cap n:Nat} {l:ab} (h:jC w S e ao cap l) (hn:l.length=n) (s:ae) (m:n+s.size<=140737488355328) :
 ∃gL b w',(Builtin.append_ #[t,u] z #[Z ao n cap,V s]).run P w=.ok (Z gL (n+s.size) b) w'∧jC w' (ay S w) e gL b (l++s.data.toList)∧am S w w':=by
 subst hn;have o:s.data.toList.length=s.size:=by rw[cJ];rfl
 rcases h with ⟨rfl,rfl,rfl⟩ | ⟨h1,L,h3⟩
 . obtain⟨v',w',x,c,p,q⟩:=Lib.run_append_own_string w (P:=P) w.heap.size t u z e i D G H T f r (Z U 0 0) 0 [] (World.ownsRow_nil _ _ _ _) s (by unfold maxLen;simp at m;omega) (by simpa using m) (ak _);rw[BD,kX] at c;obtain⟨gL,b,rfl,N⟩:=bl.H (by rw[o];omega) c;rw[o] at x q;refine⟨gL,b,w',by simpa using x,?_,⟨p.os,p.tape,p.output,p.size,fun k W _=>p.block k W (by simp[Value.ownBlock])⟩⟩;by_cases hs:s.data.toList=[]
   . have h0:s.size=0:=by rw[<-o,hs];rfl
     have:=q.2 ⟨rfl,h0⟩;injection this with d B e3;exact A ⟨by rw[hs];rfl,d,e3⟩
   . exact R ⟨hs,N.B (ax _),fun a e=>R (N.a a e).1⟩
 . obtain⟨g,rfl,_,_⟩:=L.jK (kY.2 h1);obtain⟨v',w',x,c,p,_⟩:=Lib.run_append_own_string w (P:=P) 0 t u z e i D G H T f r (Z (M ⟨g,0,U⟩) l.length cap) l.length (bA l) L s (by unfold maxLen;omega) m (ax _);rw[BD,<-oQ] at c;obtain⟨gL,b,rfl,N⟩:=bl.H (by rw[aD,o]) c;rw[aD,o] at x;have C:gL=M ⟨g,0,U⟩∨gL=M ⟨w.heap.size,0,U⟩:=by
    have h2':=L;rcases L.2 with ⟨e,_⟩ | ⟨g',cap2,cur,e,_,hh,hc1,hc2,hc3,hc4⟩
    . cases e
    . injection e with d B e3;injection d with d;injection d with d;subst d;subst e3;by_cases y:l.length+s.size<=cap
      . have:=Lib.run_append_room_string w (P:=P) t u z e i D G H f g l.length cap cur hh s y (by rw[hc3,f] at *;omega);rw[x] at this;injection this with d _;injection d with d _ _;exact A d
      . have:=Lib.run_append_grow_string w (P:=P) t u z e i (I .u8 0) D G H T ⟨g,0,U⟩ l.length cap (bA l) (by rw[dr,f,Nat.mul_one]) (fun j v hv=>World.ownsRow.cells h2' rfl j v hv) s (by omega) (by omega) (by rw[r];exact growslice_fits (by omega) (by omega));rw[x] at this;injection this with d _;injection d with d _ _;exact R d
   refine⟨gL,b,w',x,R ⟨by simp[h1],N,fun a e=>?_⟩,⟨p.os,p.tape,p.output,p.size,fun k W hS=>p.block k W (fun e=>?_)⟩⟩
   . rcases C with rfl | rfl
     . injection e with e;subst e;exact A (h3 _ rfl)
     . injection e with e;subst e;exact R (ak _)
   . have B:M k=M g:=e;injection B with B;subst B;exact hS (h3 _ rfl)
theorem In {P:Program}{w:X}{d:Array Oper}{rest:List Oper}{o:Oper}{a:Act}{aam:Exit->Act->X->Prop}(g:o.guard=U)(s x:Operand)(t u:TypeId)
 (m:o.op=.call { callee:=.builtin .append,args:=#[s,x],argTypes:=#[t,u] })
 (e:TypeId) (i:TypeInfo) (p:P.underlying t=M (.slice e)) (q:P.underlying u=M .string) (r:P.info? e=M i) (v:i.zero=M (I .u8 0)) (j:i.size=1) (k:i.bytes=1)
 {S:Nat->Prop} {ao:ag} {cap n:Nat} {l:ab} (y:a.eval s=Z ao n cap) (z:l.length=n) (B:jC w S e ao cap l) (c:ae) (C:a.eval x=V c) (f:n+c.size<=140737488355328)
 (h:∀gL b w',jC w' (ay S w) e gL b (l++c.data.toList)->am S w w'->wpList P d aam rest (a.put o.dst (Z gL (n+c.size) b)) w'):wpList P d aam (o::rest) a w :=
 wpList_plain g fun _ D=>by
  obtain⟨gL,b,w',G,H,L⟩:=KG (P:=P) w t u o.type e i p q r v j k B z c f;unfold Oper.wp execOp;simp only[m,resolve,invoke,builtin,Sem.run_bind,Sem.run_pure,Result.andThen_ok,List.map_toArray,List.map_cons,List.map_nil,y,C,G];exact D _ _ (h gL b w' H L)
