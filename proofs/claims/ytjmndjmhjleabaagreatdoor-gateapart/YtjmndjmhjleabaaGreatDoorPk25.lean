/- Small texts, one behind the other: LinA, LinB, CkA, PmRdA, PmRdB, PmRdC, TdA, RqAdd, LinG, RfHS. -/
import Derived.Test.YtjmndjmhjleabaaGreatDoorPk5
import Derived.Test.YtjmndjmhjleabaaGreatDoorPk10
import Derived.Test.YtjmndjmhjleabaaGreatDoorPk16
import Derived.Test.YtjmndjmhjleabaaGreatDoorPk13
open Go.Value renaming int->I,string->V,slice->Z,pointer->Q
open Go.IntKind renaming i64->J
open Go.Obj renaming cells->K
open Go.Ending renaming returned->Y
open Option renaming none->U,some->M
open Bool renaming false->F
open Go renaming World->X
set_option maxHeartbeats 4000000
set_option maxRecDepth 100000
open Go.Proofs.Tryz
namespace Go.Proofs.YtjmndjmhjleabaaGreatDoor
open Go.RowKit
def iy (w:X)(S:Nat->Prop)(g:Nat)(s:Ln.St):Prop :=
 ∃ao cap, w.heap[g]? = M (K #[Z ao s.line.length cap, .bool s.ending, I J (s.code : Int)] 192 (0, 0)) ∧
   iD w 0 5 ao cap s.line∧S g∧∀a,ao=M a->S a.block
theorem iy.lt {w:X}{S:Nat->Prop}{g:Nat}{s:Ln.St}(h:iy w S g s):g<w.heap.size:=by
 obtain⟨_,_,a,_⟩:=h;exact(aK.1 a).1
theorem iy.mono {w:X}{S S':Nat->Prop}{g:Nat}{s:Ln.St}(h:iy w S g s)(c:∀k,k<w.heap.size->S k->S' k):iy w S' g s:=by
 obtain⟨i,b,d,f,j,l⟩:=h;exact⟨i,b,d,f,c g (aK.1 d).1 j,fun a e=>c _ (f.block a e).2 (l a e)⟩
theorem iy.turns {w w':X}{S S':Nat->Prop}{g:Nat}{s:Ln.St}(h:iy w S g s)(c:Turns S' w w')(d:∀k,S k->¬S' k):iy w' S g s:=by
 obtain⟨j,b,l,m,f,i⟩:=h;exact⟨j,b,c.row l (d g f),m.turns c (fun a e=>d _ (i a e)),f,i⟩
theorem iy.drewN {w:X}{S:Nat->Prop}{g:Nat}{s:Ln.St}(h:iy w S g s)(n:Nat):iy (w.drewN n) S g s:=h.turns (Turns.drewN (fun _=>False) w n) (fun _ _ e=>e)
theorem iy.code {w:X}{S:Nat->Prop}{g:Nat}{s:Ln.St}(h:iy w S g s)(k:Nat):iy (w.setCell ⟨g,2,U⟩ (I J (k:Int))) S g { s with code:=k }∧Turns S w (w.setCell ⟨g,2,U⟩ (I J (k:Int))):=by
 obtain⟨j,b,c,d,f,l⟩:=h;refine⟨⟨j,b,?_,d.turns (Turns.setCell (fun i=>i=g) w _ _ rfl) ?_,f,l⟩,Turns.setCell S w _ _ f⟩
 . rw[fM w g 2 _ _ _ c];rfl
 . intro a e;have:=lF c d (by decide);rw[gN,e] at this;intro m;exact this (by simp[gK,m])
theorem iy.ends {w:X}{S:Nat->Prop}{g:Nat}{s:Ln.St}(h:iy w S g s)(b:Bool):iy (w.setCell ⟨g,1,U⟩ (.bool b)) S g { s with ending:=b }∧Turns S w (w.setCell ⟨g,1,U⟩ (.bool b)):=by
 obtain⟨k,c,d,f,j,l⟩:=h;refine⟨⟨k,c,?_,f.turns (Turns.setCell (fun i=>i=g) w _ _ rfl) ?_,j,l⟩,Turns.setCell S w _ _ j⟩
 . rw[fM w g 1 _ _ _ d];rfl
 . intro a e;have:=lF d f (by decide);rw[gN,e] at this;intro m;exact this (by simp[gK,m])
theorem iy.drop {w:X}{S:Nat->Prop}{g:Nat}{s:Ln.St}(h:iy w S g s):iy (w.setCell ⟨g,0,U⟩ (Z U 0 0)) S g { s with line:=[] }∧Turns S w (w.setCell ⟨g,0,U⟩ (Z U 0 0)):=by
 obtain⟨f,c,d,i,b,j⟩:=h;refine⟨⟨U,0,?_,iD.nil _ _ _,b,fun a e=>by cases e⟩,Turns.setCell S w _ _ b⟩;rw[fM w g 0 _ _ _ d];rfl
theorem iy.grow {w c:X}{S:Nat->Prop}{g:Nat}{s:Ln.St}{l:au}{ao:aj}{cap:Nat}{gV:aj}{b:Nat}(o:w.heap[g]? = M (K #[Z ao s.line.length cap,.bool s.ending,I J (s.code:Int)] 192 (0,0)))(f:S g)(j:iD c 0 5 gV b l)(m:Turns (fun k=>S k∧k≠g) w c)(ha:∀a,gV=M a->gM S w a.block)(n:Nat)(p:n=l.length):
 iy (c.setCell ⟨g,0,U⟩ (Z gV n b)) (gM S w) g { s with line:=l }∧Turns S w (c.setCell ⟨g,0,U⟩ (Z gV n b)):=by
 subst p;have d:=m.row o (fun e=>e.2 rfl);refine⟨⟨gV,b,?_,j.turns (Turns.setCell (fun i=>i=g) c _ _ rfl) ?_,Or.inl f,ha⟩,(m.mono (fun k e=>e.1)).trans (Turns.setCell S c _ _ f) (fun i e _=>e)⟩
 . rw[fM c g 0 _ _ _ d];rfl
 . intro a e;have:=lF d j (by decide);rw[gN,e] at this;intro q;exact this (by simp[gK,q])
theorem uN (w:X):
 Calls prog 81 #[] w fun e w'=>e=Y (Q (M ⟨w.heap.size,0,U⟩))∧iy w' (fun k=>w.heap.size<=k) w.heap.size Ln.start∧Below w.heap.size w w':=by
 go_enter func81,ntmps81;go_wp2;go_ret;exact⟨rfl,⟨U,0,fH w _,iD.nil _ _ _,aL _,fun a e=>by cases e⟩,(fI _ _).alloc (aL _) _⟩
theorem nZ (w:X)(S:Nat->Prop)(g:Nat)(s:Ln.St)(c:UInt8)(h:iy w S g s):
 Calls prog 139 #[Q (M ⟨g,0,U⟩),I .u8 c.toNat] w fun e w'=>e=Y (I J (Ln.fault s c:Int))∧w'=w:=by
 obtain⟨v,q,r,_⟩:=h;have z:w.cell? ⟨g,0,U⟩=M (Z v s.line.length q):=fJ w g 0 _ _ _ r;have m:w.cell? ⟨g,1,U⟩=M (.bool s.ending):=fJ w g 1 _ _ _ r;clear r;have n:=H9 (sK (c.toNat:Int) w);by_cases b:s.ending=(c==10)
 . by_cases j:c=13
   . have x:((c.toNat:Int)==13)=true:=by rw[j];rfl
     have k:((c.toNat:Int)==10)=F:=by rw[j];rfl
     have d:Ln.fault s c=0:=by unfold Ln.fault;rw[if_pos b,if_pos (Or.inl j)]
     have f:s.ending=F:=by rw[b,j];rfl
     rw[d];rw[f] at m;clear d b f j;go_enter func139,ntmps139;go_wp2;go_ret;exact⟨rfl,rfl⟩
   . have x:((c.toNat:Int)==13)=F:=kY j;by_cases a:c=10
     . have k:((c.toNat:Int)==10)=true:=by rw[a];rfl
       have d:Ln.fault s c=0:=by unfold Ln.fault;rw[if_pos b,if_pos (Or.inr a)]
       have f:s.ending=true:=by rw[b,a];rfl
       rw[d];rw[f] at m;clear d b f j a;go_enter func139,ntmps139;go_wp2;go_ret;exact⟨rfl,rfl⟩
     . have k:((c.toNat:Int)==10)=F:=kY a;have f:s.ending=F:=by rw[b];exact aR.2 a
       have i:¬(c=13∨c=10):=by rintro (e | e) <;> contradiction
       rw[f] at m;cases l:Ch.visible (c.toNat:Int)
       . have d:Ln.fault s c=3:=by unfold Ln.fault;rw[if_pos b,if_neg i,if_pos l]
         rw[l] at n;rw[d];clear d b f j a i l;go_enter func139,ntmps139;go_wp2_with fail
         refine n.o.mono ?_;rintro e w' ⟨rfl,p⟩;subst p;go_wp2;go_ret;exact⟨rfl,rfl⟩
       . rw[l] at n;by_cases u:200<=s.line.length
         . have d:Ln.fault s c=4:=by unfold Ln.fault;rw[if_pos b,if_neg i,if_neg (by rw[l];simp),if_pos u]
           have y:decide ((s.line.length:Int)≥200)=true:=by rw[bQ];omega
           rw[d];clear d b f j a i l;go_enter func139,ntmps139;go_wp2_with fail
           refine n.o.mono ?_;rintro e w' ⟨rfl,p⟩;subst p;go_wp2;go_ret;exact⟨rfl,rfl⟩
         . have d:Ln.fault s c=0:=by unfold Ln.fault;rw[if_pos b,if_neg i,if_neg (by rw[l];simp),if_neg u]
           have y:decide ((s.line.length:Int)≥200)=F:=by rw[bP];omega
           rw[d];clear d b f j a i l;go_enter func139,ntmps139;go_wp2_with fail
           refine n.o.mono ?_;rintro e w' ⟨rfl,p⟩;subst p;go_wp2;go_ret;exact⟨rfl,rfl⟩
 . have d:Ln.fault s c=2:=by unfold Ln.fault;rw[if_neg b]
   rw[d];by_cases a:c=10
   . have k:((c.toNat:Int)==10)=true:=by rw[a];rfl
     have f:s.ending=F:=by
      cases t:s.ending
      . rfl
      . exact absurd (by rw[t,a];rfl) b
     rw[f] at m;clear d b f a;go_enter func139,ntmps139;go_wp2;go_ret;exact⟨rfl,rfl⟩
   . have k:((c.toNat:Int)==10)=F:=kY a;have f:s.ending=true:=by
      cases t:s.ending
      . exact absurd (by rw[t];exact(aR.2 a).symm) b
      . rfl
     rw[f] at m;clear d b f a;go_enter func139,ntmps139;go_wp2;go_ret;exact⟨rfl,rfl⟩
def Ln.fed (s:Ln.St)(c:UInt8):Value:=.tuple #[V ⟨(Ln.text s c).toArray⟩,.bool (Ln.ends s c),I J ((Ln.next s c).code:Int)]
theorem Ln.DZ {s a:Ln.St}{c:UInt8}{t:au}{b:Bool}{k:Nat}(d:Ln.text s c=t)(e:Ln.ends s c=b)(f:Ln.next s c=a)(g:a.code=k):Ln.fed s c=.tuple #[V ⟨t.toArray⟩,.bool b,I J (k:Int)]:=by
 unfold Ln.fed;rw[d,e,f,g]
theorem xD {w:X}{S:Nat->Prop}{g:Nat}{s:Ln.St}(h:iy w S g s)(W:X):iy w (gM S W) g s:=h.mono (fun _ _ e=>Or.inl e)
theorem iG.vQ (W:X)(c:UInt8)(t:Nat)(a:Nat×Nat){k:Nat}(b:W.heap.size=k):iG (W.alloc (K #[I .u8 (c.toNat:Int)] t a)) (M ⟨k,0,U⟩) 1 [c]:=b▸iG.one W c t a
theorem VW {W b:X}{g:Nat}{row:Obj}{r:Option Nat}(c:W.heap[g]? = M row)(d:Obj)(e:(W.alloc d).grownBy b r)(f:M g≠r):b.heap[g]? = M row:=by
 have a:g<W.heap.size:=(aK.1 c).1;have:=e.block g (by simp;omega) f;rw[this,(gy W d U).block g a (by simp)];exact c
theorem NG (w:X)(S:Nat->Prop)(g:Nat)(s:Ln.St)(c:UInt8)(h:iy w S g s)(b:s.code≠0):
 Calls prog 101 #[Q (M ⟨g,0,U⟩),I .u8 c.toNat] w fun e w'=>e=Y (Ln.fed s c)∧iy w' (gM S w) g (Ln.next s c)∧Turns S w w':=by
 have a:=Ln.again c b;rw[Ln.DZ a.2.1 a.2.2 a.1 rfl,a.1];clear a;have f:=H9 h;obtain⟨j,i,d,_⟩:=h;have k:w.cell? ⟨g,2,U⟩=M (I J (s.code:Int)):=fJ w g 2 _ _ _ d;have l:((s.code:Int)==0)=F:=by rw[aR];omega
 have m:((s.code:Int) != 0)=true:=by rw[cO];omega
 clear d b;go_enter func101,ntmps101;go_wp2;go_quiet (fail)
 go_wp2;go_ret3
 exact⟨rfl,xD (f.o.drewN _) w,Turns.drewN _ _ _⟩
theorem RN (w:X)(S:Nat->Prop)(g:Nat)(s:Ln.St)(c:UInt8)(k:Nat)(h:iy w S g s)(j:s.code=0)(a:Ln.fault s c=k)(d:k≠0):
 Calls prog 101 #[Q (M ⟨g,0,U⟩),I .u8 c.toNat] w fun e w'=>e=Y (Ln.fed s c)∧iy w' (gM S w) g (Ln.next s c)∧Turns S w w':=by
 have f:Ln.next s c={ s with code:=k }:=by unfold Ln.next;rw[if_neg (by omega),a,if_pos d]
 rw[Ln.DZ (t:=[]) (b:=F) (by unfold Ln.text;rw[if_neg (fun e=>d (a.symm.trans e.2.1))]) (by unfold Ln.ends;rw[bP];exact fun e=>d (a.symm.trans e.2.1)) f rfl,f];have l:=H9 (nZ w S g s c h);rw[a] at l;have m:=H9 (h.code k);obtain⟨q,n,i,_⟩:=h;have r:w.cell? ⟨g,2,U⟩=M (I J 0):=by
  rw[fJ w g 2 _ _ _ i];simp[j]
 have u:w.frozen? ⟨g,2,U⟩=F:=fK w g 2 _ _ i;have v:((k:Int) != 0)=true:=by rw[cO];omega
 clear i j a f d;go_enter func101,ntmps101;go_wp2_with fail
 refine l.o.mono ?_;rintro e x ⟨rfl,p⟩;subst p;go_wp2;go_quiet (fail)
 go_wp2;go_ret3
 exact⟨rfl,xD (m.o.1.drewN _) _,m.o.2.trans (Turns.drewN S _ _) (fun _ e _=>e)⟩
theorem VX (w:X)(S:Nat->Prop)(g:Nat)(s:Ln.St)(h:iy w S g s)(j:s.code=0)(d:Ln.fault s 10=0):
 Calls prog 101 #[Q (M ⟨g,0,U⟩),I .u8 10] w fun e w'=>e=Y (Ln.fed s 10)∧iy w' (gM S w) g (Ln.next s 10)∧Turns S w w':=by
 have k:Ln.next s 10=⟨[],F,0⟩:=by unfold Ln.next;rw[if_neg (by omega),d];rfl
 rw[Ln.DZ (t:=s.line) (b:=true) (by unfold Ln.text;rw[if_pos ⟨j,d,rfl⟩]) (by unfold Ln.ends;rw[bQ];exact⟨j,d,rfl⟩) k rfl,k];have n:=H9 (nZ w S g s 10 h);rw[d] at n;have p:=H9 (h.code 0);have f:=H9 (p.o.1.drop);have q:=H9 (f.o.1.ends F);obtain⟨r,l,c,m,_⟩:=h;have y:w.cell? ⟨g,0,U⟩=M (Z r s.line.length l):=fJ w g 0 _ _ _ c;have z:w.cell? ⟨g,1,U⟩=M (.bool s.ending):=fJ w g 1 _ _ _ c;have B:w.cell? ⟨g,2,U⟩=M (I J 0):=by
  rw[fJ w g 2 _ _ _ c];simp[j]
 have C:w.frozen? ⟨g,0,U⟩=F:=fK w g 0 _ _ c;have D:w.frozen? ⟨g,1,U⟩=F:=fK w g 1 _ _ c;have G:w.frozen? ⟨g,2,U⟩=F:=fK w g 2 _ _ c;have u:=(m.wZ.turns (w':=w.setCell ⟨g,2,U⟩ (I J 0)) (Turns.setCell (fun i=>i=g) w _ _ rfl) (fun a e=>by
  have:=lF c m (by decide);rw[gN,e] at this;intro v;exact this (by simp[gK,v]))).str (P:=prog) 31 9 5 underlying31 underlying5 underlying9
 generalize (⟨s.line.toArray⟩:av)=bs at u ⊢;clear c m j d k;go_enter func101,ntmps101;go_wp2_with fail
 refine n.o.mono ?_;rintro e H ⟨rfl,x⟩;subst x;go_wp2;go_ret3
 exact⟨rfl,xD q.o.1 _,p.o.2.trans (f.o.2.trans q.o.2 (fun _ e _=>e)) (fun _ e _=>e)⟩
theorem Y4 (w:X)(S:Nat->Prop)(g:Nat)(s:Ln.St)(h:iy w S g s)(c:s.code=0)(d:Ln.fault s 13=0):
 Calls prog 101 #[Q (M ⟨g,0,U⟩),I .u8 13] w fun e w'=>e=Y (Ln.fed s 13)∧iy w' (gM S w) g (Ln.next s 13)∧Turns S w w':=by
 have f:Ln.next s 13=⟨s.line,true,0⟩:=by unfold Ln.next;rw[if_neg (by omega),d,c];rfl
 rw[Ln.DZ (t:=[]) (b:=F) (by unfold Ln.text;rw[if_neg (fun e=>by cases e.2.2)]) (by unfold Ln.ends;rw[bP];exact fun e=>by cases e.2.2) f rfl,f];have i:=H9 (nZ w S g s 13 h);rw[d] at i;have j:=H9 (h.code 0);have k:=H9 (j.o.1.ends true);obtain⟨p,l,a,m,_⟩:=h;have q:w.cell? ⟨g,1,U⟩=M (.bool s.ending):=fJ w g 1 _ _ _ a;have r:w.cell? ⟨g,2,U⟩=M (I J 0):=by
  rw[fJ w g 2 _ _ _ a];simp[c]
 have u:w.frozen? ⟨g,1,U⟩=F:=fK w g 1 _ _ a;have v:w.frozen? ⟨g,2,U⟩=F:=fK w g 2 _ _ a;clear a m c d f;go_enter func101,ntmps101;go_wp2_with fail
 refine i.o.mono ?_;rintro e x ⟨rfl,n⟩;subst n;go_wp2;go_ret3
 exact⟨rfl,xD k.o.1 _,j.o.2.trans k.o.2 (fun _ e _=>e)⟩
theorem RO (w:X)(S:Nat->Prop)(g:Nat)(s:Ln.St)(c:UInt8)(h:iy w S g s)(hs:s.line.length<=200)(L:s.code=0)(B:Ln.fault s c=0)(d:c≠10)(C:c≠13):
 Calls prog 101 #[Q (M ⟨g,0,U⟩),I .u8 c.toNat] w fun e w'=>e=Y (Ln.fed s c)∧iy w' (gM S w) g (Ln.next s c)∧Turns S w w':=by
 have D:Ln.next s c=⟨s.line++[c],s.ending,0⟩:=by unfold Ln.next;rw[if_neg (by omega),B,if_neg (by omega),if_neg d,if_neg C,L]
 rw[Ln.DZ (t:=[]) (b:=F) (by unfold Ln.text;rw[if_neg (fun e=>d e.2.2)]) (by unfold Ln.ends;rw[bP];exact fun e=>d e.2.2) D rfl,D];have N:=H9 (nZ w S g s c h);rw[B] at N;have t10:((c.toNat:Int)==10)=F:=kY d;have Y3:((c.toNat:Int)==13)=F:=kY C;have HS:=H9 (h.code 0);obtain⟨f,m,j,G,h1,O⟩:=h;obtain⟨i0,q,r,u,v⟩:=info_parts jN;have Hi:=H9 q;have kJ:=H9 r;have kG:=H9 u;have kK:=H9 v
 have n:∀a,f=M a->a.block≠g:=fun a e e2=>by
  have:=lF j G (by decide);rw[gN,e] at this;exact this (by simp[gK,e2])
 have c0:w.cell? ⟨g,0,U⟩=M (Z f s.line.length m):=fJ w g 0 _ _ _ j;have c2:w.cell? ⟨g,2,U⟩=M (I J 0):=by
  rw[fJ w g 2 _ _ _ j];simp[L]
 have f0:w.frozen? ⟨g,0,U⟩=F:=fK w g 0 _ _ j;have f2:w.frozen? ⟨g,2,U⟩=F:=fK w g 2 _ _ j;have HO:=H9 (G.turns (w':=w.setCell ⟨g,2,U⟩ (I J 0)) (Turns.setCell (fun i=>i=g) w _ _ rfl) (fun a e=>n a e));have P:Hid ((w.setCell ⟨g,2,U⟩ (I J 0)).heap[g]? = M (K #[Z f s.line.length m,.bool s.ending,I J (0:Int)] 192 (0,0))):=by
  show _=_;rw[fM w g 2 _ _ _ j];rfl
 have hlt:g<w.heap.size:=(aK.1 j).1;clear j G B D q r u v d C;go_enter func101,ntmps101;go_wp2_with fail
 refine N.o.mono ?_;rintro e z ⟨rfl,hw⟩;subst hw;have HN:M g≠gK f:=by
  cases f with
  | none=>simp[gK]
  | some a=>intro e;injection e with e;exact n a rfl e.symm
 go_wp2_with (at_builtin;refine iI rfl (.tmp 23) (.tmp 25) 31 rfl 0 5 i0 underlying31 Hi.o kJ.o kG.o kK.o (l:=s.line) (l2:=[c]) rfl rfl (HO.o.alloc _) rfl rfl (iG.vQ _ _ _ _ (by simp)) (by simp;omega) (ay _) ?_;intro jP gW x y p T;have H:=VW P.o _ p HN;have c3:x.cell? ⟨g,0,U⟩=M (Z f s.line.length m):=fJ x g 0 _ _ _ H;have f3:x.frozen? ⟨g,0,U⟩=F:=fK x g 0 _ _ H;have oC:=H9 y;have sF:=H9 p;have Jg:=H9 T;clear y p T H)
 go_ret3
 have hz:(z.setCell ⟨g,2,U⟩ (I J 0)).heap.size=z.heap.size:=by simp
 have hT:Turns (fun k=>S k∧k≠g) (z.setCell ⟨g,2,U⟩ (I J 0)) x :=
  (Turns.iY (gy _ _ U) (fun k e => by cases e)).trans (Turns.iY sF.o (S := fun k => S k ∧ k ≠ g) (fun k e => by
   cases f with
   | none=>cases e
   | some a=>injection e with e;subst e;exact⟨O a rfl,n a rfl⟩)) (fun _ e _=>e)
 have hA:∀a,jP=M a->gM S (z.setCell ⟨g,2,U⟩ (I J 0)) a.block:=by
  intro a e;subst e;rcases Jg.o with e | e
  . cases f with
    | none=>cases e
    | some a'=>injection e with e;rw[e];exact Or.inl (O a' rfl)
  . injection e with e;rw[e];exact Or.inr (by simp)
 have W:=iy.grow (s:=⟨s.line,s.ending,0⟩) P.o h1 oC.o hT hA (s.line.length+1) (by simp);refine⟨rfl,W.1.mono (fun k _ e=>?_),HS.o.2.trans W.2 (fun _ e _=>e)⟩;rcases e with e | e
 . exact Or.inl e
 . exact Or.inr (by omega)
theorem pq (w:X)(S:Nat->Prop)(g:Nat)(s:Ln.St)(c:UInt8)(h:iy w S g s)(i:s.line.length<=200):
 Calls prog 101 #[Q (M ⟨g,0,U⟩),I .u8 c.toNat] w fun e w'=>e=Y (Ln.fed s c)∧iy w' (gM S w) g (Ln.next s c)∧Turns S w w':=by
 by_cases a:s.code=0
 . by_cases d:Ln.fault s c=0
   . by_cases b:c=10
     . subst b;exact VX w S g s h a d
     . by_cases f:c=13
       . subst f;exact Y4 w S g s h a d
       . exact RO w S g s c h i a d b f
   . exact RN w S g s c _ h a rfl d
 . exact NG w S g s c h a
structure iN (w:X)(S:Nat->Prop)(g gl:Nat)(nx lf rm fd code:Int)(ln:Ln.St):Prop where
 row:w.heap[g]? = M (K #[Q (M ⟨gl,0,U⟩),I J nx,I J lf,I J rm,I J fd,I J code] 231 (0,0))
 mem:S g
 line:iy w (fun k=>S k∧k≠g) gl ln
def pU (w:X)(S:Nat->Prop)(g:Nat)(s:Ck.St):Prop :=
 ∃gl nx lf rm fd ln,iN w S g gl nx lf rm fd (Ck.pc s:Int) ln∧(Ck.pc s=0->ln=s.ln∧nx=(Ck.nx s:Int)∧lf=(Ck.lf s:Int)∧rm=4000-(s.total:Int)∧fd=(s.count:Int))
section
variable {w w':X} {S S':Nat->Prop} {g gl:Nat} {nx lf rm fd code:Int} {ln:Ln.St}
theorem iN.mono (h:iN w S g gl nx lf rm fd code ln)(a:∀k,k<w.heap.size->S k->S' k):iN w S' g gl nx lf rm fd code ln :=
 ⟨h.row,a g (aK.1 h.row).1 h.mem,h.line.mono (fun k b e=>⟨a k b e.1,e.2⟩)⟩
theorem iN.turns (h:iN w S g gl nx lf rm fd code ln)(a:Turns S' w w')(b:∀k,S k->¬S' k):iN w' S g gl nx lf rm fd code ln :=
 ⟨a.row h.row (b g h.mem),h.mem,h.line.turns a (fun k e=>b k e.1)⟩
theorem iN.stay (h:iN w S g gl nx lf rm fd code ln)(a:Below w.heap.size w w'):iN w' S g gl nx lf rm fd code ln:=h.turns (Turns.of_below (S:=fun _=>False) a) (fun _ _ e=>e)
theorem iN.cell (h:iN w S g gl nx lf rm fd code ln)(j:Nat)(a:j<6):w.cell? ⟨g,j,U⟩=#[Value.pointer (M ⟨gl,0,U⟩),I J nx,I J lf,I J rm,I J fd,I J code][j]?:=by
 match j,a with
 | 0,_=>exact fJ w g 0 _ _ _ h.row
 | 1,_=>exact fJ w g 1 _ _ _ h.row
 | 2,_=>exact fJ w g 2 _ _ _ h.row
 | 3,_=>exact fJ w g 3 _ _ _ h.row
 | 4,_=>exact fJ w g 4 _ _ _ h.row
 | 5,_=>exact fJ w g 5 _ _ _ h.row
theorem iN.frozen (h:iN w S g gl nx lf rm fd code ln)(j:Nat):w.frozen? ⟨g,j,U⟩=F:=fK w g j _ _ h.row
theorem iN.put (h:iN w S g gl nx lf rm fd code ln)(j:Nat)(v:Value){b c d f a:Int}
 (e:(#[Value.pointer (M ⟨gl,0,U⟩),I J nx,I J lf,I J rm,I J fd,I J code].setIfInBounds j v)=#[Value.pointer (M ⟨gl,0,U⟩),I J b,I J c,I J d,I J f,I J a]) :
 iN (w.setCell ⟨g,j,U⟩ v) S g gl b c d f a ln:=by
 refine⟨?_,h.mem,h.line.turns (Turns.setCell (fun i=>i=g) w _ _ rfl) (fun k e=>e.2)⟩;rw[fM w g j _ _ _ h.row,e]
theorem iN.next (h:iN w S g gl nx lf rm fd code ln)(k:Int):iN (w.setCell ⟨g,1,U⟩ (I J k)) S g gl k lf rm fd code ln:=h.put 1 _ rfl
theorem iN.left (h:iN w S g gl nx lf rm fd code ln)(k:Int):iN (w.setCell ⟨g,2,U⟩ (I J k)) S g gl nx k rm fd code ln:=h.put 2 _ rfl
theorem iN.room (h:iN w S g gl nx lf rm fd code ln)(k:Int):iN (w.setCell ⟨g,3,U⟩ (I J k)) S g gl nx lf k fd code ln:=h.put 3 _ rfl
theorem iN.fields (h:iN w S g gl nx lf rm fd code ln)(k:Int):iN (w.setCell ⟨g,4,U⟩ (I J k)) S g gl nx lf rm k code ln:=h.put 4 _ rfl
theorem iN.Ia (h:iN w S g gl nx lf rm fd code ln)(k:Int):iN (w.setCell ⟨g,5,U⟩ (I J k)) S g gl nx lf rm fd k ln:=h.put 5 _ rfl
theorem iN.turn (h:iN w S g gl nx lf rm fd code ln)(j:Nat)(v:Value):Turns S w (w.setCell ⟨g,j,U⟩ v):=Turns.setCell S w _ _ h.mem
end
theorem pU.mono {w:X}{S S':Nat->Prop}{g:Nat}{s:Ck.St}(h:pU w S g s)(a:∀k,k<w.heap.size->S k->S' k):pU w S' g s:=by
 obtain⟨b,nx,lf,c,d,e,h,k⟩:=h;exact⟨b,nx,lf,c,d,e,h.mono a,k⟩
theorem pU.turns {w w':X}{S S':Nat->Prop}{g:Nat}{s:Ck.St}(h:pU w S g s)(a:Turns S' w w')(b:∀k,S k->¬S' k):pU w' S g s:=by
 obtain⟨c,nx,lf,d,e,f,h,k⟩:=h;exact⟨c,nx,lf,d,e,f,h.turns a b,k⟩
theorem FV (w:X):
 Calls prog 143 #[] w fun e w'=>∃g,e=Y (Q (M ⟨g,0,U⟩))∧pU w' (fun k=>w.heap.size<=k) g Ck.start∧Below w.heap.size w w':=by
 go_enter func143,ntmps143;go_wp2_with fail
 refine(uN w).mono ?_;rintro e a ⟨rfl,d,f⟩;have i:=H9 d;have j:=H9 f
 clear d f;go_wp2;go_ret;have b:=j.o.size;have l:=i.o.lt;have m:Turns (fun _=>False) a (a.alloc (K #[Q (M ⟨w.heap.size,0,U⟩),I J 0,I J 0,I J 4000,I J 0,I J 0] 231)):=Turns.of_below ((fI _ _).alloc (aL _) _);have c:=(i.o.mono (S':=fun k=>w.heap.size<=k∧k≠a.heap.size) (fun k n e=>⟨e,by omega⟩)).turns m (fun _ _ e=>e);exact⟨a.heap.size,rfl,⟨w.heap.size,0,0,4000,0,Ln.start,⟨fH a _,b,c⟩,fun _=>⟨rfl,rfl,rfl,rfl,rfl⟩⟩,j.o.trans ((fI _ _).alloc b _)⟩
def jd (w:X)(g:Nat)(s:av)(i:Nat):Prop:=w.heap[g]? = M (K #[V s,I J (i:Int)] 248 (0,0))
def only(g:Nat):Nat->Prop:=fun k=>k=g
def gave (c:Nat):Ending:=.panicked [{ v:=.iface 282 (I J (c:Int)),recovered:=F }]
section
variable {w w':X} {g:Nat} {s:av} {i:Nat}
theorem jd.lt (h:jd w g s i):g<w.heap.size:=(aK.1 h).1
theorem jd.keep (h:jd w g s i)(a:Below w.heap.size w w'):jd w' g s i:=(a.block g h.lt).trans h
theorem jd.drewN (h:jd w g s i)(n:Nat):jd (w.drewN n) g s i:=h
theorem jd.turns {S:Nat->Prop}(h:jd w g s i)(a:Turns S w w')(b:¬S g):jd w' g s i:=a.row h b
theorem jd.cells (h:jd w g s i):w.cell? ⟨g,0,U⟩=M (V s)∧w.cell? ⟨g,1,U⟩=M (I J (i:Int))∧w.frozen? ⟨g,1,U⟩=F :=
 ⟨fJ w _ 0 _ _ _ h,fJ w _ 1 _ _ _ h,fK w _ 1 _ _ h⟩
theorem jd.go (h:jd w g s i)(j:Nat)(x:Int)(a:x=j):jd (w.setCell ⟨g,1,U⟩ (I J x)) g s j:=by
 subst a;unfold jd at h ⊢;rw[fM w g 1 _ _ _ h];rfl
end
theorem Turns.go {w:X}{g:Nat}(n:Nat)(v:Value):Turns (only g) w ((w.drewN n).setCell ⟨g,1,U⟩ v) :=
 (Turns.drewN _ w n).trans (Turns.setCell (only g) _ _ _ rfl) (fun _ h _=>h)
theorem rV (s:av)(i g:Nat)(w:X)(h:jd w g s i):
 Calls prog 248 #[Q (M ⟨g,0,U⟩)] w fun e w'=>e=Y (.bool (decide (i<s.size)))∧∃n,w'=w.drewN n:=by
 obtain⟨a,b,c⟩:=h.cells;clear h;go_enter func248,ntmps248;go_wp2;go_quiet (fail)
 go_wp2;go_ret;exact⟨rfl,nq,rfl⟩
theorem wK (s:av)(i g:Nat)(c:UInt8)(w:X)(h:jd w g s i)(m:s.size<=1000000)(a:s.data.toList[i]? = M c):
 Calls prog 280 #[Q (M ⟨g,0,U⟩),I .u8 (c.toNat:Int)] w fun e w'=>e=Y (.bool true)∧jd w' g s (i+1)∧Turns (only g) w w':=by
 have b:s.data.toList.length=s.size:=by rw[aN];rfl
 have f:=H9 (fun q=>rV s i g (w.drewN q) (h.drewN q));have H:=H9 h;obtain⟨n,p,r⟩:=h.cells;clear h;have d:i<s.size:=by
  have:=(aP.1 a).1;rwa[b] at this
 have l:decide (i<s.size)=true:=by rw[bQ];omega
 have j:(i:Int)<s.size:=by omega
 have k:s[i]=c:=by
  rw[dB (by rw[b];exact d)] at a;injection a with a
 rw[l] at f;have t:((s[i].toNat:Int) != c.toNat)=F:=Qp k;clear b k a;go_enter func280,ntmps280;go_wp2;go_quiet ((go_at_call 248;exact Calls.quiet_of (f.o _)))
 go_wp2;go_ret;exact⟨rfl,(H.o.drewN nq).go (i+1) _ (by omega),Turns.go _ _⟩
theorem Js (s:av)(i g:Nat)(c:UInt8)(w:X)(h:jd w g s i)(b:¬s.data.toList[i]? = M c):
 Calls prog 280 #[Q (M ⟨g,0,U⟩),I .u8 (c.toNat:Int)] w fun e w'=>e=Y (.bool F)∧jd w' g s i∧Turns (only g) w w':=by
 have d:s.data.toList.length=s.size:=by rw[aN];rfl
 have a:=H9 (fun q=>rV s i g (w.drewN q) (h.drewN q));have H:=H9 h;obtain⟨m,n,p⟩:=h.cells;clear h;by_cases f:i<s.size
 . have j:decide (i<s.size)=true:=by rw[bQ];omega
   have k:(i:Int)<s.size:=by omega
   have l:s[i]≠c:=by
    intro e;refine b ?_;rw[dB (by rw[d];exact f),<-e];simp[ByteArray.getElem_eq_getElem_data]
   rw[j] at a;have r:((s[i].toNat:Int) != c.toNat)=true:=CZ l;clear d l b;go_enter func280,ntmps280;go_wp2;go_quiet ((go_at_call 248;exact Calls.quiet_of (a.o _)))
   go_wp2;go_ret;exact⟨rfl,H.o.drewN nq,Turns.drewN _ _ _⟩
 . have j:decide (i<s.size)=F:=by rw[bP];omega
   rw[j] at a;clear d b;go_enter func280,ntmps280;go_wp2;go_quiet ((go_at_call 248;exact Calls.quiet_of (a.o _)))
   go_wp2;go_ret;exact⟨rfl,H.o.drewN nq,Turns.drewN _ _ _⟩
theorem wL (s:av)(i g:Nat)(c:UInt8)(w:X)(h:jd w g s i)(b:s.size<=1000000)(a:s.data.toList[i]? = M c):
 Calls prog 249 #[Q (M ⟨g,0,U⟩),I .u8 (c.toNat:Int)] w fun e w'=>e=Y (.tuple #[])∧jd w' g s (i+1)∧Turns (only g) w w':=by
 have d:=H9 (wK s i g c w h b a);clear a;go_enter func249,ntmps249;go_wp2_with fail
 refine d.o.mono ?_;rintro e k ⟨rfl,f,j⟩;go_wp2;go_end0
 exact⟨rfl,f,j⟩
theorem QC (s:av)(i g:Nat)(c:UInt8)(w:X)(h:jd w g s i)(a:¬s.data.toList[i]? = M c):
 Calls prog 249 #[Q (M ⟨g,0,U⟩),I .u8 (c.toNat:Int)] w fun e w'=>e=gave 5∧Turns (only g) w w':=by
 have b:=H9 (Js s i g c w h a);clear a;go_enter func249,ntmps249;go_wp2_with fail
 refine b.o.mono ?_;rintro e f ⟨rfl,j,d⟩;go_wp2;exact⟨rfl,rfl,d⟩
def yh (w:X)(g:Nat):Nat:=match w.cell? ⟨g,1,U⟩ with
 | some (I _ x)=>x.toNat
 | _=>0
theorem jd.yh {w:X}{g:Nat}{s:av}{i:Nat}(h:jd w g s i):yh w g=i:=by
 unfold Go.Proofs.YtjmndjmhjleabaaGreatDoor.yh;rw[h.cells.2.1];simp
theorem Da (s:av)(k:Nat)(h:k<s.size):s.data.toList[k]'(by rw[aN];exact h)=s[k]:=by simp[ByteArray.getElem_eq_getElem_data]
theorem Lj (c:UInt8):Ch.token (c.toNat:Int)=Pm.tok c:=rfl
theorem Ik (c:UInt8)(w:X):
 Calls prog 278 #[I .u8 (c.toNat:Int)] w fun e w'=>e=Y (.bool (Pm.blank c))∧w'=w:=by
 by_cases a:c=32
 . subst a;go_enter func278,ntmps278;go_wp2;go_ret;exact⟨rfl,rfl⟩
 . have f:((c.toNat:Int)==32)=F:=kY a;by_cases b:c=9
   . subst b;go_enter func278,ntmps278;go_wp2;go_ret;exact⟨rfl,rfl⟩
   . have g:((c.toNat:Int)==9)=F:=kY b;have d:Hid (Pm.blank c=F):=by unfold Hid Pm.blank;rw[aR.2 a,aR.2 b];rfl
     clear a b;go_enter func278,ntmps278;go_wp2;go_ret;exact⟨iA (by rw[d.o]),rfl⟩
theorem QD (s:av)(i g:Nat)(w:X)(h:jd w g s i)(O:s.size<=1000000)(D:i<=s.size):
 Calls prog 277 #[Q (M ⟨g,0,U⟩),.func (.func 225) #[] #[]] w fun e w' =>
  e=Y (V (s.extract i (i+Pm.word s.data.toList i)))∧jd w' g s (i+Pm.word s.data.toList i)∧Turns (only g) w w':=by
 have r:s.data.toList.length=s.size:=by rw[aN];rfl
 have t:=H9 r;have H:=H9 h;obtain⟨u,v,x⟩:=h.cells;clear h r;go_enter func277,ntmps277;go_wp2;go_loopw [] (fun wr=>∃k:Nat,i<=k∧k<=s.size∧jd wr g s k∧Turns (only g) w wr∧i+Pm.word s.data.toList i=k+Pm.word s.data.toList k) (fun wr=>s.size-yh wr g)
 case atStart=>exact⟨i,aL _,D,H.o,Turns.refl _ _,rfl⟩
 case round =>
  clear H u v x;obtain⟨k,G,P,h,y,z⟩:=hrel;have f:=H9 (fun q=>rV s k g (wr.drewN q) (h.drewN q));have H:=H9 h;have n:=H9 y;have d:=H9 z;obtain⟨u,v,x⟩:=h.cells;have L:=H9 h.yh;clear h y z;by_cases j:k<s.size
  . have p:decide (k<s.size)=true:=by rw[bQ];omega
    have B:(k:Int)<s.size:=by omega
    have l:Hid (k<s.data.toList.length):=by unfold Hid;rw[t.o];exact j
    have b:=Da s k j;rw[p] at f;cases a:Pm.tok s[k]
    . have c:Hid (i+Pm.word s.data.toList i=k):=by
       unfold Hid;rw[d.o];unfold Pm.word;rw[Pm.Kn l.o (by rw[b];exact a)];rfl
      have m:=H9 (fun W=>xH (s[k].toNat:Int) W);rw[Lj,a] at m;clear b a d;have N:(i:Int)<=k:=by omega
      have S:(k:Int)<=s.size:=by omega
      go_wp2;go_quiet ((first | (go_at_call 248;exact Calls.quiet_of (f.o _)) | (go_at_call 225;exact Calls.quiet_of_same (m.o _))))
      go_wp2;go_quiet (fail)
      go_wp2;go_ret;exact⟨qD (by rw[c.o]),by rw[c.o];exact H.o,(n.o.trans (Turns.drewN (only g) _ _) (fun _ h _=>h)).trans (Turns.drewN (only g) _ _) (fun _ h _=>h)⟩
    . have c:Hid (i+Pm.word s.data.toList i=(k+1)+Pm.word s.data.toList (k+1)):=by
       unfold Hid;rw[d.o];unfold Pm.word;rw[Pm.Km l.o (by rw[b];exact a)];omega
      have m:=H9 (fun W=>xH (s[k].toNat:Int) W);rw[Lj,a] at m;clear b a d;go_wp2;go_quiet ((first | (go_at_call 248;exact Calls.quiet_of (f.o _)) | (go_at_call 225;exact Calls.quiet_of_same (m.o _))))
      go_wp2;have C:=H9 ((H.o.drewN nq).go (k+1) ((k:Int)+1) (by omega));go_roundw
      case rel=>exact⟨k+1,by omega,by omega,C.o,n.o.trans (Turns.go _ _) (fun _ h _=>h),c.o⟩
      case measure=>rw[C.o.yh,L.o];omega
  . obtain rfl:k=s.size:=by omega
    have p:decide (s.size<s.size)=F:=by rw[bP];omega
    have c:Hid (i+Pm.word s.data.toList i=s.size):=by
     unfold Hid;rw[d.o];unfold Pm.word;rw[Pm.run_end _ (by rw[t.o];exact aL _)];rfl
    rw[p] at f;clear d;have N:(i:Int)<=s.size:=by omega
    go_wp2;go_quiet ((go_at_call 248;exact Calls.quiet_of (f.o _)))
    go_wp2;go_quiet (fail)
    go_wp2;go_ret;exact⟨qD (by rw[c.o]),by rw[c.o];exact H.o,(n.o.trans (Turns.drewN (only g) _ _) (fun _ h _=>h)).trans (Turns.drewN (only g) _ _) (fun _ h _=>h)⟩
theorem Sb (s:av)(i g:Nat)(w:X)(h:jd w g s i)(O:s.size<=1000000)(D:i<=s.size):
 Calls prog 277 #[Q (M ⟨g,0,U⟩),.func (.func 278) #[] #[]] w fun e w' =>
  e=Y (V (s.extract i (i+Pm.run Pm.blank s.data.toList i)))∧jd w' g s (i+Pm.run Pm.blank s.data.toList i)∧Turns (only g) w w':=by
 have r:s.data.toList.length=s.size:=by rw[aN];rfl
 have t:=H9 r;have H:=H9 h;obtain⟨u,v,x⟩:=h.cells;clear h r;go_enter func277,ntmps277;go_wp2;go_loopw [] (fun wr=>∃k:Nat,i<=k∧k<=s.size∧jd wr g s k∧Turns (only g) w wr∧i+Pm.run Pm.blank s.data.toList i=k+Pm.run Pm.blank s.data.toList k) (fun wr=>s.size-yh wr g)
 case atStart=>exact⟨i,aL _,D,H.o,Turns.refl _ _,rfl⟩
 case round =>
  clear H u v x;obtain⟨k,G,P,h,y,z⟩:=hrel;have f:=H9 (fun q=>rV s k g (wr.drewN q) (h.drewN q));have H:=H9 h;have n:=H9 y;have d:=H9 z;obtain⟨u,v,x⟩:=h.cells;have L:=H9 h.yh;clear h y z;by_cases j:k<s.size
  . have p:decide (k<s.size)=true:=by rw[bQ];omega
    have B:(k:Int)<s.size:=by omega
    have l:Hid (k<s.data.toList.length):=by unfold Hid;rw[t.o];exact j
    have b:=Da s k j;rw[p] at f;cases a:Pm.blank s[k]
    . have c:Hid (i+Pm.run Pm.blank s.data.toList i=k):=by
       unfold Hid;rw[d.o];rw[Pm.Kn l.o (by rw[b];exact a)];rfl
      have m:=H9 (fun W=>Ik s[k] W);rw[a] at m;clear b a d;have N:(i:Int)<=k:=by omega
      have S:(k:Int)<=s.size:=by omega
      go_wp2;go_quiet ((first | (go_at_call 248;exact Calls.quiet_of (f.o _)) | (go_at_call 278;exact Calls.quiet_of_same (m.o _))))
      go_wp2;go_quiet (fail)
      go_wp2;go_ret;exact⟨qD (by rw[c.o]),by rw[c.o];exact H.o,(n.o.trans (Turns.drewN (only g) _ _) (fun _ h _=>h)).trans (Turns.drewN (only g) _ _) (fun _ h _=>h)⟩
    . have c:Hid (i+Pm.run Pm.blank s.data.toList i=(k+1)+Pm.run Pm.blank s.data.toList (k+1)):=by
       unfold Hid;rw[d.o];rw[Pm.Km l.o (by rw[b];exact a)];omega
      have m:=H9 (fun W=>Ik s[k] W);rw[a] at m;clear b a d;go_wp2;go_quiet ((first | (go_at_call 248;exact Calls.quiet_of (f.o _)) | (go_at_call 278;exact Calls.quiet_of_same (m.o _))))
      go_wp2;have C:=H9 ((H.o.drewN nq).go (k+1) ((k:Int)+1) (by omega));go_roundw
      case rel=>exact⟨k+1,by omega,by omega,C.o,n.o.trans (Turns.go _ _) (fun _ h _=>h),c.o⟩
      case measure=>rw[C.o.yh,L.o];omega
  . obtain rfl:k=s.size:=by omega
    have p:decide (s.size<s.size)=F:=by rw[bP];omega
    have c:Hid (i+Pm.run Pm.blank s.data.toList i=s.size):=by
     unfold Hid;rw[d.o];rw[Pm.run_end _ (by rw[t.o];exact aL _)];rfl
    rw[p] at f;clear d;have N:(i:Int)<=s.size:=by omega
    go_wp2;go_quiet ((go_at_call 248;exact Calls.quiet_of (f.o _)))
    go_wp2;go_quiet (fail)
    go_wp2;go_ret;exact⟨qD (by rw[c.o]),by rw[c.o];exact H.o,(n.o.trans (Turns.drewN (only g) _ _) (fun _ h _=>h)).trans (Turns.drewN (only g) _ _) (fun _ h _=>h)⟩
theorem sP (s:av)(i g:Nat)(w:X)(h:jd w g s i)(a:s.size<=1000000)(b:i<=s.size):
 Calls prog 246 #[Q (M ⟨g,0,U⟩)] w fun e w'=>e=Y (.tuple #[])∧jd w' g s (Pm.blanks s.data.toList i)∧Turns (only g) w w':=by
 have c:=H9 (Sb s i g w h a b);go_enter func246,ntmps246;go_wp2_with fail
 refine c.o.mono ?_;rintro e j ⟨rfl,d,f⟩;go_wp2;go_end0
 exact⟨rfl,d,f⟩
theorem xL (s:av)(i g:Nat)(w:X)(h:jd w g s i)(j:s.size<=1000000)(d:i<=s.size)(k:Pm.word s.data.toList i≠0):
 Calls prog 279 #[Q (M ⟨g,0,U⟩)] w fun e w'=>e=Y (V (s.extract i (i+Pm.word s.data.toList i)))∧jd w' g s (i+Pm.word s.data.toList i)∧Turns (only g) w w':=by
 have l:=H9 (QD s i g w h j d);have b:=Pm.zx s.data.toList i (by rw[aN];exact d);rw[aN] at b;have c:i+Pm.word s.data.toList i<=s.size:=b;have a:=Ch.lU (s.extract i (i+Pm.word s.data.toList i)) (by simp;omega);have f:((s.extract i (i+Pm.word s.data.toList i)).toList==[])=F:=by
  cases m:(s.extract i (i+Pm.word s.data.toList i)).toList with
  | nil=>rw[m] at a;cases a
  | cons _ _=>rfl
 clear b c k;generalize Pm.word s.data.toList i=n at *;generalize s.extract i (i+n)=x at *;go_enter func279,ntmps279;go_wp2_with fail
 refine l.o.mono ?_;rintro e r ⟨rfl,p,q⟩;go_wp2;go_ret;exact⟨rfl,p,q⟩
theorem zV (s:av)(i g:Nat)(w:X)(h:jd w g s i)(d:s.size<=1000000)(f:i<=s.size)(a:Pm.word s.data.toList i=0):
 Calls prog 279 #[Q (M ⟨g,0,U⟩)] w fun e w'=>e=gave 5∧Turns (only g) w w':=by
 have b:=H9 (QD s i g w h d f);have c:s.extract i (i+Pm.word s.data.toList i)=⟨#[]⟩:=Ch.empty_eq _ (by rw[a];simp);rw[c] at b;clear c a;go_enter func279,ntmps279;go_wp2_with fail
 refine b.o.mono ?_;rintro e k ⟨rfl,l,j⟩;go_wp2;exact⟨rfl,rfl,j⟩
theorem Il (s:av)(i g:Nat)(w:X)(h:jd w g s i)(m:s.size<=1000000)(p:i<s.size):
 Calls prog 299 #[Q (M ⟨g,0,U⟩)] w fun e w'=>e=Y (I .u8 (s[i].toNat:Int))∧jd w' g s (i+1)∧Turns (only g) w w':=by
 have b:=H9 (rV s i g w h);have d:decide (i<s.size)=true:=by rw[bQ];omega
 rw[d] at b;have H:=H9 h;clear h d;go_enter func299,ntmps299;go_wp2_with fail
 refine b.o.mono ?_;rintro e a ⟨rfl,n,c⟩;have f:Hid (jd a g s i):=by rw[c];exact H.o.drewN n
 have k:Hid (Turns (only g) w a):=by rw[c];exact Turns.drewN _ _ _
 clear c H b;obtain⟨q,r,t⟩:=f.o.cells;have j:=H9 (f.o.go (i+1) ((i:Int)+1) (by omega));have l:Hid (Turns (only g) w (a.setCell ⟨g,1,U⟩ (I J ((i:Int)+1)))):=k.out.trans (Turns.setCell (only g) _ _ _ rfl) (fun _ h _=>h);have u:(a.setCell ⟨g,1,U⟩ (I J ((i:Int)+1))).cell? ⟨g,0,U⟩=M (V s):=j.o.cells.1;have v:(i:Int)+1-1=i:=by omega
 have x:(i:Int)<s.size:=by omega
 go_wp2;go_quiet (fail)
 go_wp2;go_ret;exact⟨rfl,j.o.drewN nq,l.out.trans (Turns.drewN (only g) _ _) (fun _ h _=>h)⟩
theorem Ll (s:av)(i g:Nat)(w:X)(h:jd w g s i)(d:¬i<s.size):
 Calls prog 299 #[Q (M ⟨g,0,U⟩)] w fun e w'=>e=gave 14∧Turns (only g) w w':=by
 have a:=H9 (rV s i g w h);have b:decide (i<s.size)=F:=by rw[bP];omega
 rw[b] at a;clear h b d;go_enter func299,ntmps299;go_wp2_with fail
 refine a.o.mono ?_;rintro e f ⟨rfl,n,c⟩;have j:Hid (Turns (only g) w f):=by rw[c];exact Turns.drewN _ _ _
 clear c;go_wp2;exact⟨rfl,rfl,j.out⟩
def wM (m:Option (au×au))(w:X)(g:Nat)(s:av)(e:Ending)(w':X):Prop :=
 Turns (only g) w w'∧match m with
  | none=>e=gave 14
  | some x=>e=Y (V ⟨x.1.toArray⟩)∧∃j,j<=s.size∧jd w' g s j∧s.data.toList.drop j=x.2
theorem wM.no {m:Option (au×au)}{w:X}{g:Nat}{s:av}{w':X}(a:m=U)(b:Turns (only g) w w'):wM m w g s (gave 14) w':=by
 subst a;exact⟨b,rfl⟩
theorem wM.yes {m:Option (au×au)}{w:X}{g:Nat}{s:av}{v r:au}{e:Ending}{w':X}{j:Nat}(a:m=M (v,r))(b:e=Y (V ⟨v.toArray⟩))(c:j<=s.size)(d:jd w' g s j)(hd:s.data.toList.drop j=r)(f:Turns (only g) w w'):wM m w g s e w':=by
 subst a;exact⟨f,b,j,c,d,hd⟩
structure Eu (w:X)(g:Nat)(s:av)(k:Nat)(acc:au)(ao:aj)(cap:Nat)(wr:X):Prop where
 rd:jd wr g s k
 own:iD wr w.heap.size 5 ao cap acc
 turns:Turns (only g) w wr
 lt:g<w.heap.size
section
variable {w wr w1 w3:X} {g k k':Nat} {s:av} {acc acc':au} {ao gV:aj} {cap cap':Nat}
theorem Eu.feed (h:Eu w g s k acc ao cap wr)(c:jd w1 g s k')(b:Turns (only g) wr w1):Eu w g s k' acc ao cap w1 :=
 ⟨c,h.own.turns b (fun a e d=>by have:=(h.own.block a e).1;have:=h.lt;unfold only at d;omega),h.turns.trans b (fun _ h _=>h),h.lt⟩
theorem Eu.push (h:Eu w g s k acc ao cap wr)(b:Obj)(d:iD w3 w.heap.size 5 gV cap' acc')(f:(wr.alloc b).grownBy w3 (gK ao)):Eu w g s k acc' gV cap' w3:=by
 have j:∀i,gK ao=M i->w.heap.size<=i:=by
  intro i e;cases ao with
  | none=>simp[gK] at e
  | some a=>simp only[gK,bT] at e;have:=(h.own.block a rfl).1;omega
 have c:Turns (fun i=>w.heap.size<=i) wr w3:=(Turns.iY (gy wr b U) (fun k e=>by cases e)).trans (Turns.iY f j) (fun _ h _=>h);exact⟨h.rd.turns c (by have:=h.lt;omega),d,h.turns.trans c (fun i m l=>by omega),h.lt⟩
end
theorem iG.QE (W:X)(c:UInt8)(t:Nat)(a:Nat×Nat){k:Nat}(b:W.heap.size=k):iG (W.alloc (K #[I .u8 (c.toNat:Int)] t a)) (M ⟨k,0,U⟩) 1 [c]:=b▸iG.one W c t a
theorem NZ (s:av)(i g:Nat)(w:X)(h:jd w g s i)(hs:s.size<=1000000)(hi:i<=s.size):
 Calls prog 281 #[Q (M ⟨g,0,U⟩)] w fun e w'=>wM (Pm.quo [] (s.data.toList.drop i)) w g s e w':=by
 have hl:s.data.toList.length=s.size:=by rw[aN];rfl
 have HL:=H9 hl;have H:=H9 h;obtain⟨i0,z,B,C,D⟩:=info_parts jN;have Hi:=H9 z;have kJ:=H9 B;have kG:=H9 C;have kK:=H9 D
 clear h hl z B C D;go_enter func281,ntmps281;go_wp2;go_loopw [3] (fun t wr=>∃(k:Nat) (a:au) (ao:aj) (x:Nat),k<=s.size∧a.length<=k∧t=Z ao a.length x∧Eu w g s k a ao x wr∧Pm.quo [] (s.data.toList.drop i)=Pm.quo a (s.data.toList.drop k)) (fun _ wr=>s.size-yh wr g)
 case atStart=>exact⟨i,[],U,0,hi,ay _,rfl,⟨H.o,iD.nil _ _ _,Turns.refl _ _,H.o.lt⟩,rfl⟩
 case round =>
  clear H;obtain⟨k,a,ao,x,hk,hal,rfl,hA,hq⟩:=hrel;have G:=H9 hA;have L:=H9 hA.rd.yh;have p:=H9 hq;clear hA hq;by_cases q:k<s.size
  . have v:Hid (s.data.toList.drop k=s[k]::s.data.toList.drop (k+1)):=by
     unfold Hid;rw[aC (by rw[HL.o];exact q),Da s k q]
    go_wp2_with fail
    refine(Il s k g _ G.o.rd hs q).mono ?_;rintro e w1 ⟨rfl,N,j⟩;have b:=H9 (G.o.feed N j);clear N j G;generalize s[k]=c at *;by_cases O:c=34
    . subst O;have r:Hid (Pm.quo [] (s.data.toList.drop i)=M (a,s.data.toList.drop (k+1))):=by unfold Hid;rw[p.o,v.o,Pm.Qc]
      have qw:=b.o.own.wZ.str (P:=prog) 31 9 5 underlying31 underlying5 underlying9;clear p v;go_wp2;go_ret;exact wM.yes r.o rfl (by omega) b.o.rd rfl b.o.turns
    . have t34:((c.toNat:Int)==34)=F:=kY O;by_cases u:c=92
      . subst u;clear t34 O;by_cases f:k+1<s.size
        . have S:Hid (s.data.toList.drop (k+1)=s[k+1]::s.data.toList.drop (k+2)):=by
           unfold Hid;rw[aC (by rw[HL.o];exact f),Da s (k+1) f]
          have r:Hid (Pm.quo [] (s.data.toList.drop i)=Pm.quo (a++[s[k+1]]) (s.data.toList.drop (k+2))):=by
           unfold Hid;rw[p.o,v.o,S.o,Pm.Kq]
          clear p v S;go_wp2_with fail
          refine(Il s (k+1) g _ b.o.rd hs f).mono ?_;rintro e w2 ⟨rfl,N,j⟩;have y:=H9 (b.o.feed N j);clear N j b;generalize s[k+1]=d at *;go_wp2_with (at_builtin;refine iI rfl (.tmp 15) (.tmp 17) 31 rfl w.heap.size 5 i0 underlying31 Hi.o kJ.o kG.o kK.o (l:=a) (l2:=[d]) rfl rfl (y.o.own.alloc _) rfl rfl (iG.QE _ _ _ _ (by simp)) (by simp;omega) (by have:=y.o.turns.size;simp;omega) ?_;intro jP gW w3 m n ku;have T:=H9 (y.o.push _ m n);clear m n ku)
          go_roundw
          case rel=>exact⟨k+2,a++[d],jP,gW,by omega,by rw[aV];simp;omega,by rw[aV];rfl,T.o,r.o⟩
          case measure=>rw[T.o.rd.yh,L.o];omega
        . have r:Hid (Pm.quo [] (s.data.toList.drop i)=U):=by
           unfold Hid;rw[p.o,v.o,aJ (show s.data.toList.length<=k+1 by rw[HL.o];omega),Pm.zw]
          clear p v;go_wp2_with fail
          refine(Ll s (k+1) g _ b.o.rd f).mono ?_;rintro e w2 ⟨W,j⟩;unfold gave at W;subst W;have HT:=H9 (b.o.turns.trans j (fun _ h _=>h));clear j;go_wp2;exact⟨rfl,wM.no r.o HT.o⟩
      . have t92:((c.toNat:Int)==92)=F:=kY u;have r:Hid (Pm.quo [] (s.data.toList.drop i)=Pm.quo (a++[c]) (s.data.toList.drop (k+1))):=by
         unfold Hid;rw[p.o,v.o,Pm.Kr _ _ _ O u]
        clear p v O u;go_wp2_with (at_builtin;refine iI rfl (.tmp 15) (.tmp 17) 31 rfl w.heap.size 5 i0 underlying31 Hi.o kJ.o kG.o kK.o (l:=a) (l2:=[c]) rfl rfl (b.o.own.alloc _) rfl rfl (iG.QE _ _ _ _ (by simp)) (by simp;omega) (by have:=b.o.turns.size;simp;omega) ?_;intro jP gW w3 m n ku;have T:=H9 (b.o.push _ m n);clear m n ku)
        go_roundw
        case rel=>exact⟨k+1,a++[c],jP,gW,by omega,by rw[aV];simp;omega,by rw[aV];rfl,T.o,r.o⟩
        case measure=>rw[T.o.rd.yh,L.o];omega
  . have r:Hid (Pm.quo [] (s.data.toList.drop i)=U):=by
     unfold Hid;rw[p.o,aJ (show s.data.toList.length<=k by rw[HL.o];omega),Pm.I7]
    clear p;go_wp2_with fail
    refine(Ll s k g _ G.o.rd q).mono ?_;rintro e w2 ⟨W,j⟩;unfold gave at W;subst W;have HT:=H9 (G.o.turns.trans j (fun _ h _=>h));clear j;go_wp2;exact⟨rfl,wM.no r.o HT.o⟩
structure jS (w:X)(S:Nat->Prop)(g:Nat)(ao:aj)(cap:Nat)(bo:aj)(bc:Nat)(t:Fm.Td):Prop where
 row:w.heap[g]? = M (K #[Z ao t.es.length cap,Z bo t.bs.length bc] 268 (0,0))
 all:pF w (fun k=>(S k∧k≠g)∧gK bo≠M k) 72 ao cap t.es
 own:iD w 0 5 bo bc t.bs
 mem:∀a,bo=M a->S a.block∧a.block≠g
 me:S g
section
variable {w w':X} {S S':Nat->Prop} {g:Nat} {ao bo:aj} {cap bc:Nat} {t:Fm.Td}
theorem jS.lt (h:jS w S g ao cap bo bc t):g<w.heap.size:=(aK.1 h.row).1
theorem jS.c0 (h:jS w S g ao cap bo bc t):w.cell? ⟨g,0,U⟩=M (Z ao t.es.length cap):=fJ w g 0 _ _ _ h.row
theorem jS.c1 (h:jS w S g ao cap bo bc t):w.cell? ⟨g,1,U⟩=M (Z bo t.bs.length bc):=fJ w g 1 _ _ _ h.row
theorem jS.turns (h:jS w S g ao cap bo bc t)(b:Turns S' w w')(c:∀k,S k->¬S' k):jS w' S g ao cap bo bc t :=
 ⟨b.row h.row (c g h.me),h.all.turns b (fun k e=>c k e.1.1),h.own.turns b (fun a e=>c _ (h.mem a e).1),h.mem,h.me⟩
theorem jS.mono (h:jS w S g ao cap bo bc t)(b:∀k,k<w.heap.size->S k->S' k):jS w S' g ao cap bo bc t :=
 ⟨h.row,h.all.mono (fun k c e=>⟨⟨b k c e.1.1,e.1.2⟩,e.2⟩),h.own,fun a e=>⟨b _ (h.own.block a e).2 (h.mem a e).1,(h.mem a e).2⟩,b g h.lt h.me⟩
theorem jS.stay (h:jS w S g ao cap bo bc t)(a:Below w.heap.size w w'):jS w' S g ao cap bo bc t:=h.turns (Turns.of_below (S:=fun _=>False) a) (fun _ _ e=>e)
end
theorem jS.made (w:X):jS (w.alloc (K #[Z U 0 0,Z U 0 0] 268)) (fun k=>w.heap.size<=k) w.heap.size U 0 U 0 Fm.FU :=
 ⟨fH w _,pF.nil _ _ _,iD.nil _ _ _,fun a e=>(by cases e),aL _⟩
def nk (w:X)(S:Nat->Prop)(g:Nat)(t:Fm.Td):Prop:=∃ao cap bo bc,jS w S g ao cap bo bc t
section
variable {w w':X} {S S':Nat->Prop} {g:Nat} {t:Fm.Td}
theorem nk.turns (h:nk w S g t)(e:Turns S' w w')(f:∀k,S k->¬S' k):nk w' S g t:=by obtain⟨a,b,c,d,h⟩:=h;exact⟨a,b,c,d,h.turns e f⟩
theorem nk.mono (h:nk w S g t)(e:∀k,k<w.heap.size->S k->S' k):nk w S' g t:=by obtain⟨a,b,c,d,h⟩:=h;exact⟨a,b,c,d,h.mono e⟩
theorem nk.stay (h:nk w S g t)(e:Below w.heap.size w w'):nk w' S g t:=by obtain⟨a,b,c,d,h⟩:=h;exact⟨a,b,c,d,h.stay e⟩
end
theorem pF.push {W:X}{S:Nat->Prop}{f:Nat}{ao:aj}{cap:Nat}{es:List iM}(h:pF W S f ao cap es)(g:Obj):∃i:List (iM×EvS),gU (W.alloc g) 0 f 12 ao cap es.length (iW i) ∧
 ∀gV b w' (e:iM) s (N:Nat->Prop) j,e.cells s=j->xY W N e s->s.po=U∧s.jy=0->(∀k,S k->¬N k)->gU w' 0 f 12 gV b (es.length+1) (iW i++j)->(W.alloc g).grownBy w' (gK ao)->(gK gV=gK ao∨gK gV=M (W.alloc g).heap.size)->pF w' (fun k=>S k∨N k∨W.heap.size<=k) f gV b (es++[e])∧Turns S W w':=by
 obtain⟨i,c,u,o,v,w⟩:=h;have l:Below W.heap.size W (W.alloc g):=(fI _ _).alloc (aL _) _;have q:=Turns.of_below (S:=fun _=>False) l;refine⟨i,u.stay l,fun gV b w' e s N j x y m z r t n=>?_⟩;subst x;have B:iW [(e,s)]=e.cells s:=by simp[iW]
 rw[<-B] at r;have:=pF.more (N:=N) o (fun p d=>(v p d).turns q (fun _ _ e=>e)) (ps2:=[(e,s)]) (fun p d=>by rw[bB.1 d];exact y.turns q (fun _ _ e=>e)) z r (by rw[<-c,aD];rfl) t n w (fun p d=>by rw[bB.1 d];exact m);refine⟨?_,?_⟩
 . rw[c] at this;refine this.mono (fun k C e=>?_);rcases e with e | e | e
   . exact Or.inl e
   . exact Or.inr (Or.inl e)
   . rw[fV] at e;exact Or.inr (Or.inr (by omega))
 . refine(Turns.of_below (S:=S) l).trans (Turns.iY (S:=S) t (fun k e=>?_)) (fun _ e _=>e);cases ao with
   | none=>cases e
   | some a=>injection e with e;subst e;exact o a rfl
theorem Ag:(prog.info? 72).map (fun i=>(i.zero,i.size,i.bytes))=M (M (.agg #[I J 0,V ⟨#[]⟩,V ⟨#[]⟩,I J 0,Z U 0 0,I J 0,Z U 0 0,V ⟨#[]⟩,V ⟨#[]⟩,V ⟨#[]⟩,Z U 0 0,I J 0]),12,184):=by kernel_rfl
structure JN (w:X)(S N:Nat->Prop)(e:iM)(s:EvS):Prop where
 fields:nD w (fun k=>N k∧lastB e s≠M k) s.fo s.gL e.fields.length (gT e.fields)
 iq:jZ w (fun k=>N k∧lastB e s≠M k) s.po s.jy e.iq
 bytes:gY w N 5 s.bo s.gJ e.bytes
 apart:∀k,S k->¬N k
theorem JN.stay {w w':X}{S N:Nat->Prop}{e:iM}{s:EvS}(h:JN w S N e s)(b:Below w.heap.size w w'):JN w' S N e s :=
 have a:=Turns.of_below (S:=fun _=>False) b
 ⟨h.fields.turns a (fun _ _ k=>k),h.iq.turns a (fun _ _ k=>k),h.bytes.turns a (fun _ _ k=>k),h.apart⟩
inductive vg (w:X)(S N:Nat->Prop)(es:List iM)(e:iM)(v:Ending)(w':X):Prop
 | mk (ao:aj) (cap:Nat) (hv:v=Y (Z ao (es.length+1) cap)) (hO:jQ w' (fun k=>S k∨N k∨w.heap.size<=k) 72 5 ao cap (es++[e])) (hT:Turns S w w')
structure QX (w:X)(S N:Nat->Prop)(ao:aj)(ps:List (iM×EvS))(es:List iM)(e:iM)(s:EvS):Prop where
 es:ps.map (·.1)=es
 mem:∀a,ao=M a->S a.block
 ins:∀p∈ps,xY w (fun k=>S k∧gK ao≠M k) p.1 p.2
 new:JN w S N e s
theorem vg.of {w g:X}{S N:Nat->Prop}{ao d:aj}{i n:Nat}{f:List (iM×EvS)}{es:List iM}{e:iM}{s:EvS}{x y:Obj}
 (h:QX w S N ao f es e s) (q:gU g 0 72 12 d i (n+1) (iW f++e.cells s)) (o:((w.alloc x).alloc y).grownBy g (gK ao)) (l:gK d=gK ao∨gK d=M ((w.alloc x).alloc y).heap.size) (r:n=es.length:=by rfl) :
 vg w S N es e (Y (Z d (n+1) i)) g:=by
 subst r;have j:Below w.heap.size w ((w.alloc x).alloc y):=((fI _ _).alloc (aL _) _).alloc (by simp) _;have t:=Turns.of_below (S:=fun _=>False) j;have u:es.length=f.length:=by rw[<-h.es];simp
 have m:∀p∈f,xY ((w.alloc x).alloc y) (fun k=>S k∧gK ao≠M k) p.1 p.2:=fun p v=>(h.ins p v).turns t (fun _ _ k=>k);have b:=h.new.stay j;have z:gU g 0 72 12 d i (f.length+1) (iW (f++[(e,s)])):=by
  rw[mX,<-u];have B:iW [(e,s)]=e.cells s:=by simp[iW]
  rw[B];exact q
 have C:=jQ.more (tb:=5) h.mem m b.fields b.iq b.bytes b.apart z rfl o l;refine .mk d i rfl ?_ ?_
 . rw[<-h.es];refine C.mono (fun k _ c=>?_);rcases c with c | c | c
   . exact Or.inl c
   . exact Or.inr (Or.inl c)
   . refine Or.inr (Or.inr ?_);rw[c];exact j.size
 . refine(Turns.of_below (S:=S) j).trans (Turns.iY (S:=S) o (fun k c=>?_)) (fun _ k _=>k);cases ao with
   | none=>cases c
   | some a=>injection c with c;subst c;exact h.mem a rfl
theorem TV (w:X)(S N:Nat->Prop)(ao:aj)(cap:Nat)(es:List iM)(e:iM)(s:EvS)(h:jQ w S 72 5 ao cap es)(j:JN w S N e s)(C:es.length<=1000000)(k:e.kind≠2):
 Calls prog 105 #[Z ao es.length cap,.agg #[I J e.kind,V e.method,V e.target,I J e.minor,Z s.fo e.fields.length s.gL,I J e.length,Z s.bo e.bytes.length s.gJ,V e.kV,V e.kI,V e.ptype,Z s.po e.iq.length s.jy,I J e.code]] w fun v w'=>vg w S N es e v w':=by
 have D:(e.kind==2)=F:=aR.2 k;obtain⟨p,a,l,m,n⟩:=h.own;have q:Hid (QX w S N ao p es e s):=⟨a,m,n,j⟩;have r:=H9 l;obtain⟨t,b,c,d,f⟩:=info_parts Ag;have u:=H9 b;have x:=H9 c;have y:=H9 d;have z:=H9 f
 clear b c d f h j a l m n k;go_enter func105,ntmps105;go_wp2_with (at_builtin;go_loud (refine gQ rfl (.tmp 37) (.tmp 39) 58 rfl 0 72 t (.agg #[I J 0,V ⟨#[]⟩,V ⟨#[]⟩,I J 0,Z U 0 0,I J 0,Z U 0 0,V ⟨#[]⟩,V ⟨#[]⟩,V ⟨#[]⟩,Z U 0 0,I J 0]) 12 184 underlying58 u.o x.o y.o z.o rfl (by decide) rfl ((r.o.alloc _).alloc _) rfl (iM.made e s _ _ _ (by simp)) rfl (cells_one e s) (by omega) (by omega) (ay _) ?_;intro G H L g i B))
 go_ret;exact vg.of q.o g i B
theorem TW (w:X)(S N:Nat->Prop)(e:iM)(s:EvS)(j:JN w S N e s)(l:e.kind=2):
 Calls prog 105 #[Z U 0 0,.agg #[I J e.kind,V e.method,V e.target,I J e.minor,Z s.fo e.fields.length s.gL,I J e.length,Z s.bo e.bytes.length s.gJ,V e.kV,V e.kI,V e.ptype,Z s.po e.iq.length s.jy,I J e.code]] w fun v w'=>vg w S N [] e v w':=by
 have C:(e.kind==2)=true:=aS.2 l;have m:Hid (QX w S N U [] [] e s):=⟨rfl,(fun a k=>by cases k),(fun p q=>by cases q),j⟩;have r:=H9 (gU.nil w 0 72 12);obtain⟨t,b,c,d,f⟩:=info_parts Ag;have u:=H9 b;have x:=H9 c;have y:=H9 d;have z:=H9 f
 clear b c d f j l;go_enter func105,ntmps105;go_wp2_with (at_builtin;go_loud (refine gQ rfl (.tmp 37) (.tmp 39) 58 rfl 0 72 t (.agg #[I J 0,V ⟨#[]⟩,V ⟨#[]⟩,I J 0,Z U 0 0,I J 0,Z U 0 0,V ⟨#[]⟩,V ⟨#[]⟩,V ⟨#[]⟩,Z U 0 0,I J 0]) 12 184 underlying58 u.o x.o y.o z.o rfl (by decide) rfl ((r.o.alloc _).alloc _) rfl (iM.made e s _ _ _ (by simp)) rfl (cells_one e s) (by omega) (by omega) (ay _) ?_;intro D G H g i B))
 go_ret;exact vg.of (n:=0) m.o g i B
theorem Ph (w:X)(S N:Nat->Prop)(ao:aj)(cap m:Nat)(es:List iM)(e:iM)(s:EvS)(h:jQ w S 72 5 ao cap es)(z:JN w S N e s)(g:es.length=m+1)(hl:m<=1000000)(B:e.kind=2)(C:∀x,es.getLast? = M x->x.kind≠2):
 Calls prog 105 #[Z ao (m+1) cap,.agg #[I J e.kind,V e.method,V e.target,I J e.minor,Z s.fo e.fields.length s.gL,I J e.length,Z s.bo e.bytes.length s.gJ,V e.kV,V e.kI,V e.ptype,Z s.po e.iq.length s.jy,I J e.code]] w fun v w'=>vg w S N es e v w':=by
 have k2:(e.kind==2)=true:=aS.2 B;obtain⟨c,d,q,D,G⟩:=h.own;have i:c.length=m+1:=by rw[<-g,<-d];simp
 have r:=q.nP;obtain⟨b,o,t,H⟩:=r.lit (by rw[mW];omega);have a:w.cell? ⟨b,o+m*12,U⟩=M (I J c[m].1.kind):=H (m*12) _ (by
  have:=rA c m (by omega) 0 (by omega);rw[bJ] at this;rw[this];rfl)
 have f:c[m].1.kind≠2:=C _ (by
  have P:c[c.length-1]? = M c[m]:=by rw[show c.length-1=m by omega,dB (by omega)]
  rw[<-d,List.getLast?_map,List.getLast?_eq_getElem?,P];rfl)
 generalize c[m].1.kind=L at a f;have T:(L==2)=F:=aR.2 f;have c0:(w.alloc (K #[I J e.kind,V e.method,V e.target,I J e.minor,Z s.fo e.fields.length s.gL,I J e.length,Z s.bo e.bytes.length s.gJ,V e.kV,V e.kI,V e.ptype,Z s.po e.iq.length s.jy,I J e.code] 72)).cell? ⟨b,o+m*12,U⟩=M (I J L):=((fI _ w).alloc (aL _) _).cell (fZ w _ a)▸a;have O:m+1<=cap:=by have:=r.1;rwa[g] at this
 rw[g] at q;subst t;have W:Hid (QX w S N (M ⟨b,o,U⟩) c es e s):=⟨d,D,G,z⟩;have HO:=H9 q;have HM:=H9 g
 obtain⟨i0,j,k,l,p⟩:=info_parts Ag;have Hi:=H9 j;have kJ:=H9 k;have kG:=H9 l;have kK:=H9 p
 clear j k l p h z d q D G B r H a f C g i;go_enter func105,ntmps105;go_wp2_with (at_builtin;go_loud (refine gQ rfl (.tmp 37) (.tmp 39) 58 rfl 0 72 i0 (.agg #[I J 0,V ⟨#[]⟩,V ⟨#[]⟩,I J 0,Z U 0 0,I J 0,Z U 0 0,V ⟨#[]⟩,V ⟨#[]⟩,V ⟨#[]⟩,Z U 0 0,I J 0]) 12 184 underlying58 Hi.o kJ.o kG.o kK.o rfl (by decide) rfl ((HO.o.alloc _).alloc _) rfl (iM.made e s _ _ _ (by simp)) rfl (cells_one e s) (by omega) (by omega) (ay _) ?_;intro jP gW w3 u y ku))
 go_ret;exact vg.of (n:=m+1) W.o u y ku HM.o.symm
theorem Fy (w:X)(S:Nat->Prop)(g:Nat)(s:Ln.St)(h:iy w S g s):
 Calls prog 80 #[Q (M ⟨g,0,U⟩)] w fun e w'=>e=Y (.bool (Ln.begun s))∧w'=w:=by
 obtain⟨d,a,c,_⟩:=h;have i:w.cell? ⟨g,0,U⟩=M (Z d s.line.length a):=fJ w g 0 _ _ _ c;have f:w.cell? ⟨g,1,U⟩=M (.bool s.ending):=fJ w g 1 _ _ _ c;clear c;unfold Ln.begun;generalize s.ending=b at f ⊢;cases b
 . go_enter func80,ntmps80;go_wp2;go_ret;exact⟨iA (by simp),rfl⟩
 . go_enter func80,ntmps80;go_wp2;go_ret;exact⟨iA (by simp),rfl⟩
theorem pV.cap_ {w:X}{ao:aj}{cap:Nat}{l:List Sp.Up}(h:pV w ao cap l):l.length<=cap:=by
 obtain⟨b,_,a,_⟩:=h;exact a.1
theorem ML (l:List Sp.Up)(g a2:aj)(i j:Nat)(w:X)(d:pV w g i l)(f:pV w a2 j l)(B:l.length<=1000000):
 Calls prog 17 #[Z g l.length i,Z a2 l.length j] w fun e w'=>e=Y (.bool true)∧∃q,w'=w.drewN q:=by
 have u:=H9 d;have v:=H9 f
 have x:=d.cap_;have y:=f.cap_
 clear d f;go_enter func17,ntmps17;go_wp2;go_loopw [5] (fun t wr=>∃k q:Nat,k<=l.length∧t=I J k∧wr=w.drewN q) (fun t _=>l.length-(intOf t).toNat)
 case atStart=>exact⟨0,0,ay _,rfl,rfl⟩
 case round =>
  obtain⟨k,q,C,rfl,rfl⟩:=hrel;by_cases a:k<l.length
  . have D:(k:Int)<l.length:=by omega
    obtain⟨G,H,b,rfl,L,N,O,P,S,m⟩:=u.o.at_ k a;obtain⟨T,W,c,rfl,y0,y1,y2,y3,y4,r⟩:=v.o.at_ k a;have z:Hid (∀n,Calls prog 15 #[Z b.bo l[k].bytes.length b.gJ,Z c.bo l[k].bytes.length c.gJ] (w.drewN n) fun e w'=>e=Y (.bool true)∧w'=w.drewN n):=fun n=>by
     have:=yH (w.drewN n) b.bo c.bo b.gJ c.gJ l[k].bytes.length l[k].bytes.length l[k].bytes l[k].bytes rfl rfl (m.drewN n) (r.drewN n);rw[aH rfl] at this;exact this
    have t1:(l[k].note.toList==l[k].note.toList)=true:=fB _;clear m r;generalize l[k]=p at *;generalize p.bytes.length=pn at *;go_wp2;go_quiet ((go_at_call 15;exact(z.o _).mono (fun e w2 s=>⟨s.1,_,s.2⟩)))
    go_wp2;go_roundw
    case rel=>exact⟨k+1,q+nq,by omega,by go_num,by simp⟩
    case measure=>simp[intOf];omega
  . obtain rfl:k=l.length:=by omega
    go_wp2;go_ret;exact⟨rfl,q,rfl⟩
end Go.Proofs.YtjmndjmhjleabaaGreatDoor