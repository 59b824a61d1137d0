/- Small texts, one behind the other: GaQ, GaR, GaT, GaU. -/
import Derived.Test.YtjmndjmhjleabaaGreatDoorPk49
import Derived.Lib.SlBytesConst
import Derived.Test.YtjmndjmhjleabaaGreatDoorRfReqs
open Go.Value renaming int->I,slice->Z,pointer->Q
open Go.IntKind renaming i64->J
open Go.Obj renaming cells->K
open Go.Ending renaming returned->Y
open Option renaming none->U,some->M
open Bool renaming false->F
open Go renaming World->X
set_option maxHeartbeats 8000000
set_option maxRecDepth 100000
open Go.Proofs.Tryz
namespace Go.Proofs.YtjmndjmhjleabaaGreatDoor
open Go.RowKit
def gbB:au:=[71,69,84,32,47,32,72,84,84,80,47,49,46,49,13,10,72,111,115,116,58,32,97,13,10,13,10]
def gbT:au:=[72,84,84,80,47,49,46,49,32,52,48,52,32,78,111,116,32,70,111,117,110,100,13,10,67,111,110,116,101,110,116,45,76,101,110,103,116,104,58,32,48,13,10,13,10]
theorem aah:Rq.outs Rq.start gbB=[.head ⟨[71,69,84],[47],1,[([72,111,115,116],[97])],0⟩,.fin]:=by rfl
theorem aai:Gt.textOf (404,[],[])=gbT:=by decide +kernel
theorem aaj:Gt.feed Tu.iF Sr.new Gt.qC gbB=(Sr.new,⟨Rq.fold Rq.start gbB,Rq.hd0,[]⟩,gbT):=by
 unfold Gt.feed Gt.DX;rw[show Gt.qC.rq=Rq.start from rfl,aah];rw[<-aai];rfl
theorem aak:Rq.busy (Rq.fold Rq.start gbB)=F:=by rfl
theorem ac2 (W:X):iG (W.alloc (K #[I .u8 71,I .u8 69,I .u8 84,I .u8 32,I .u8 47,I .u8 32,I .u8 72,I .u8 84,I .u8 84,I .u8 80,I .u8 47,I .u8 49,I .u8 46,I .u8 49,I .u8 13,I .u8 10,I .u8 72,I .u8 111,I .u8 115,I .u8 116,I .u8 58,I .u8 32,I .u8 97,I .u8 13,I .u8 10,I .u8 13,I .u8 10] 5 (27,28))) (M ⟨W.heap.size,0,U⟩) 27 gbB:=by
 have h:=jm.made W #[I .u8 71,I .u8 69,I .u8 84,I .u8 32,I .u8 47,I .u8 32,I .u8 72,I .u8 84,I .u8 84,I .u8 80,I .u8 47,I .u8 49,I .u8 46,I .u8 49,I .u8 13,I .u8 10,I .u8 72,I .u8 111,I .u8 115,I .u8 116,I .u8 58,I .u8 32,I .u8 97,I .u8 13,I .u8 10,I .u8 13,I .u8 10] 27 5 (27,28);refine⟨aL _,(fun e=>by cases e),fun j a=>⟨_,rfl,?_⟩⟩;refine h.cell ?_;exact lQ gbB j a
theorem Gj (w:X)(hP:ny w):
 Calls prog 6 #[] w fun e w'=>e=Y (.bool true)∧Below w.heap.size w w':=by
 have HP:=H9 hP;have kc:=fun(w:X) (C:Array Value) (n c:Nat)=>Lib.run_convert_bytes_const (P:=prog) w 31 5 C n c underlying31 underlying5;clear hP;go_enter func6,ntmps6;go_wp2_with fail
 refine(Bc w).mono ?_;rintro e p ⟨gs,rfl,r,s⟩;have HN:=H9 (FB r);have t:=H9 s;clear r s;go_wp2_with fail
 refine HN.o.mono ?_;rintro e b ⟨rfl,u,jU⟩;have v:=t.o.size;have d:Below w.heap.size w b:=t.o.trans (jU.below (fun k e=>e) v);have y:jB b (fun k=>w.heap.size<=k∧k<b.heap.size) p.heap.size gs Sr.new (fun _=>Gt.qC):=u.mono (fun k hk e=>⟨by
  rcases e with e | e
  . exact e
  . omega,hk⟩)
 have N:=(fI _ b).alloc (aL _) (K #[I .u8 71,I .u8 69,I .u8 84,I .u8 32,I .u8 47,I .u8 32,I .u8 72,I .u8 84,I .u8 84,I .u8 80,I .u8 47,I .u8 49,I .u8 46,I .u8 49,I .u8 13,I .u8 10,I .u8 72,I .u8 111,I .u8 115,I .u8 116,I .u8 58,I .u8 32,I .u8 97,I .u8 13,I .u8 10,I .u8 13,I .u8 10] 5 (27,28));have S:Hid (Calls prog 13 #[Q (M ⟨p.heap.size,0,U⟩),I J 0,Z (M ⟨b.heap.size,0,U⟩) 27 27] (b.alloc (K #[I .u8 71,I .u8 69,I .u8 84,I .u8 32,I .u8 47,I .u8 32,I .u8 72,I .u8 84,I .u8 84,I .u8 80,I .u8 47,I .u8 49,I .u8 46,I .u8 49,I .u8 13,I .u8 10,I .u8 72,I .u8 111,I .u8 115,I .u8 116,I .u8 58,I .u8 32,I .u8 97,I .u8 13,I .u8 10,I .u8 13,I .u8 10] 5 (27,28))) fun e w'=>Q5 (fun k=>w.heap.size<=k∧k<b.heap.size) (b.alloc (K #[I .u8 71,I .u8 69,I .u8 84,I .u8 32,I .u8 47,I .u8 32,I .u8 72,I .u8 84,I .u8 84,I .u8 80,I .u8 47,I .u8 49,I .u8 46,I .u8 49,I .u8 13,I .u8 10,I .u8 72,I .u8 111,I .u8 115,I .u8 116,I .u8 58,I .u8 32,I .u8 97,I .u8 13,I .u8 10,I .u8 13,I .u8 10] 5 (27,28))) p.heap.size gs (fun _=>Gt.qC) 0 (Sr.new,⟨Rq.fold Rq.start gbB,Rq.hd0,[]⟩,gbT) 0 e w'):=by
  have:=Bp (w:=b.alloc (K #[I .u8 71,I .u8 69,I .u8 84,I .u8 32,I .u8 47,I .u8 32,I .u8 72,I .u8 84,I .u8 84,I .u8 80,I .u8 47,I .u8 49,I .u8 46,I .u8 49,I .u8 13,I .u8 10,I .u8 72,I .u8 111,I .u8 115,I .u8 116,I .u8 58,I .u8 32,I .u8 97,I .u8 13,I .u8 10,I .u8 13,I .u8 10] 5 (27,28))) HP.o (then_ d N) (fun i e=>e.1) (y.stay N) Sr.Ok.new 0 (by decide) Gt.yg.new gbB (ac2 b) (fun _ a e=>by injection e with e;subst e;exact fun x=>absurd x.2 (Nat.lt_irrefl _)) rfl (by decide);rw[aaj] at this;exact this
 have f:=H9 (then_ d N);have z:w.heap.size<=b.heap.size:=d.size;have HZ2:=H9 z;clear u jU d y N HN v z;go_wp2_with fail
 refine S.o.mono ?_;rintro e q ⟨⟨ao,j,n,rfl,hn,O⟩,l,pE⟩;have B:n=45:=hn;subst B;obtain⟨bb,oo,rfl,_⟩:=O.lit (by decide);have D:=O.1;have an2:(45:Nat)<=j:=D;have m:Below w.heap.size w q:=f.o.trans (pE.below (fun k e=>e.1) f.o.size);have hcut:=O.cut (gV:=M ⟨bb,oo+9,U⟩) 9 12 (by decide) (by decide) (fun _=>rfl);have G:=hcut.str (P:=prog) 31 9 5 underlying31 underlying5 underlying9;replace G:(convert 31 9 (Z (M ⟨bb,oo+9,U⟩) 3 (j-9))).run prog q=.ok (.string ⟨#[52,48,52]⟩) q:=G;have T:=H9 (fun W=>MJ (g:=p.heap.size) 4 (Or.inr (by decide)) U 0 0 W);have HBu:Hid (Calls prog 20 #[Q (M ⟨p.heap.size,0,U⟩),I J 0] q fun e w'=>e=Y (.bool F)∧w'=q):=by
  have:=Us l 0 (by decide);rw[iO,show(Rq.busy (Gt.Cn.rq ⟨Rq.fold Rq.start gbB,Rq.hd0,[]⟩))=F from aak] at this;exact this
 have HGo:Hid (Calls prog 11 #[Q (M ⟨p.heap.size,0,U⟩),I J 0] q fun e w'=>e=Y (I J 0)∧Below w.heap.size w w'):=by
  refine(PI l 0 (by decide) (by rw[iO]) (by rw[iO];decide)).mono (fun e w' ⟨h1,h2⟩=>⟨h1,m.trans (h2.below (fun k e=>?_) m.size)⟩);rcases e with e | e
  . exact e.1
  . exact dF f.o.size e
 have alr:(12:Int)<=(j:Int):=by omega
 clear O l pE m hcut D hn;go_wp2_with fail
 refine(T.o _).mono ?_;rintro e w4 ⟨rfl,H⟩;rw[H];clear H;go_wp2_with fail
 refine HBu.o.mono ?_;rintro e w4 ⟨rfl,H⟩;rw[H];clear H;go_wp2_with fail
 refine HGo.o.mono ?_;rintro e w5 ⟨rfl,L⟩;have qX:=H9 L;clear L;go_wp2;go_ret;exact⟨rfl,qX.o⟩
section
variable {w6 wr w':X} {P1 P2:Nat->Prop} {g gs:Nat} {s:Sr.Sh} {c:Nat->Gt.Cn} {ao:aj} {cap:Nat} {out:au}
structure Aj (P1:Nat->Prop)(w6:X)(g gs:Nat)(s:Sr.Sh)(c:Nat->Gt.Cn)(ao:aj)(cap:Nat)(out:au)(wr:X):Prop where
 two:∃aa L,jB wr aa g gs s c∧gY wr L 5 ao cap out∧(∀k,aa k->¬L k)∧(∀k,aa k->P1 k∨w6.heap.size<=k)∧∀k,L k->w6.heap.size<=k
 turns:Turns P1 w6 wr
theorem Aj.start (h:jB w6 P1 g gs s c):Aj P1 w6 g gs s c U 0 [] w6:=⟨⟨P1,fun _=>False,h,gY.nil _ _ _,fun _ _ e=>e,fun _ e=>Or.inl e,fun _ e=>e.elim⟩,Turns.refl _ _⟩
theorem Aj.feed {w0:X}(h:Aj P1 w6 g gs s c ao cap out wr)(hP:ny w0)(z:Below w0.heap.size w0 w6)(T:∀i,P1 i->w0.heap.size<=i)(ok:Sr.Ok s)(k:Nat)(m:k<4)(hc:Gt.yg (c k))(l:au){bo:aj}{gJ n:Nat}(B:iG w6 bo gJ l)(t:l≠[]->∀a,bo=M a->¬P1 a.block)(hn:l.length=n)(hl:(c k).body.length+n<=20000):
 Calls prog 13 #[Q (M ⟨g,0,U⟩),I J (k:Int),Z bo n gJ] wr fun e w'=>∃(u:aj) (d v:Nat) (L:Nat->Prop),e=Y (.tuple #[Z u v d,I J (if (c k).rq.ph=4 then 18 else 0)])∧v=(Gt.feed Tu.iF s (c k) l).2.2.length∧iG w' u d (Gt.feed Tu.iF s (c k) l).2.2∧gY w' L 5 ao cap out∧Aj P1 w6 g gs (Gt.feed Tu.iF s (c k) l).1 (upd c k (Gt.feed Tu.iF s (c k) l).2.1) ao cap out w' ∧
  ∀C j p,gY p (fun i=>jM out ao=M i∨w'.heap.size<=i) 5 C j (out++(Gt.feed Tu.iF s (c k) l).2.2)->Turns (fun i=>jM out ao=M i) w' p->Aj P1 w6 g gs (Gt.feed Tu.iF s (c k) l).1 (upd c k (Gt.feed Tu.iF s (c k) l).2.1) C j (out++(Gt.feed Tu.iF s (c k) l).2.2) p:=by
 obtain⟨⟨w,L,h1,h2,W,x,D⟩,y⟩:=h;have hz:=y.size;have G:l≠[]->∀a,bo=M a->a.block<w6.heap.size:=fun b a e=>by
  subst e;have hp:0<l.length:=fD.2 b;have:=fZ w6 _ (B.cell 0 hp);rwa[add_block] at this
 have H:iG wr bo gJ l:=by
  by_cases b:l=[]
  . subst b;exact iG.empty wr B
  . exact B.turns y (fun a e=>t b a e)
 refine(Bp hP (z.trans (y.below T z.size)) (S:=fun k=>w k∧k<wr.heap.size) (fun i e=>?_) (h1.mono (fun k m e=>⟨e,m⟩)) ok k m hc l H (fun b a e f=>?_) hn hl).mono ?_
 . rcases x i e.1 with e | e
   . exact T i e
   . exact dF z.size e
 . rcases x _ f.1 with e3 | e3
   . exact t b a e e3
   . have:=G b a e;omega
 . rintro e N ⟨⟨u,d,v,he,U1,A8⟩,Lu,O⟩;have hz5:=O.size;have r:gY N (fun k=>L k∧k<wr.heap.size) 5 ao cap out:=(h2.mono (fun k m e=>⟨e,m⟩)).turns O (fun k e f=>W k f.1 e.1);have qY:Turns P1 w6 N:=y.trans O (fun k e m=>by
    rcases x k e.1 with e | e
    . exact e
    . omega)
   have hA:∀k,gM (fun k=>w k∧k<wr.heap.size) wr k->P1 k∨w6.heap.size<=k:=fun k e=>by
    rcases e with e | e
    . exact x k e.1
    . exact Or.inr (by omega)
   have P:∀k,gM (fun k=>w k∧k<wr.heap.size) wr k->¬(L k∧k<wr.heap.size):=fun k e f=>by
    rcases e with e | e
    . exact W k e.1 f.1
    . have:=f.2;omega
   have o:∀i,jM out ao=M i->L i∧i<wr.heap.size:=fun i e=>by
    unfold jM at e;split at e
    . cases e
    . rename_i b;rcases r with ⟨_,_,q⟩ | ⟨q,_⟩
      . cases t:ao with
        | none=>rw[t] at e;cases e
        | some a=>rw[t] at e;injection e with e;rw[<-e];exact q a t
      . exact absurd q b
   refine⟨u,d,v,_,he,U1,A8,r,⟨⟨_,_,Lu,r,P,hA,fun k e=>D k e.1⟩,qY⟩,fun C j w7 ZU Ca=>⟨⟨fun k=>gM (fun k=>w k∧k<wr.heap.size) wr k∧k<N.heap.size,_,(Lu.mono (fun k m e=>⟨e,m⟩)).turns Ca (fun k e f=>P k e.1 (o k f)),ZU,fun k e f=>?_,fun k e=>hA k e.1,fun k e=>?_⟩,qY.trans Ca (fun k e m=>?_)⟩⟩
   . rcases f with f | f
     . exact P k e.1 (o k f)
     . have:=e.2;omega
   . rcases e with e | e
     . exact D k (o k e).1
     . omega
   . have:=D k (o k e).1;omega
theorem Aj.aside (h:Aj P1 w6 g gs s c ao cap out wr){T:Nat->Prop}(f:Turns T wr w')(b:∀k,T k->k<w6.heap.size∧¬P1 k):∃d,jB w' d g gs s c∧iG w' ao cap out:=by
 obtain⟨⟨d,L,j,l,o,m,n⟩,_⟩:=h;refine⟨d,j.turns f (fun k e a=>?_),(l.turns f (fun k e a=>?_)).wZ⟩
 . rcases m k e with i | i
   . exact(b k a).2 i
   . have:=(b k a).1;omega
 . have:=n k e;have:=(b k a).1;omega
end
theorem yG.cell_ {w:X}{bo:aj}{l:au}{b o cap:Nat}{c:List Pc}{d wr:X}{P:Nat->Prop}(h:yG w bo l l.length (M ⟨b,o,U⟩) cap c d)(g:Turns P d wr)(m:∀k,P k->k<w.heap.size)(i:Nat)(n:i<c.length):wr.cell? ⟨b,o+i,U⟩=M (Z c[i].ao c[i].l.length c[i].cap):=by
 have p:=h.own.nP.turns g (fun a e=>by
  have q:=(h.own.block a e).1;intro k;have:=m _ k;omega)
 have f:=p.cell (j:=i) (u:=c[i].v) (by unfold pcV;rw[dA,dB n];rfl);rw[gH] at f;exact f
/-! ### plain: pieces, one behind the other -/
theorem Gt.PN (s:Sr.Sh)(c:Gt.Cn)(a:List (au))(i:Nat)(b:i<a.length):Gt.feeds Tu.iF s c (a.take (i+1))=((Gt.feed Tu.iF (Gt.feeds Tu.iF s c (a.take i)).1 (Gt.feeds Tu.iF s c (a.take i)).2.1 a[i]).1,(Gt.feed Tu.iF (Gt.feeds Tu.iF s c (a.take i)).1 (Gt.feeds Tu.iF s c (a.take i)).2.1 a[i]).2.1,(Gt.feeds Tu.iF s c (a.take i)).2.2++(Gt.feed Tu.iF (Gt.feeds Tu.iF s c (a.take i)).1 (Gt.feeds Tu.iF s c (a.take i)).2.1 a[i]).2.2):=by
 rw[Gt.rO,Gt.rO,bN b,dz,Gt.BK];simp
theorem Gt.X6 {s:Sr.Sh}(ok:Sr.Ok s){c:Gt.Cn}(b:Gt.yg c)(a:List (au)):Sr.Ok (Gt.feeds Tu.iF s c a).1∧Gt.yg (Gt.feeds Tu.iF s c a).2.1∧(Gt.feeds Tu.iF s c a).2.1.body.length<=c.body.length+a.flatten.length∧(Gt.feeds Tu.iF s c a).2.2.length<=6000*(2*a.flatten.length):=by
 rw[Gt.rO];refine⟨Gt.Y2 Tu.iF abl ok c _,Gt.Qw Tu.iF b s _,Gt.Ig Tu.iF s c _,?_⟩;have d:=Gt.wI (Rq.outs c.rq a.flatten) (g:=Gt.at_ s c) ok;have e:=(Rq.nH a.flatten c.rq).1;have f:(Gt.at_ s c).out.length=0:=rfl;show(Gt.evs Tu.iF (Gt.at_ s c) (Rq.outs c.rq a.flatten)).out.length<=_;omega
theorem IV (a:List (au))(i:Nat):(a.take i).flatten.length<=a.flatten.length:=by
 conv=>rhs;rw[<-bW i a,dz,aV]
 omega
theorem Q6 (a:List (au))(i:Nat)(b:i<a.length):(a.take i).flatten.length+a[i].length<=a.flatten.length:=by
 have:=IV a (i+1);rw[bN b,dz,aV] at this;simpa using this
theorem Gt.quiet_of (l:au)(h:∀i (b:i<(Rq.of l).1.length),(Rq.of l).1[i].d.kind≠3):Gt.Quiet (Rq.outs Rq.start l):=by
 refine Gt.uL _ ?_;rw[(Rq.of_run l).ev];intro e c a;obtain⟨i,b,rfl⟩:=List.getElem_of_mem c;exact h i b (by rw[a];rfl)
theorem Gt.Yi (a:List (au))(h:Gt.Quiet (Rq.outs Rq.start a.flatten))(i:Nat)(c:i<a.length):Gt.Quiet (Rq.outs (Rq.fold Rq.start (a.take i).flatten) a[i]):=by
 have e:a.flatten=(a.take (i+1)).flatten++(a.drop (i+1)).flatten:=by rw[<-dz,bW]
 rw[e,Rq.jE] at h;have b:=h.left;rw[bN c,dz,Rq.jE] at b;have d:=b.right;simpa using d
structure YC (ys:List (au))(i:Nat)(d:Gt.Cn):Prop where
 ok:Gt.yg d
 rq:d.rq=Rq.fold Rq.start (ys.take i).flatten
 few:d.body.length<=(ys.take i).flatten.length
theorem YC.start (a:List (au)):YC a 0 Gt.qC:=⟨Gt.yg.new,rfl,ay _⟩
theorem YC.next {a:List (au)}{i:Nat}{d:Gt.Cn}(h:YC a i d)(b:i<a.length)(s:Sr.Sh):YC a (i+1) (Gt.feed Tu.iF s d a[i]).2.1:=by
 refine⟨Gt.Qw Tu.iF h.ok s _,?_,?_⟩
 . rw[bN b,dz,Rq.jL,<-h.rq];show Rq.fold d.rq a[i]=_;simp
 . rw[bN b,dz,aV];have c:=Gt.Ig Tu.iF s d a[i];have e:=h.few;have f:[a[i]].flatten.length=a[i].length:=by simp
   omega
theorem YC.quiet {a:List (au)}{i:Nat}{d:Gt.Cn}(h:YC a i d)(b:i<a.length)(c:Gt.Quiet (Rq.outs Rq.start a.flatten))(s:Sr.Sh):(Gt.feed Tu.iF s d a[i]).1=s :=
 Gt.ND Tu.iF s d _ (by rw[h.rq];exact Gt.Yi a c i b)
theorem jB.cell {w:X}{S:Nat->Prop}{g gs:Nat}{s:Sr.Sh}{c:Nat->Gt.Cn}(h:jB w S g gs s c):w.cell? ⟨g,0,U⟩=M (Q (M ⟨gs,0,U⟩)):=by
 obtain⟨b,x,a,d⟩:=h;exact(a .row).1.store
theorem UC {d:Type}(f:Nat->d)(a b c:d):upd (upd (upd f 0 a) 1 b) 0 c=upd (upd f 0 c) 1 b:=by
 funext j;unfold upd;split
 . rename_i h;subst h;rfl
 . rfl
theorem iG.older {w:X}{bo:aj}{cap:Nat}{l:au}(h:iG w bo cap l)(b:l≠[])(a:Addr)(e:bo=M a):a.block<w.heap.size:=by
 have c:0<l.length:=fD.2 b;rw[e] at h;have:=fZ w _ (h.cell 0 c);rwa[add_block] at this
theorem Gr (w:X)(hP:ny w)(l N:au)(bo oo co:aj)(gJ n aaw m PK nc:Nat)(cs:List Int)(hB:iG w bo gJ l)(hn:l.length=n)(hO:iG w oo aaw N)(hm:N.length=m)(hs:n+m<9223372036854775808)(hC:jm w co PK nc (cs.map fun c=>Value.int J c))(hnc:cs.length=nc):
 Calls prog 5 #[Z bo n gJ,Z oo m aaw,Z co nc PK] w fun e w'=>e=Y (.bool true)∧Below w.heap.size w w':=by
 have HB:=H9 hB;have HC:=H9 hC;have HNc:=H9 hnc;have HN:=H9 hn;have HP:=H9 hP;have HO:=H9 hO;have O:=H9 hm
 have HBg:=H9 (Gj w hP);clear hB hC hP hO;go_enter func5,ntmps5;go_wp2_with fail
 refine HBg.o.mono ?_;rintro e w1 ⟨rfl,P⟩;have H1:=H9 P;clear P hnc hn hm HBg;by_cases hbig:9000<n+m
 . have t:decide ((n:Int)+m > 9000)=true:=aH (by omega);go_wp2;go_ret;exact⟨rfl,H1.o⟩
 . have t:decide ((n:Int)+m > 9000)=F:=aI (by omega);by_cases aov:40<nc
   . have t2:decide ((nc:Int) > 40)=true:=aH (by omega);go_wp2;go_ret;exact⟨rfl,H1.o⟩
   . have t2:decide ((nc:Int) > 40)=F:=aI (by omega);have hOl:m<=20000:=by omega
     have HRq:=H9 (J4 N oo aaw w1 (HO.o.stay H1.o) (by rw[O.o];exact hOl));rw[O.o] at HRq;go_wp2_with fail
     refine HRq.o.mono ?_;rintro e C ⟨a2,c2,rfl,hE,T⟩;have HE:=H9 hE;have HB2:=H9 (then_ H1.o T)
     obtain⟨g,hes⟩:∃g,(Rq.of N).1=g:=⟨_,rfl⟩;have HQ0:Hid ((∀i (hi:i<g.length),g[i].d.kind≠3)->Gt.Quiet (Rq.outs Rq.start N)):=by subst hes;exact Gt.quiet_of N
     have hlen:g.length<=9223372036854775000:=by
      have P:=(Rq.of_run N).ev;have h2:=(Rq.nH N Rq.start).1;have h3:=Rq.join_length (Rq.outs Rq.start N);rw[P,hes] at h3;rw[O.o] at h2;omega
     rw[hes] at HE;rw[hes];generalize (Rq.of N).2=bsy;clear hE T hes HRq t t2 H1;go_wp2;go_loopw [9] (fun vi wr=>∃i:Nat,i<=g.length∧vi=I J i∧wr=C∧∀j (hj:j<g.length),j<i->g[j].d.kind≠3) (fun vi _=>g.length-(intOf vi).toNat)
     case atStart=>exact⟨0,ay _,rfl,rfl,fun j _ h=>absurd h (bY _)⟩
     case round =>
      obtain⟨i,hi,rfl,hw,hK⟩:=hrel;have HK:=H9 hK;subst hw;clear hK;by_cases hlt:i<g.length
      . obtain⟨b,o,rfl,hcs⟩:=HE.o.lit (by rw[aD];omega);obtain⟨s,hev⟩:=hcs i (by rw[aD];exact hlt);rw[aF] at hev;have c0:wr.cell? ⟨b,o+i*12,U⟩=M (I J g[i].d.kind):=hev.at_ 0 _ rfl;have hcp:=HE.o.1;rw[aD] at hcp;have hlt':(i:Int)<g.length:=by omega
        clear hcs hev;by_cases hk:g[i].d.kind=3
        . have tk:(g[i].d.kind==3)=true:=by rw[aS];exact hk
          generalize g[i].d.kind=kd at *;go_wp2;go_ret;exact⟨rfl,HB2.o⟩
        . have tk:(g[i].d.kind==3)=F:=by rw[aR];exact hk
          have Yq:Hid (∀j (hj:j<g.length),j<i+1->g[j].d.kind≠3):=fun j hj h=>by
           rcases aT j i with P | P
           . exact HK.o j hj P
           . obtain rfl:j=i:=by omega
             exact hk
          generalize g[i].d.kind=kd at *;go_wp2;go_roundw
          case rel=>exact⟨i+1,by omega,by go_num,by first | rfl | trivial,Yq.o⟩
          case measure=>simp[intOf];omega
      . obtain rfl:i=g.length:=by omega
        have HQt:=H9 (HQ0.o (fun j hj=>HK.o j hj hj));have hlt':¬((g.length:Nat):Int)<(g.length:Nat):=by omega
        generalize wr=C at *;clear HK HQ0 HE hlen;go_wp2_with fail
        refine(Bc C).mono ?_;rintro e w3 ⟨y,rfl,hS1,hb3⟩;have Zv:=H9 (FB hS1);have HB3:=H9 hb3;clear hS1 hb3;go_wp2_with fail
        refine Zv.o.mono ?_;rintro e H ⟨rfl,D,ET⟩;have z3:=HB3.o.size;have z4:=ET.size
        have agK:=D.mono (S':=fun i=>C.heap.size<=i∧i<H.heap.size) (fun i hi e=>⟨by
         rcases e with e | e
         . exact e
         . omega,hi⟩)
        have UN:=H9 agK;have jJ:=H9 (HB3.o.trans (ET.below (B:=C.heap.size) (fun i e=>e) z3));clear D agK ET Zv;go_wp2_with fail
        refine(Bc H).mono ?_;rintro e w5 ⟨gs2,rfl,hS2,hb5⟩;have MX:=H9 (FB hS2);have z5:=hb5.size;have agL:=H9 (UN.o.stay hb5);have qX:=H9 hb5;clear hS2 hb5 UN;go_wp2_with fail
        refine MX.o.mono ?_;rintro e w6 ⟨rfl,hG2,qY⟩;have z6:=qY.size;have UN:=H9 (agL.o.turns qY (fun i e e2=>by omega));have HG2:=H9 (hG2.mono (S':=fun i=>H.heap.size<=i∧i<w6.heap.size) (fun i hi e=>⟨by
         rcases e with e | e
         . exact e
         . omega,hi⟩))
        have hb6:Below C.heap.size C w6:=jJ.o.trans ((qX.o.trans (qY.below (B:=H.heap.size) (fun i e=>e) z5)).mono (by omega));have aax:Below w.heap.size w w6:=then_ HB2.o hb6;have HPc:=H9 (FD w6 l bo co gJ n PK nc cs (HB.o.stay aax) HN.o (by omega) (HC.o.stay aax) HNc.o (by omega));have vO:=H9 aax;have HZ:Hid (w.heap.size<=C.heap.size∧C.heap.size<=w3.heap.size∧w3.heap.size<=H.heap.size∧H.heap.size<=w5.heap.size∧w5.heap.size<=w6.heap.size):=⟨HB2.o.size,z3,z4,z5,z6⟩;clear hb6 aax hG2 qY MX HB3 jJ qX agL z3 z4 z5 z6;go_wp2_with fail
        refine HPc.o.mono ?_;rintro e w7 ⟨f,ao,cap,rfl,hPr,hpl⟩;have hp0:0<f.length:=by omega
        have hps:f.length<=41:=by omega
        have ZN:=H9 hpl;clear hpl;obtain⟨rb,ro,rfl,_⟩:=hPr.own.nP.lit (by rw[FC];exact hp0);have Mj:=H9 hPr;have IK:=H9 (then_ vO.o hPr.below);have HPd:=H9 (FD w7 N oo co aaw m PK nc cs (HO.o.stay IK.o) O.o (by omega) (HC.o.stay IK.o) HNc.o (by omega));clear hPr HPc;go_wp2_with fail
        refine HPd.o.mono ?_;rintro e w8 ⟨k,jw,cap2,rfl,hQr,hql⟩;have hqp:k.length=f.length:=by rw[hql,ZN.o]
        clear hql;obtain⟨qb,qo,rfl,_⟩:=hQr.own.nP.lit (by rw[FC,hqp];exact hp0);have hcap:=Mj.o.own.nP.1;have aoy:=hQr.own.nP.1;have h78:=hQr.below;have h68:Below w6.heap.size w6 w8:=then_ Mj.o.below h78;have HLs:=H9 (Aj.start (UN.o.stay h68));have agN:=H9 (HG2.o.stay h68);have HQr:=H9 hQr;have HB8:=H9 (then_ IK.o h78);have HZ8:Hid (w6.heap.size<=w7.heap.size∧w7.heap.size<=w8.heap.size):=⟨Mj.o.below.size,h78.size⟩;have II:Hid ((f.map Pc.l).flatten=l):=by unfold Hid;rw[Mj.o.flat,bO]
        have HFq:Hid ((k.map Pc.l).flatten=N):=by unfold Hid;rw[hQr.flat,bO]
        have HQy:Hid (Gt.Quiet (Rq.outs Rq.start (k.map Pc.l).flatten)):=by unfold Hid;rw[HFq.o];exact HQt.o
        have HFk:Hid (∀i,Sr.Ok (Gt.feeds Tu.iF Sr.new Gt.qC ((f.map Pc.l).take i)).1∧Gt.yg (Gt.feeds Tu.iF Sr.new Gt.qC ((f.map Pc.l).take i)).2.1∧(Gt.feeds Tu.iF Sr.new Gt.qC ((f.map Pc.l).take i)).2.1.body.length<=((f.map Pc.l).take i).flatten.length∧(Gt.feeds Tu.iF Sr.new Gt.qC ((f.map Pc.l).take i)).2.2.length<=6000*(2*((f.map Pc.l).take i).flatten.length)):=fun i=>by
         have:=Gt.X6 Sr.Ok.new Gt.yg.new ((f.map Pc.l).take i);refine⟨this.1,this.2.1,?_,this.2.2.2⟩;have h2:=this.2.2.1;have h3:Gt.qC.body.length=0:=rfl;omega
        obtain⟨j0,hj0,hy0,hy1,hy2⟩:=info_parts jN;have Hj:=H9 hj0;have MZ:=H9 hy0;have M0:=H9 hy1;have M4:=H9 hy2
        have H68:=H9 h68;have H78:=H9 h78
        have HQp:=H9 hqp;clear hQr HPd hj0 hy0 hy1 hy2 UN HG2 h68 h78 hqp;have Ao:Hid (Aj (fun i=>C.heap.size<=i∧i<H.heap.size) w8 w3.heap.size y (Gt.feeds Tu.iF Sr.new Gt.qC ((f.map Pc.l).take 0)).1 (upd (upd (fun _=>Gt.qC) 0 (Gt.feeds Tu.iF Sr.new Gt.qC ((f.map Pc.l).take 0)).2.1) 1 Gt.qC) U 0 (Gt.feeds Tu.iF Sr.new Gt.qC ((f.map Pc.l).take 0)).2.2 w8):=by
         have h0:=HLs.o;have e1:upd (fun _=>Gt.qC) 0 Gt.qC=fun _=>Gt.qC:=upd_same (fun _=>Gt.qC) 0;have e2:upd (fun _=>Gt.qC) 1 Gt.qC=fun _=>Gt.qC:=upd_same (fun _=>Gt.qC) 1;unfold Hid;rw[List.take_zero];show Aj _ _ _ _ Sr.new (upd (upd (fun _=>Gt.qC) 0 Gt.qC) 1 Gt.qC) U 0 [] _;rw[e1,e2];exact h0
        clear HLs;go_wp2;go_loopw [14,15] (fun va vi wr=>∃(i m:Nat) (gV:aj) (L:Nat) (d:Gt.Cn),i<=f.length∧vi=I J i∧va=Z gV m L∧m=(Gt.feeds Tu.iF Sr.new Gt.qC ((f.map Pc.l).take i)).2.2.length∧Aj (fun i=>C.heap.size<=i∧i<H.heap.size) w8 w3.heap.size y (Gt.feeds Tu.iF Sr.new Gt.qC ((f.map Pc.l).take i)).1 (upd (upd (fun _=>Gt.qC) 0 (Gt.feeds Tu.iF Sr.new Gt.qC ((f.map Pc.l).take i)).2.1) 1 d) gV L (Gt.feeds Tu.iF Sr.new Gt.qC ((f.map Pc.l).take i)).2.2 wr∧YC (k.map Pc.l) i d) (fun _ vi _=>f.length-(intOf vi).toNat)
        case atStart=>exact⟨0,0,U,0,Gt.qC,ay _,rfl,rfl,rfl,Ao.o,YC.start _⟩
        case round =>
         clear Ao;obtain⟨i,m',gV,L,d,hi,rfl,rfl,hm,hR,hOt⟩:=hrel;have HR:=H9 hR;have HM:=H9 hm;have HOt:=H9 hOt
         clear hR hm hOt;by_cases hlt:i<f.length
         . have hlt':(i:Int)<f.length:=by omega
           have ada:i<k.length:=by rw[HQp.o];exact hlt
           have amx:(i:Int)<k.length:=by omega
           have ci:=Mj.o.cell_ ((Turns.of_below (S:=fun i=>C.heap.size<=i∧i<H.heap.size) H78.o).trans HR.o.turns (fun i e _=>e)) (fun j e=>by have:=HZ.o;omega) i hlt;have hpi:=Mj.o.all f[i] (aB hlt);have hqi:=HQr.o.all k[i] (aB ada);have HQc:Hid (∀W,Turns (fun i=>C.heap.size<=i∧i<H.heap.size) w8 W->W.cell? ⟨qb,qo+i,U⟩=M (Z k[i].ao k[i].l.length k[i].cap)):=fun W z=>HQr.o.cell_ z (fun j e=>by have:=HZ.o;have:=HZ8.o;omega) i ada;have hlm:i<(f.map Pc.l).length:=by rw[aD];exact hlt
           have hlq:i<(k.map Pc.l).length:=by rw[aD];exact ada
           have O0:=Gt.PN Sr.new Gt.qC (f.map Pc.l) i hlm;have hfa:=Q6 (f.map Pc.l) i hlm;have hfq:=Q6 (k.map Pc.l) i hlq;have hfl:=bD List.length II.o;have agQ:=bD List.length HFq.o;rw[HN.o] at hfl;rw[O.o] at agQ;have hpl:(f.map Pc.l)[i]=f[i].l:=aF ..;have hql:(k.map Pc.l)[i]=k[i].l:=aF ..;rw[hpl] at O0 hfa;rw[hql] at hfq;obtain⟨fk1,fk2,fk3,fk4⟩:=HFk.o i;have fk5:=(HFk.o (i+1)).2.2.2;have fk6:=(HFk.o (i+1)).1;have hft:=IV (f.map Pc.l) (i+1);have hpb:iG w8 f[i].ao f[i].cap f[i].l:=hpi.is.stay H68.o;have hqb:iG w8 k[i].ao k[i].cap k[i].l:=hqi.is.stay H78.o;have hpk:f[i].l≠[]->∀a,f[i].ao=M a->¬(C.heap.size<=a.block∧a.block<H.heap.size):=fun r a e=>by
            obtain⟨a0,e0,e1⟩:=hpi.blk r a e;have hl0:l≠[]:=fun h0=>by
             have hn0:n=0:=by rw[<-HN.o,h0];rfl
             have:f[i].l.length=0:=by omega
             exact r (dJ.1 this)
            have:=HB.o.older hl0 a0 e0;have:=HZ.o;rw[e1];omega
           have hqk:k[i].l≠[]->∀a,k[i].ao=M a->¬(C.heap.size<=a.block∧a.block<H.heap.size):=fun r a e=>by
            obtain⟨a0,e0,e1⟩:=hqi.blk r a e;have hl0:N≠[]:=fun h0=>by
             have hn0:m=0:=by rw[<-O.o,h0];rfl
             have:k[i].l.length=0:=by omega
             exact r (dJ.1 this)
            have:=HO.o.older hl0 a0 e0;have:=HZ.o;rw[e1];omega
           have HOn:=H9 (fun s=>HOt.o.next hlq s);have HOq:=H9 (fun s=>HOt.o.quiet hlq HQy.o s);rw[hql] at HOn HOq;have hdb:=HOt.o.few;have hdo:=HOt.o.ok;generalize f[i]=p at *;generalize k[i]=q at *;obtain⟨np,hnp⟩:∃np,p.l.length=np:=⟨_,rfl⟩;obtain⟨nq,hnq⟩:∃nq,q.l.length=nq:=⟨_,rfl⟩;rw[hnp] at hfa ci;rw[hnq] at hfq HQc;have oV:=H9 (HR.o.feed (w0:=w) HP.o HB8.o (fun j e=>by have:=HZ.o;omega) fk1 0 (by decide) (by rw[upd_ne _ _ (by decide),iO];exact fk2) p.l hpb hpk hnp (by rw[upd_ne _ _ (by decide),iO];omega));rw[upd_ne _ _ (by decide),iO,UC] at oV;generalize Gt.feeds Tu.iF Sr.new Gt.qC ((f.map Pc.l).take i)=ac at *;obtain⟨Fs,Fc,Fo⟩:=ac;simp only at oV O0 HR HM fk4;rw[O0] at fk5 fk6;generalize hFp:Gt.feed Tu.iF Fs Fc p.l=Fp at *;obtain⟨Gs,Gc,Go_⟩:=Fp;simp only at oV O0 fk5 fk6;have tC:=H9 O0;have hsum:Fo.length+Go_.length<=200000000:=by rw[aV] at fk5;omega
           obtain⟨cd,hcd⟩:∃cd:Int,(if Fc.rq.ph=4 then (18:Int) else 0)=cd:=⟨_,rfl⟩;rw[hcd] at oV;have HFe:Hid (∀(MI:aj) (x:Nat) (out:au) (W:X),Aj (fun i=>C.heap.size<=i∧i<H.heap.size) w8 w3.heap.size y Gs (upd (upd (fun _=>Gt.qC) 0 Gc) 1 d) MI x out W->Calls prog 13 #[Q (M ⟨w3.heap.size,0,U⟩),I J 1,Z q.ao nq q.cap] W fun e w'=>∃(v:Value) (d2:Gt.Cn),e=Y v∧Aj (fun i=>C.heap.size<=i∧i<H.heap.size) w8 w3.heap.size y Gs (upd (upd (fun _=>Gt.qC) 0 Gc) 1 d2) MI x out w'∧YC (k.map Pc.l) (i+1) d2):=by
            intro MI x out W z;have:=z.feed (w0:=w) HP.o HB8.o (fun j e=>by have:=HZ.o;omega) fk6 1 (by decide) (by rw[iO];exact hdo) q.l hqb hqk hnq (by rw[iO];omega);rw[iO,qG,HOq.o Gs] at this;refine this.mono ?_;rintro e w' ⟨x1,x2,x3,x4,he,_,_,_,h5,_⟩;exact⟨_,_,he,h5,HOn.o Gs⟩
           clear hpi hqi O0 hfa hfq hfl agQ hpl hql fk1 fk2 fk3 fk4 fk5 fk6 hft hpb hqb hpk hqk hFp hcd hlm hlq hnp hnq HOn HOq hdb hdo HR HOt;go_wp2_with fail
           refine oV.o.mono ?_;rintro e u ⟨CB,cap5,n5,L5,rfl,U1,A8,hL5,_,hfin⟩;have HN5:=H9 U1.symm;have HB9:=H9 A8;have HL5:=H9 hL5;have Oo:=H9 hfin;have UZ:=H9 HM.o.symm
           have hml:m'+n5<=200000000:=by rw[U1,HM.o];exact hsum
           clear U1 A8 hL5 hfin oV hsum;go_wp2_with (at_builtin;refine nC rfl (.tmp 75) (.tmp 76) 31 rfl 5 j0 underlying31 Hj.o MZ.o M0.o M4.o rfl rfl HL5.o UZ.o HB9.o HN5.o (by omega) ?_;intro MI x Zq vH qY;have HF6:=H9 (Oo.o MI x Zq vH qY);have cq:=HQc.o Zq HF6.o.turns;clear vH qY)
           refine(HFe.o _ _ _ _ HF6.o).mono ?_;rintro e w11 ⟨vf,d2,rfl,hR2,hO2⟩;have HR2:=H9 hR2;have BO:=H9 hO2
           clear hR2 hO2;go_wp2;go_roundw
           case rel=>exact⟨i+1,m'+n5,MI,x,d2,by omega,by go_num,rfl,by rw[tC.o];show _=(Fo++Go_).length;rw[aV,HM.o,HN5.o],by rw[tC.o];exact HR2.o,BO.o⟩
           case measure=>simp[intOf];omega
         . obtain rfl:i=f.length:=by omega
           have hlt2:¬((f.length:Nat):Int)<(f.length:Nat):=by omega
           have hfull:(f.map Pc.l).take f.length=f.map Pc.l:=by rw[dN (by rw[aD];exact aL _)]
           have hR:=HR.o;have hm:=HM.o;obtain⟨fk1,fk2,fk3,fk4⟩:=HFk.o f.length;rw[hfull,Gt.rO,II.o] at hR hm fk1;have qY:=hR.turns;have agR:=agN.o.turns qY (fun i e e2=>by have:=HZ.o;omega);have hbr:Below w.heap.size w wr:=HB8.o.trans (qY.below (fun i e=>by have:=HZ.o;omega) HB8.o.size);have hBr:iG wr bo gJ l:=by
            by_cases r:l=[]
            . have:=HB.o;rw[r] at this ⊢;exact iG.empty wr this
            . refine(HB.o.stay HB8.o).turns qY (fun a e=>?_);have:=HB.o.older r a e;have:=HZ.o;omega
           have oV:=H9 (Bp (w0:=w) HP.o hbr (fun i e=>by have:=HZ.o;omega) agR Sr.Ok.new 0 (by decide) Gt.yg.new l hBr (fun r a e e2=>by
            have:=HB.o.older r a e;have:=HZ.o;omega) HN.o (by show 0+n<=20000;omega))
           have HBr:=H9 hbr;have HR2:=H9 hR;have UZ:=H9 hm;have qx:=H9 fk1
           clear hR hm fk1 fk2 fk3 fk4 agR hBr qY hfull HFk HM HR agN hbr HOt;generalize hFp:Gt.feed Tu.iF Sr.new Gt.qC l=ac at *;obtain⟨Fs,Fc,Fo⟩:=ac;simp only at oV HR2 UZ qx;rw[show(if Gt.qC.rq.ph=4 then (18:Int) else 0)=0 from rfl] at oV;go_wp2_with fail
           refine oV.o.mono ?_;rintro e u ⟨⟨ao7,Ju,n7,rfl,hn7,hB7⟩,ZU,Ca⟩;obtain⟨A1,D,hB1⟩:=HR2.o.aside Ca (fun i e=>by have:=HZ.o;have:=HZ8.o;omega);have XF:Below w.heap.size w u:=HBr.o.trans (Ca.below (fun i e=>by have:=HZ.o;omega) HBr.o.size);have HSB:=H9 (fun(W:X) (z:Below u.heap.size u W)=>yH W gV ao7 L Ju m' n7 Fo Fo UZ.o.symm hn7.symm (hB1.stay z) (hB7.stay z));rw[aH (rfl:Fo=Fo)] at HSB;have y2:=D.cell;have z2:=ZU.cell;have yl:=D.lt;have zl:=ZU.lt;obtain⟨ks,kl,kao,kca,P1,hst⟩:=D.jR;obtain⟨kt,jl,jao,jca,P2,hss⟩:=ZU.jR;obtain⟨⟨y0,_⟩,_⟩:=ql hst.row;obtain⟨⟨z0,_⟩,_⟩:=ql hss.row;have vK:Hid (∀W,Below u.heap.size u W->Calls prog 18 #[Q (M ⟨ks,0,U⟩)] W fun e w'=>∃G,e=Y (Z G Fs.h.l.length Fs.h.l.length)∧pV w' G Fs.h.l.length Fs.h.l∧Below W.heap.size W w'∧Below u.heap.size u w'):=fun W z=>(Iw _ P1 _ W (hst.wE.stay z) qx.o.h.small).mono fun e w' ⟨G,P,h2,h3⟩=>⟨G,P,h2.zK,h3,then_ z h3⟩;have HL2:Hid (∀W,Below u.heap.size u W->Calls prog 18 #[Q (M ⟨kt,0,U⟩)] W fun e w'=>∃G,e=Y (Z G Fs.h.l.length Fs.h.l.length)∧pV w' G Fs.h.l.length Fs.h.l∧Below W.heap.size W w'∧Below u.heap.size u w'):=fun W z=>(Iw _ P2 _ W (hss.wE.stay z) qx.o.h.small).mono fun e w' ⟨G,P,h2,h3⟩=>⟨G,P,h2.zK,h3,then_ z h3⟩;have HSU:Hid (∀W G al2,pV W G Fs.h.l.length Fs.h.l->pV W al2 Fs.h.l.length Fs.h.l->Below u.heap.size u W->Calls prog 17 #[Z G Fs.h.l.length Fs.h.l.length,Z al2 Fs.h.l.length Fs.h.l.length] W fun e w'=>e=Y (.bool true)∧Below u.heap.size u w'):=fun W G al2 P h2 z=>(ML _ G al2 _ _ W P h2 (by have:=qx.o.h.few;omega)).mono fun e w' ⟨g1,q,g2⟩=>⟨g1,by rw[g2];exact then_ z (lM W q)⟩;have HCc:Hid (∀W,Below u.heap.size u W->(W.cell? ⟨w3.heap.size,0,U⟩=M (Q (M ⟨y,0,U⟩))∧W.cell? ⟨w5.heap.size,0,U⟩=M (Q (M ⟨gs2,0,U⟩)))∧W.cell? ⟨y,0,U⟩=M (Q (M ⟨ks,0,U⟩))∧W.cell? ⟨gs2,0,U⟩=M (Q (M ⟨kt,0,U⟩))):=fun W z=>⟨⟨(z.cell (p:=⟨w3.heap.size,0,U⟩) yl).trans y2,(z.cell (p:=⟨w5.heap.size,0,U⟩) zl).trans z2⟩,(z.cell (p:=⟨y,0,U⟩) hst.lt).trans y0,(z.cell (p:=⟨gs2,0,U⟩) hss.lt).trans z0⟩;have HB9:=H9 XF;have Yj:Hid (Below u.heap.size u u.drew):=gP _ _;clear hn7 hB7 ZU Ca D hB1 XF hst hss oV hFp yl zl;generalize Fs.h.l.length=un at *;go_upto_region 21 with fail
           go_region_held3 (fun W=>(W.cell? ⟨w3.heap.size,0,U⟩=M (Q (M ⟨y,0,U⟩))∧W.cell? ⟨w5.heap.size,0,U⟩=M (Q (M ⟨gs2,0,U⟩)))∧W.cell? ⟨y,0,U⟩=M (Q (M ⟨ks,0,U⟩))∧W.cell? ⟨gs2,0,U⟩=M (Q (M ⟨kt,0,U⟩))) (go_keep) (first
            | (go_at_call 15;refine(HSB.o _ Yj.o).mono ?_;rintro e v0 ⟨rfl,hw⟩;rw[hw];clear hw)
            | (go_at_call_of 18 ks;refine(vK.o _ Yj.o).mono ?_;rintro e v1 ⟨G,rfl,hu1,hp1,hb1⟩;(try (have agT:=H9 (HUb.o.stay hp1);clear HUb;have HUb:=H9 agT.o;clear agT));have HUa:=H9 hu1;obtain⟨⟨d2,d3⟩,d0,d1⟩:=HCc.o v1 hb1;clear Yj;have Yj:=H9 hb1;clear hu1 hp1 hb1)
            | (go_at_call_of 18 kt;refine(HL2.o _ Yj.o).mono ?_;rintro e v2 ⟨al2,rfl,hu2,hp2,T⟩;(try (have agU:=H9 (HUa.o.stay hp2);clear HUa;have HUa:=H9 agU.o;clear agU));have HUb:=H9 hu2;obtain⟨⟨d2,d3⟩,d0,d1⟩:=HCc.o v2 T;clear Yj;have Yj:=H9 T;clear hu2 hp2 T)
            | (go_at_call 17;refine(HSU.o _ _ _ HUa.o HUb.o Yj.o).mono ?_;rintro e v3 ⟨rfl,hb3⟩;obtain⟨⟨d2,d3⟩,d0,d1⟩:=HCc.o v3 hb3;clear Yj;have Yj:=H9 hb3;clear hb3))
           all_goals
            go_wp2;go_ret;exact⟨by simp,then_ HB9.o Yj.o⟩
end Go.Proofs.YtjmndjmhjleabaaGreatDoor