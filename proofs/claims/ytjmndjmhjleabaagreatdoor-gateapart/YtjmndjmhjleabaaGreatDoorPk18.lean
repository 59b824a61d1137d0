/- Small texts, one behind the other: RfField, RfChA, RfFirst. -/
import Derived.Test.YtjmndjmhjleabaaGreatDoorPk17
import Derived.Deep.RegionHeld3
import Derived.Test.YtjmndjmhjleabaaGreatDoorPk8
open Go.Value renaming int->I,string->V,slice->Z
open Go.IntKind renaming i64->J
open Go.Obj renaming cells->K
open Go.Ending renaming returned->Y
open Option renaming none->U,some->M
open Bool renaming false->F
open Go renaming World->X
set_option maxHeartbeats 4000000
set_option maxRecDepth 100000
open Go.Proofs.Tryz
namespace Go.Proofs.YtjmndjmhjleabaaGreatDoor
open Go.RowKit
theorem Cv (s:av)(w:X)(hs:s.size<=1000000):
 Calls prog 44 #[V s] w fun e w'=>e=Y (Fd.val (Fd.of s.data.toList))∧Below w.heap.size w w':=by
 obtain⟨G,i,qw,a,H,f⟩:=zk (P:=prog) (w.alloc (K #[V ⟨#[]⟩,V ⟨#[]⟩] 111)) s 9 31 5 underlying9 underlying31 underlying5;have e0:(w.alloc (K #[V ⟨#[]⟩,V ⟨#[]⟩] 111)).heap.size=w.heap.size+1:=by simp
 rw[e0] at qw a H f;have q:i.cell? ⟨w.heap.size,0,U⟩=M (V ⟨#[]⟩):=(a.cell (p:=⟨w.heap.size,0,U⟩) (by simp)).trans (World.cell?_alloc_mark w _ _ _ 0);have t:i.cell? ⟨w.heap.size,1,U⟩=M (V ⟨#[]⟩):=(a.cell (p:=⟨w.heap.size,1,U⟩) (by simp)).trans (World.cell?_alloc_mark w _ _ _ 1);have f0:i.frozen? ⟨w.heap.size,0,U⟩=F:=(a.frozen (p:=⟨w.heap.size,0,U⟩) (by simp)).trans (World.frozen?_alloc_mark w _ _ _ _ 0);have f1:i.frozen? ⟨w.heap.size,1,U⟩=F:=(a.frozen (p:=⟨w.heap.size,1,U⟩) (by simp)).trans (World.frozen?_alloc_mark w _ _ _ _ 1);have u:Hid (Below w.heap.size w i):=((fI _ _).alloc (aL _) _).trans (a.mono (by omega));have HF:=H9 (FI i _ G s.size s.data.toList ⟨#[58]⟩ f (by rw[aN];rfl) (by decide) hs);clear f a e0;go_enter func44,ntmps44;go_wp2_with fail
 refine HF.o.mono ?_;rintro e w2 ⟨r,rfl,g,b⟩;subst b;have L:s.data.toList.length=s.size:=by rw[aN];rfl
 clear HF qw;rcases FJ g with ⟨N,x⟩ | ⟨N,x⟩
 . subst N;have c:Hid (Fd.of s.data.toList=Fd.bad 5):=by unfold Hid Fd.of;rw[if_pos x]
   clear x L g;go_wp2;refine gq (v:=.tuple #[.agg #[V ⟨#[]⟩,V ⟨#[]⟩],I J 5]) (by simp[results,results44,go_sem,q,t]) rfl ⟨by rw[c.o];rfl,?_⟩;exact(u.o.setCell (aL _) _).setCell (aL _) _
 . subst N;have O:Fd.at_ 58 s.data.toList<=s.data.toList.length:=Fd.U5 _ _;have S:=Fd.of s.data.toList;clear S;have d:Fd.of s.data.toList=if Ch.isToken (s.data.toList.take (Fd.at_ 58 s.data.toList))=F then Fd.bad 6 else if 40<Fd.at_ 58 s.data.toList then Fd.bad 4 else if Ch.iw (s.data.toList.drop (Fd.at_ 58 s.data.toList+1))=F then Fd.bad 3
    else ⟨s.data.toList.take (Fd.at_ 58 s.data.toList),Lib.trimS (s.data.toList.drop (Fd.at_ 58 s.data.toList+1)) Ch.ws,0⟩:=by
    conv=>lhs;unfold Fd.of
    rw[if_neg (by omega)]
   rw[L] at x;clear O L g;generalize Fd.at_ 58 s.data.toList=k at d x;have e1:(s.extract 0 k).data.toList=s.data.toList.take k:=by rw[Lib.extract_data];simp
   have e2:(s.extract (k+1) s.size).data.toList=s.data.toList.drop (k+1):=Lib.extract_to_end s (k+1);rw[<-e1,<-e2] at d;have z1:(s.extract 0 k).size<=maxLen:=by simp[maxLen];omega
   have T:(s.extract (k+1) s.size).size<=maxLen:=by simp[maxLen];omega
   have j:=H9 (yx (s.extract 0 k) w2 z1);have l:=H9 (Jt (s.extract (k+1) s.size) w2 T);have y:=H9 (fun W=>BU (s.extract (k+1) s.size) W T);clear e1 e2 z1 T;have b1:(k:Int)+1<=s.size:=by omega
   have b2:(k:Int)<=s.size:=by omega
   have B:=H9 d;clear d;cases m:Ch.isToken (s.extract 0 k).data.toList
   . rw[m] at j;have c:Hid (Fd.of s.data.toList=Fd.bad 6):=by have:=B.o;rw[if_pos m] at this;exact this
     clear B m l y;go_wp2_with fail
     refine j.o.mono ?_;rintro e z ⟨rfl,b⟩;subst b;go_wp2;refine gq (v:=.tuple #[.agg #[V ⟨#[]⟩,V ⟨#[]⟩],I J 6]) (by simp[results,results44,go_sem,q,t]) rfl ⟨by rw[c.o];rfl,?_⟩;exact(u.o.setCell (aL _) _).setCell (aL _) _
   . rw[m] at j;have h6:=B.o;rw[if_neg (by rw[m];simp)] at h6;have C:=H9 h6;clear B m h6;by_cases Yo:40<k
     . have c:Hid (Fd.of s.data.toList=Fd.bad 4):=by have:=C.o;rw[if_pos Yo] at this;exact this
       clear C l y;go_wp2_with fail
       refine j.o.mono ?_;rintro e z ⟨rfl,b⟩;subst b;go_wp2;refine gq (v:=.tuple #[.agg #[V ⟨#[]⟩,V ⟨#[]⟩],I J 4]) (by simp[results,results44,go_sem,q,t]) rfl ⟨by rw[c.o];rfl,?_⟩;exact(u.o.setCell (aL _) _).setCell (aL _) _
     . have h4:=C.o;rw[if_neg Yo] at h4;have D:=H9 h4;clear C h4;have t40:decide ((k:Int) > 40)=F:=by rw[bP];omega
       cases n:Ch.iw (s.extract (k+1) s.size).data.toList
       . rw[n] at l;have c:Hid (Fd.of s.data.toList=Fd.bad 3):=by have:=D.o;rw[if_pos n] at this;exact this
         clear D n y;go_wp2_with fail
         refine j.o.mono ?_;rintro e z ⟨rfl,b⟩;subst b;go_wp2_with fail
         refine l.o.mono ?_;rintro e z ⟨rfl,b⟩;subst b;go_wp2;refine gq (v:=.tuple #[.agg #[V ⟨#[]⟩,V ⟨#[]⟩],I J 3]) (by simp[results,results44,go_sem,q,t]) rfl ⟨by rw[c.o];rfl,?_⟩;exact(u.o.setCell (aL _) _).setCell (aL _) _
       . rw[n] at l;have h3:=D.o;rw[if_neg (by rw[n];simp)] at h3;have c:=H9 h3;clear D n h3;have HN:Hid ((s.extract 0 k)=⟨(s.extract 0 k).data.toList.toArray⟩):=by unfold Hid;rfl
         generalize (Lib.trimS (s.extract (k+1) s.size).data.toList Ch.ws)=tv at y c;have b3:IntKind.i64.wrap ((k:Int)+1)=(k:Int)+1:=lY (by omega) (by omega);have b4:(0:Int)<=(k:Int)+1:=by omega
         have b5:((k:Int)+1).toNat=k+1:=by omega
         go_wp2_with fail
         refine j.o.mono ?_;rintro e z ⟨rfl,b⟩;subst b;go_wp2_with fail
         refine l.o.mono ?_;rintro e z ⟨rfl,b⟩;subst b;go_wp2;go_region_held3 (fun _=>True) (trivial) (first | (go_at_call 77;refine(y.o _).mono ?_;rintro e w4 ⟨rfl,rfl⟩))
         all_goals
          go_wp2;refine gq (v:=.tuple #[.agg #[V (s.extract 0 k),V ⟨tv.toArray⟩],I J 0]) (by simp[results,results44,go_sem,q,t]) rfl ⟨by rw[c.o];rfl,?_⟩;exact((u.o.trans (gP _ _)).setCell (aL _) _).setCell (aL _) _
def lu (w:X)(b:au)(e:Ending)(w':X):Prop:=∃ao ca,e=Y (.tuple #[Z ao (Ck.of b).body.length ca,I J ((Ck.of b).used:Int),.bool (Ck.of b).over,I J ((Ck.of b).code:Int)])∧iD w' w.heap.size 5 ao ca (Ck.of b).body∧Below w.heap.size w w'
theorem lu.of {w:X}{b:au}{e:Ending}{w':X}(body:au)(used:Nat)(over:Bool)(code:Nat)(ao:aj)(c n:Nat)(z:Int)(a:Ck.of b=⟨body,used,over,code⟩)(d:body.length=n)(f:z=(used:Int))(g:e=Y (.tuple #[Z ao n c,I J z,.bool over,I J (code:Int)]))(i:iD w' w.heap.size 5 ao c body)(j:Below w.heap.size w w'):lu w b e w':=by
 refine⟨ao,c,?_,by rw[a];exact i,j⟩;rw[g,a,f,<-d]
structure aft (w:X)(b:au)(at_:Nat)(ao:aj)(ca n:Nat)(body:au)(f:Nat)(wr:X):Prop where
 own:iD wr w.heap.size 5 ao ca body
 len:body.length=n
 n_:n<=4000
 f_:(b.drop at_).length<f+1
 PV:Ck.of b=Ck.shift body at_ (Ck.go (f+1) (b.drop at_) n)
 below:Below w.heap.size w wr
structure abn (w:X)(b:au)(at_ k:Nat)(ao:aj)(ca n:Nat)(body:au)(f:Nat)(wr:X):Prop where
 own:iD wr w.heap.size 5 ao ca body
 len:body.length=n
 k_:k<=16
 f_:(b.drop at_).length<f+1
 PV:Ck.of b=Ck.shift body at_ (Ck.trail (f+1) (b.drop at_) k)
 below:Below w.heap.size w wr
section
variable {w:X} {b:au} {bb oo cap:Nat} (hb:iG w (M ⟨bb,oo,U⟩) cap b) (h9:b.length<=20000)
include hb h9
theorem MN (k n c:Nat)(ao:aj)(a:k<=b.length)(d:n=b.length-k)(f:c=cap-k)(ha:cap≠k->ao=M ⟨bb,oo+k,U⟩)(W:X)(g:Below w.heap.size w W):
 Calls prog 42 #[Z ao n c] W fun e w'=>e=Y (.tuple #[V ⟨(Ln.of (b.drop k)).text.toArray⟩,I J ((Ln.of (b.drop k)).size:Int),.bool (Ln.of (b.drop k)).ended,I J ((Ln.of (b.drop k)).code:Int)])∧w'=W:=by
 subst d;subst f;have hcut:=(hb.stay g).cut (gV:=ao) k b.length a (aL _) (fun e=>by rw[ha e];simp[Addr.add_lit]);rw[show(b.drop k).take (b.length-k)=b.drop k by rw[dN];rw[bU];omega] at hcut;exact FH (b.drop k) ao (cap-k) (b.length-k) W hcut (by rw[bU]) (by omega)
end
theorem IW {l:au}(a:¬((Ln.of l).code≠0∨(Ln.of l).ended=F)):(Ln.of l).code=0∧(Ln.of l).ended=true∧0<(Ln.of l).size:=by
 have c:(Ln.of l).code=0:=by
  rcases fE (Ln.of l).code with h | h
  . exact h
  . exact absurd (Or.inl (by omega)) a
 have b:(Ln.of l).ended=true:=by
  cases h:(Ln.of l).ended
  . exact absurd (Or.inr h) a
  . rfl
 refine⟨c,b,?_⟩;rcases fE (Ln.of l).size with h | h
 . have:=Ck.oW h;rw[b] at this;cases this.2
 . exact h
theorem aap (t:au)(s:av)(a:s.data.toList=t.take (Fd.at_ 59 t)):Ck.size t=Ch.number 16 6 (Lib.trimS s.data.toList Ch.ws):=by unfold Ck.size;rw[a]
theorem Rq.J2:∀(l w:au),((Rq.cut w l).map List.length).sum<=w.length+l.length
 | [],w=>by simp[Rq.cut]
 | c :: t, w => by
   rw[Rq.cut];split
   . have:=Rq.J2 t [];simp at this ⊢;omega
   . have:=Rq.J2 t (w++[c]);simp at this ⊢;omega
def Rq.FK:Nat ⊕ Rq.Hd->Value
 | .inl c=>.tuple #[.agg #[V ⟨#[]⟩,V ⟨#[]⟩,I J 0,Z U 0 0,I J 0],I J (c:Int)]
 | .inr h=>.tuple #[.agg #[V ⟨h.method.toArray⟩,V ⟨h.target.toArray⟩,I J (h.minor:Int),Z U 0 0,I J 0],I J 0]
structure Yc (w:X)(s:av)(k:Nat)(ps:List av)(wd:av)(ao:aj)(cap:Nat)(wr:X):Prop where
 own:gU wr (w.heap.size+1) 9 1 ao cap ps.length (oH ps)
 res:wr.heap[w.heap.size]? = M (K #[V ⟨#[]⟩,V ⟨#[]⟩,I J 0,Z U 0 0,I J 0] 68 (0,0))
 cut:Rq.cut [] s.data.toList=ps.map (fun x=>x.data.toList)++Rq.cut wd.data.toList (s.data.toList.drop k)
 wd_:wd.size<=k
 ps_:ps.length<=k
 below:Below w.heap.size w wr
theorem Yc.lt {w:X}{s:av}{k:Nat}{a:List av}{wd:av}{ao:aj}{cap:Nat}{wr:X}(h:Yc w s k a wd ao cap wr):w.heap.size+1<=wr.heap.size:=(aK.1 h.res).1
theorem qZ {w wr d:X}{i:List av}{ao:aj}{cap:Nat}{o:Obj}{row:Obj}(k:gU wr (w.heap.size+1) 9 1 ao cap i.length (oH i))(b:wr.heap[w.heap.size]? = M row)(f:Below w.heap.size w wr)
 (j:(wr.alloc o).grownBy d (gK ao)):d.heap[w.heap.size]? = M row∧Below w.heap.size w d:=by
 have g:w.heap.size<wr.heap.size:=(aK.1 b).1;have c:∀a,ao=M a->w.heap.size+1<=a.block:=fun a e=>(k.block a e).1;refine⟨?_,?_⟩
 . have l:=j.block w.heap.size (by simp;omega) (fun e=>by
    cases ao with
    | none=>cases e
    | some a=>injection e with e;have:=c a rfl;omega)
   rw[l,(gy wr o U).block w.heap.size g (by simp)];exact b
 . exact(f.alloc f.size o).grown j (by have:=f.size;simp;omega) (fun q e=>by
    cases ao with
    | none=>simp[gK] at e
    | some y=>simp only[gK,bT] at e;have:=c y rfl;omega)
theorem Gn (s:av)(w:X)(hs:s.size<=9000):
 Calls prog 43 #[V s] w fun e w'=>e=Y (Rq.FK (Rq.first s.data.toList))∧Below w.heap.size w w':=by
 obtain⟨i0,hi0,hz0,hz1,hz2⟩:=info_parts D8;have Hi:=H9 hi0;have kJ:=H9 hz0;have kG:=H9 hz1;have kK:=H9 hz2
 clear hi0 hz0 hz1 hz2;have HLen:Hid (s.data.toList.length=s.size):=by unfold Hid;rw[aN];rfl
 go_enter func43,ntmps43;go_wp2;go_loopw [4,5,6] (fun vl vw vi wr=>∃(k:Nat) (T:List av) (t:av) (ao:aj) (cap:Nat),k<=s.size∧vi=I J k∧vw=V t∧vl=Z ao T.length cap∧Yc w s k T t ao cap wr) (fun _ _ vi _=>s.size-(intOf vi).toNat)
 case atStart=>exact⟨0,[],⟨#[]⟩,U,0,ay _,rfl,rfl,rfl,⟨gU.nil _ _ _ _,fH w _,rfl,aL _,aL _,(fI _ _).alloc (aL _) _⟩⟩
 case round =>
  obtain⟨k,T,t,ao,cap,hk,rfl,rfl,rfl,hR⟩:=hrel;have l:=H9 hR;have hw1:=hR.wd_;have hp1:=hR.ps_;clear hR;by_cases hlt:k<s.size
  . have hlt':(k:Int)<s.size:=by omega
    have hdr:s.data.toList.drop k=s[k]::s.data.toList.drop (k+1):=by
     rw[aC (show k<s.data.toList.length by rw[HLen.o];exact hlt)];congr 1
    have UW:=H9 hdr;clear hdr;by_cases D:s[k]=32
    . have t32:((s[k].toNat:Int)==32)=true:=by rw[D];rfl
      have Cq:Hid (Rq.cut [] s.data.toList=(T++[t]).map (fun x=>x.data.toList)++Rq.cut (⟨#[]⟩:av).data.toList (s.data.toList.drop (k+1))):=by
       unfold Hid;rw[l.o.cut,UW.o,D,Rq.cut,if_pos rfl];simp
      clear D UW;go_wp2_with (at_builtin;refine gQ rfl (.tmp 18) (.tmp 20) 134 rfl (w.heap.size+1) 9 i0 (V ⟨#[]⟩) 1 16 underlying134 Hi.o kJ.o kG.o kK.o rfl (by decide) rfl (l.o.own.alloc _) rfl (jm.made _ _ 1 _ _) rfl (fun u B=>by simp at B;subst B;rfl) (by omega) (by omega) (by have:=l.o.lt;simp;omega) ?_;intro jP gW a d n _;have oC:=H9 d;have c:=H9 (qZ l.o.own l.o.res l.o.below n);clear d n)
      go_roundw
      case rel=>exact⟨k+1,T++[t],⟨#[]⟩,jP,gW,by omega,by go_num,rfl,by rw[aV];rfl,⟨by rw[aV,vP];exact oC.o,c.o.1,Cq.o,ay _,by rw[aV];simp;omega,c.o.2⟩⟩
      case measure=>simp[intOf];omega
    . have t32:((s[k].toNat:Int)==32)=F:=kY D;have hx:=Ch.vQ s k hlt;have Cq:Hid (Rq.cut [] s.data.toList=T.map (fun x=>x.data.toList)++Rq.cut (t++s.extract k (k+1)).data.toList (s.data.toList.drop (k+1))):=by
       unfold Hid;rw[l.o.cut,UW.o,Rq.cut,if_neg D,Ch.data_append,hx]
      have hz:(s.extract k (k+1)).size=1:=by simp;omega
      have HZ:Hid ((t++s.extract k (k+1)).size<=k+1):=by unfold Hid;rw[bM,hz];omega
      clear D UW hx hz;go_wp2;go_roundw
      case rel=>exact⟨k+1,T,t++s.extract k (k+1),ao,cap,by omega,by go_num,rfl,rfl,⟨l.o.own,l.o.res,Cq.o,HZ.o,by omega,l.o.below⟩⟩
      case measure=>simp[intOf];omega
  . obtain rfl:k=s.size:=by omega
    have Cq:Hid (Rq.cut [] s.data.toList=(T++[t]).map (fun x=>x.data.toList)):=by
     unfold Hid;have:=l.o.cut;rw[aJ (by rw[HLen.o];exact aL _),Rq.cut] at this;rw[this];simp
    clear HLen;by_cases h3:T.length=2
    . obtain⟨m,g,rfl⟩:∃m g,T=[m,g]:=by
       match T,h3 with
       | [m,g],_=>exact⟨m,g,rfl⟩
      have hF:Rq.first s.data.toList=(if Ch.isToken m.data.toList=F then .inl 6 else if g.data.toList.head?≠M 47∨9∈g.data.toList then .inl 5 else if t.data.toList=[72,84,84,80,47,49,46,49] then .inr ⟨m.data.toList,g.data.toList,1,[],0⟩ else if t.data.toList=[72,84,84,80,47,49,46,48] then .inr ⟨m.data.toList,g.data.toList,0,[],0⟩ else .inl 11):=by
       unfold Rq.first;rw[Cq.o];rfl
      have HF:=H9 hF;have Zx:=Cq;clear hF Cq h3;have hmz:m.size<=9000∧g.size<=9000∧t.size<=9000:=by
       have hsum:=Rq.J2 s.data.toList [];rw[Zx.o,Ch.iC] at hsum;simp at hsum;omega
      have tC:=H9 (fun W=>yx m W (by unfold maxLen;omega));cases G:Ch.isToken m.data.toList
      . rw[G] at tC;have C:Hid (Rq.first s.data.toList=.inl 6):=by have:=HF.o;rw[if_pos G] at this;exact this
        clear HF G;go_wp2_with (at_builtin;refine gQ rfl (.tmp 29) (.tmp 31) 134 rfl (w.heap.size+1) 9 i0 (V ⟨#[]⟩) 1 16 underlying134 Hi.o kJ.o kG.o kK.o rfl (by decide) rfl (l.o.own.alloc _) rfl (jm.made _ _ 1 _ _) rfl (fun u B=>by simp at B;subst B;rfl) (by simp) (by simp) (by have:=l.o.lt;simp;omega) ?_;intro jP gW a d n _;have c:=H9 (qZ l.o.own l.o.res l.o.below n);have HI3:=H9 d.nP;obtain⟨y,z,rfl,i⟩:=d.nP.lit (by simp[oH]);have l0:a.cell? ⟨y,z,U⟩=M (V m):=i 0 _ rfl;have l1:a.cell? ⟨y,z+1,U⟩=M (V g):=i 1 _ rfl;have l2:a.cell? ⟨y,z+2,U⟩=M (V t):=i 2 _ rfl;have hc3:=d.nP.1;clear d n i;have r0:a.cell? ⟨w.heap.size,0,U⟩=M (V ⟨#[]⟩):=fJ a w.heap.size 0 _ _ _ c.o.1;have f0:a.frozen? ⟨w.heap.size,0,U⟩=F:=fK a w.heap.size 0 _ _ c.o.1;have r1:a.cell? ⟨w.heap.size,1,U⟩=M (V ⟨#[]⟩):=fJ a w.heap.size 1 _ _ _ c.o.1;have f1:a.frozen? ⟨w.heap.size,1,U⟩=F:=fK a w.heap.size 1 _ _ c.o.1;have r2:a.cell? ⟨w.heap.size,2,U⟩=M (I J 0):=fJ a w.heap.size 2 _ _ _ c.o.1;have f2:a.frozen? ⟨w.heap.size,2,U⟩=F:=fK a w.heap.size 2 _ _ c.o.1;have r3:a.cell? ⟨w.heap.size,3,U⟩=M (Z U 0 0):=fJ a w.heap.size 3 _ _ _ c.o.1;have f3:a.frozen? ⟨w.heap.size,3,U⟩=F:=fK a w.heap.size 3 _ _ c.o.1;have r4:a.cell? ⟨w.heap.size,4,U⟩=M (I J 0):=fJ a w.heap.size 4 _ _ _ c.o.1;have f4:a.frozen? ⟨w.heap.size,4,U⟩=F:=fK a w.heap.size 4 _ _ c.o.1)
        refine(tC.o _).mono ?_;rintro e w4 ⟨rfl,hw⟩;subst hw;clear tC;go_wp2;refine gq (v:=.tuple #[.agg #[V ⟨#[]⟩,V ⟨#[]⟩,I J 0,Z U 0 0,I J 0],I J 6]) (by simp[results,results43,go_sem,r0,r1,r2,r3,r4]) rfl ⟨by rw[C.o];rfl,?_⟩;exact((((c.o.2.setCell (aL _) _).setCell (aL _) _).setCell (aL _) _).setCell (aL _) _).setCell (aL _) _
      . rw[G] at tC;have hF5:=HF.o;rw[if_neg (by rw[G];simp)] at hF5;have H:=H9 hF5;clear HF hF5 G;by_cases hg0:g.size=0
        . have tg0:((g.size:Int)==0)=true:=by rw[aS];omega
          have C:Hid (Rq.first s.data.toList=.inl 5):=by
           have:=H.o;rw[if_pos (Or.inl (by rw[Ch.empty_eq g hg0];simp))] at this;exact this
          clear H hg0;go_wp2_with (at_builtin;refine gQ rfl (.tmp 29) (.tmp 31) 134 rfl (w.heap.size+1) 9 i0 (V ⟨#[]⟩) 1 16 underlying134 Hi.o kJ.o kG.o kK.o rfl (by decide) rfl (l.o.own.alloc _) rfl (jm.made _ _ 1 _ _) rfl (fun u B=>by simp at B;subst B;rfl) (by simp) (by simp) (by have:=l.o.lt;simp;omega) ?_;intro jP gW a d n _;have c:=H9 (qZ l.o.own l.o.res l.o.below n);have HI3:=H9 d.nP;obtain⟨y,z,rfl,i⟩:=d.nP.lit (by simp[oH]);have l0:a.cell? ⟨y,z,U⟩=M (V m):=i 0 _ rfl;have l1:a.cell? ⟨y,z+1,U⟩=M (V g):=i 1 _ rfl;have l2:a.cell? ⟨y,z+2,U⟩=M (V t):=i 2 _ rfl;have hc3:=d.nP.1;clear d n i;have r0:a.cell? ⟨w.heap.size,0,U⟩=M (V ⟨#[]⟩):=fJ a w.heap.size 0 _ _ _ c.o.1;have f0:a.frozen? ⟨w.heap.size,0,U⟩=F:=fK a w.heap.size 0 _ _ c.o.1;have r1:a.cell? ⟨w.heap.size,1,U⟩=M (V ⟨#[]⟩):=fJ a w.heap.size 1 _ _ _ c.o.1;have f1:a.frozen? ⟨w.heap.size,1,U⟩=F:=fK a w.heap.size 1 _ _ c.o.1;have r2:a.cell? ⟨w.heap.size,2,U⟩=M (I J 0):=fJ a w.heap.size 2 _ _ _ c.o.1;have f2:a.frozen? ⟨w.heap.size,2,U⟩=F:=fK a w.heap.size 2 _ _ c.o.1;have r3:a.cell? ⟨w.heap.size,3,U⟩=M (Z U 0 0):=fJ a w.heap.size 3 _ _ _ c.o.1;have f3:a.frozen? ⟨w.heap.size,3,U⟩=F:=fK a w.heap.size 3 _ _ c.o.1;have r4:a.cell? ⟨w.heap.size,4,U⟩=M (I J 0):=fJ a w.heap.size 4 _ _ _ c.o.1;have f4:a.frozen? ⟨w.heap.size,4,U⟩=F:=fK a w.heap.size 4 _ _ c.o.1)
          refine(tC.o _).mono ?_;rintro e w4 ⟨rfl,hw⟩;subst hw;clear tC;go_wp2;refine gq (v:=.tuple #[.agg #[V ⟨#[]⟩,V ⟨#[]⟩,I J 0,Z U 0 0,I J 0],I J 5]) (by simp[results,results43,go_sem,r0,r1,r2,r3,r4]) rfl ⟨by rw[C.o];rfl,?_⟩;exact((((c.o.2.setCell (aL _) _).setCell (aL _) _).setCell (aL _) _).setCell (aL _) _).setCell (aL _) _
        . have hgp:0<g.size:=by omega
          have tg0:((g.size:Int)==0)=F:=by rw[aR];omega
          have hgh:g.data.toList.head? = M g[0]:=by
           rw[List.head?_eq_getElem?,dB (by rw[Ch.iC];exact hgp)];rfl
          by_cases L:g[0]=47
          . have t47:((g[0].toNat:Int) != 47)=F:=by rw[L];rfl
            have hF9:∀b,(decide (9∈g.data.toList)=b)->Rq.first s.data.toList=if b=true then .inl 5 else if t.data.toList=[72,84,84,80,47,49,46,49] then .inr ⟨m.data.toList,g.data.toList,1,[],0⟩ else if t.data.toList=[72,84,84,80,47,49,46,48] then .inr ⟨m.data.toList,g.data.toList,0,[],0⟩ else .inl 11:=by
             intro b hb;have:=H.o;rw[hgh,L] at this;rw[this,<-hb];by_cases h9:9∈g.data.toList
             . simp[h9]
             . simp[h9]
            have HF9:=H9 hF9;clear hF9 H hgh L;go_wp2_with (at_builtin;refine gQ rfl (.tmp 29) (.tmp 31) 134 rfl (w.heap.size+1) 9 i0 (V ⟨#[]⟩) 1 16 underlying134 Hi.o kJ.o kG.o kK.o rfl (by decide) rfl (l.o.own.alloc _) rfl (jm.made _ _ 1 _ _) rfl (fun u B=>by simp at B;subst B;rfl) (by simp) (by simp) (by have:=l.o.lt;simp;omega) ?_;intro jP gW a d n _;have c:=H9 (qZ l.o.own l.o.res l.o.below n);have HI3:=H9 d.nP;obtain⟨y,z,rfl,i⟩:=d.nP.lit (by simp[oH]);have l0:a.cell? ⟨y,z,U⟩=M (V m):=i 0 _ rfl;have l1:a.cell? ⟨y,z+1,U⟩=M (V g):=i 1 _ rfl;have l2:a.cell? ⟨y,z+2,U⟩=M (V t):=i 2 _ rfl;have hc3:=d.nP.1;clear d n i;have r0:a.cell? ⟨w.heap.size,0,U⟩=M (V ⟨#[]⟩):=fJ a w.heap.size 0 _ _ _ c.o.1;have f0:a.frozen? ⟨w.heap.size,0,U⟩=F:=fK a w.heap.size 0 _ _ c.o.1;have r1:a.cell? ⟨w.heap.size,1,U⟩=M (V ⟨#[]⟩):=fJ a w.heap.size 1 _ _ _ c.o.1;have f1:a.frozen? ⟨w.heap.size,1,U⟩=F:=fK a w.heap.size 1 _ _ c.o.1;have r2:a.cell? ⟨w.heap.size,2,U⟩=M (I J 0):=fJ a w.heap.size 2 _ _ _ c.o.1;have f2:a.frozen? ⟨w.heap.size,2,U⟩=F:=fK a w.heap.size 2 _ _ c.o.1;have r3:a.cell? ⟨w.heap.size,3,U⟩=M (Z U 0 0):=fJ a w.heap.size 3 _ _ _ c.o.1;have f3:a.frozen? ⟨w.heap.size,3,U⟩=F:=fK a w.heap.size 3 _ _ c.o.1;have r4:a.cell? ⟨w.heap.size,4,U⟩=M (I J 0):=fJ a w.heap.size 4 _ _ _ c.o.1;have f4:a.frozen? ⟨w.heap.size,4,U⟩=F:=fK a w.heap.size 4 _ _ c.o.1)
            refine(tC.o _).mono ?_;rintro e w4 ⟨rfl,hw⟩;subst hw;clear tC;obtain⟨ac6,wq,hq,Yu,hzq,hIq⟩:=zk (P:=prog) w4 g 9 31 5 underlying9 underlying31 underlying5;have Oo:=H9 (FI wq _ ac6 g.size _ ⟨#[9]⟩ hIq (by rw[Ch.iC]) (by decide) (by omega));have PW:=H9 (then_ c.o.2 Yu);have HB3:=H9 Yu
            go_wp2_with fail
            refine Oo.o.mono ?_;rintro e f ⟨r,rfl,hfi,hw⟩;subst hw;clear Oo;have N:Hid (f.heap[w.heap.size]? = M (K #[V ⟨#[]⟩,V ⟨#[]⟩,I J 0,Z U 0 0,I J 0] 68 (0,0))):=(HB3.o.block w.heap.size (aK.1 c.o.1).1).trans c.o.1;have q0:f.cell? ⟨w.heap.size,0,U⟩=M (V ⟨#[]⟩):=fJ f w.heap.size 0 _ _ _ N.o;have p0:f.frozen? ⟨w.heap.size,0,U⟩=F:=fK f w.heap.size 0 _ _ N.o;have q1:f.cell? ⟨w.heap.size,1,U⟩=M (V ⟨#[]⟩):=fJ f w.heap.size 1 _ _ _ N.o;have p1:f.frozen? ⟨w.heap.size,1,U⟩=F:=fK f w.heap.size 1 _ _ N.o;have q2:f.cell? ⟨w.heap.size,2,U⟩=M (I J 0):=fJ f w.heap.size 2 _ _ _ N.o;have p2:f.frozen? ⟨w.heap.size,2,U⟩=F:=fK f w.heap.size 2 _ _ N.o;have q3:f.cell? ⟨w.heap.size,3,U⟩=M (Z U 0 0):=fJ f w.heap.size 3 _ _ _ N.o;have p3:f.frozen? ⟨w.heap.size,3,U⟩=F:=fK f w.heap.size 3 _ _ N.o;have q4:f.cell? ⟨w.heap.size,4,U⟩=M (I J 0):=fJ f w.heap.size 4 _ _ _ N.o;have p4:f.frozen? ⟨w.heap.size,4,U⟩=F:=fK f w.heap.size 4 _ _ N.o;have k0:f.cell? ⟨y,z,U⟩=M (V m):=(HB3.o.cell (fZ _ _ l0)).trans l0;have k1:f.cell? ⟨y,z+1,U⟩=M (V g):=(HB3.o.cell (fZ _ _ l1)).trans l1;have k2:f.cell? ⟨y,z+2,U⟩=M (V t):=(HB3.o.cell (fZ _ _ l2)).trans l2;clear r0 r1 r2 r3 r4 f0 f1 f2 f3 f4 l0 l1 l2 hq Yu hzq hIq;rcases FJ hfi with ⟨hr,hk⟩ | ⟨hr,hk⟩
            . subst hr;have Xz:=H9 (HF9.o F (by rw[bP];intro h9;obtain⟨j,hj,e⟩:=List.getElem_of_mem h9;exact Fd.Dj (by rw[hk];exact hj) hj e));rw[if_neg (by simp)] at Xz;clear HF9 hfi hk;go_wp2;go_region_held3 (fun w'=>w'.cell? ⟨y,z,U⟩=M (V m)∧w'.cell? ⟨y,z+1,U⟩=M (V g)) (go_keep) (fail)
              have hB6:Below f.heap.size f (f.alloc (K #[V m,V g,I J 0,Z U 0 0,I J 0] 68)).drew:=((fI _ _).alloc (aL _) _).trans (gP _ _);have hH6:(f.alloc (K #[V m,V g,I J 0,Z U 0 0,I J 0] 68)).drew.heap[f.heap.size]? = M (K #[V m,V g,I J 0,Z U 0 0,I J 0] 68):=fH f _;have vO:=H9 hB6;have O:=H9 hH6
              generalize (f.alloc (K #[V m,V g,I J 0,Z U 0 0,I J 0] 68)).drew=q at *;clear hB6 hH6;have YB:=H9 ((vO.o.block w.heap.size (aK.1 N.o).1).trans N.o);have k6:q.cell? ⟨y,z+2,U⟩=M (V t):=(vO.o.cell (fZ _ _ k2)).trans k2;have a0:q.cell? ⟨w.heap.size,0,U⟩=M (V ⟨#[]⟩):=fJ q w.heap.size 0 _ _ _ YB.o;have b0:q.frozen? ⟨w.heap.size,0,U⟩=F:=fK q w.heap.size 0 _ _ YB.o;have a1:q.cell? ⟨w.heap.size,1,U⟩=M (V ⟨#[]⟩):=fJ q w.heap.size 1 _ _ _ YB.o;have b1:q.frozen? ⟨w.heap.size,1,U⟩=F:=fK q w.heap.size 1 _ _ YB.o;have a2:q.cell? ⟨w.heap.size,2,U⟩=M (I J 0):=fJ q w.heap.size 2 _ _ _ YB.o;have b2:q.frozen? ⟨w.heap.size,2,U⟩=F:=fK q w.heap.size 2 _ _ YB.o;have a3:q.cell? ⟨w.heap.size,3,U⟩=M (Z U 0 0):=fJ q w.heap.size 3 _ _ _ YB.o;have b3:q.frozen? ⟨w.heap.size,3,U⟩=F:=fK q w.heap.size 3 _ _ YB.o;have a4:q.cell? ⟨w.heap.size,4,U⟩=M (I J 0):=fJ q w.heap.size 4 _ _ _ YB.o;have b4:q.frozen? ⟨w.heap.size,4,U⟩=F:=fK q w.heap.size 4 _ _ YB.o;have c0:q.cell? ⟨f.heap.size,0,U⟩=M (V m):=fJ q f.heap.size 0 _ _ _ O.o;have c1:q.cell? ⟨f.heap.size,1,U⟩=M (V g):=fJ q f.heap.size 1 _ _ _ O.o;have c2:q.cell? ⟨f.heap.size,2,U⟩=M (I J 0):=fJ q f.heap.size 2 _ _ _ O.o;have c3:q.cell? ⟨f.heap.size,3,U⟩=M (Z U 0 0):=fJ q f.heap.size 3 _ _ _ O.o;have c4:q.cell? ⟨f.heap.size,4,U⟩=M (I J 0):=fJ q f.heap.size 4 _ _ _ O.o;have d2:q.frozen? ⟨f.heap.size,2,U⟩=F:=fK q f.heap.size 2 _ _ O.o;have hne:w.heap.size≠f.heap.size:=by have:=(aK.1 N.o).1;omega
              have hne':¬f.heap.size=w.heap.size:=fun e=>hne e.symm;have IK:=H9 (then_ PW.o vO.o);have ai6:=PW.o.size
              clear q0 q1 q2 q3 q4 p0 p1 p2 p3 p4 k0 k1 k2;generalize f.heap.size=hb at *;by_cases h11:t.data.toList=[72,84,84,80,47,49,46,49]
              . have C:Hid (Rq.first s.data.toList=.inr ⟨m.data.toList,g.data.toList,1,[],0⟩):=by have:=Xz.o;rw[if_pos h11] at this;exact this
                obtain rfl:t=⟨#[72,84,84,80,47,49,46,49]⟩:=Ch.str_eq h11;clear Xz h11;go_wp2;refine gq (v:=.tuple #[.agg #[V m,V g,I J 1,Z U 0 0,I J 0],I J 0]) (by simp[results,results43,go_sem,a0,a1,a2,a3,a4]) rfl ⟨by rw[C.o];rfl,?_⟩;exact(((((IK.o.setCell (p:=⟨hb,2,U⟩) ai6 _).setCell (aL _) _).setCell (aL _) _).setCell (aL _) _).setCell (aL _) _).setCell (aL _) _
              . have t11:(t.toList==[72,84,84,80,47,49,46,49])=F:=by rw[aR,Lib.toList_data];exact h11
                by_cases S:t.data.toList=[72,84,84,80,47,49,46,48]
                . have C:Hid (Rq.first s.data.toList=.inr ⟨m.data.toList,g.data.toList,0,[],0⟩):=by have:=Xz.o;rw[if_neg h11,if_pos S] at this;exact this
                  obtain rfl:t=⟨#[72,84,84,80,47,49,46,48]⟩:=Ch.str_eq S;clear Xz h11 S t11;go_wp2;refine gq (v:=.tuple #[.agg #[V m,V g,I J 0,Z U 0 0,I J 0],I J 0]) (by simp[results,results43,go_sem,a0,a1,a2,a3,a4]) rfl ⟨by rw[C.o];rfl,?_⟩;exact((((IK.o.setCell (aL _) _).setCell (aL _) _).setCell (aL _) _).setCell (aL _) _).setCell (aL _) _
                . have t10:(t.toList==[72,84,84,80,47,49,46,48])=F:=by rw[aR,Lib.toList_data];exact S
                  have C:Hid (Rq.first s.data.toList=.inl 11):=by have:=Xz.o;rw[if_neg h11,if_neg S] at this;exact this
                  clear Xz h11 S;go_wp2;refine gq (v:=.tuple #[.agg #[V ⟨#[]⟩,V ⟨#[]⟩,I J 0,Z U 0 0,I J 0],I J 11]) (by simp[results,results43,go_sem,a0,a1,a2,a3,a4]) rfl ⟨by rw[C.o];rfl,?_⟩;exact((((IK.o.setCell (aL _) _).setCell (aL _) _).setCell (aL _) _).setCell (aL _) _).setCell (aL _) _
            . have C:Hid (Rq.first s.data.toList=.inl 5):=by
               have:=HF9.o true (by rw[bQ];have e:=Fd.CU hk;rw[<-e];exact aB _);rw[if_pos rfl] at this;exact this
              have tr:decide (r≥0)=true:=aH (by omega);clear HF9 hfi hk hr;go_wp2;refine gq (v:=.tuple #[.agg #[V ⟨#[]⟩,V ⟨#[]⟩,I J 0,Z U 0 0,I J 0],I J 5]) (by simp[results,results43,go_sem,q0,q1,q2,q3,q4]) rfl ⟨by rw[C.o];rfl,?_⟩;exact((((PW.o.setCell (aL _) _).setCell (aL _) _).setCell (aL _) _).setCell (aL _) _).setCell (aL _) _
          . have t47:((g[0].toNat:Int) != 47)=true:=CZ L;have C:Hid (Rq.first s.data.toList=.inl 5):=by have:=H.o;rw[if_pos (Or.inl (by rw[hgh];simpa using L))] at this;exact this
            clear H hgh L;go_wp2_with (at_builtin;refine gQ rfl (.tmp 29) (.tmp 31) 134 rfl (w.heap.size+1) 9 i0 (V ⟨#[]⟩) 1 16 underlying134 Hi.o kJ.o kG.o kK.o rfl (by decide) rfl (l.o.own.alloc _) rfl (jm.made _ _ 1 _ _) rfl (fun u B=>by simp at B;subst B;rfl) (by simp) (by simp) (by have:=l.o.lt;simp;omega) ?_;intro jP gW a d n _;have c:=H9 (qZ l.o.own l.o.res l.o.below n);have HI3:=H9 d.nP;obtain⟨y,z,rfl,i⟩:=d.nP.lit (by simp[oH]);have l0:a.cell? ⟨y,z,U⟩=M (V m):=i 0 _ rfl;have l1:a.cell? ⟨y,z+1,U⟩=M (V g):=i 1 _ rfl;have l2:a.cell? ⟨y,z+2,U⟩=M (V t):=i 2 _ rfl;have hc3:=d.nP.1;clear d n i;have r0:a.cell? ⟨w.heap.size,0,U⟩=M (V ⟨#[]⟩):=fJ a w.heap.size 0 _ _ _ c.o.1;have f0:a.frozen? ⟨w.heap.size,0,U⟩=F:=fK a w.heap.size 0 _ _ c.o.1;have r1:a.cell? ⟨w.heap.size,1,U⟩=M (V ⟨#[]⟩):=fJ a w.heap.size 1 _ _ _ c.o.1;have f1:a.frozen? ⟨w.heap.size,1,U⟩=F:=fK a w.heap.size 1 _ _ c.o.1;have r2:a.cell? ⟨w.heap.size,2,U⟩=M (I J 0):=fJ a w.heap.size 2 _ _ _ c.o.1;have f2:a.frozen? ⟨w.heap.size,2,U⟩=F:=fK a w.heap.size 2 _ _ c.o.1;have r3:a.cell? ⟨w.heap.size,3,U⟩=M (Z U 0 0):=fJ a w.heap.size 3 _ _ _ c.o.1;have f3:a.frozen? ⟨w.heap.size,3,U⟩=F:=fK a w.heap.size 3 _ _ c.o.1;have r4:a.cell? ⟨w.heap.size,4,U⟩=M (I J 0):=fJ a w.heap.size 4 _ _ _ c.o.1;have f4:a.frozen? ⟨w.heap.size,4,U⟩=F:=fK a w.heap.size 4 _ _ c.o.1)
            refine(tC.o _).mono ?_;rintro e w4 ⟨rfl,hw⟩;subst hw;clear tC;go_wp2;refine gq (v:=.tuple #[.agg #[V ⟨#[]⟩,V ⟨#[]⟩,I J 0,Z U 0 0,I J 0],I J 5]) (by simp[results,results43,go_sem,r0,r1,r2,r3,r4]) rfl ⟨by rw[C.o];rfl,?_⟩;exact((((c.o.2.setCell (aL _) _).setCell (aL _) _).setCell (aL _) _).setCell (aL _) _).setCell (aL _) _
    . have C:Hid (Rq.first s.data.toList=.inl 5):=by
       unfold Hid Rq.first;rw[Cq.o];split
       . rename_i e;have:=bD List.length e;simp at this;omega
       . rfl
      have t3:((T.length:Int)+1 != 3)=true:=by rw[cO];omega
      clear Cq;go_wp2_with (at_builtin;refine gQ rfl (.tmp 29) (.tmp 31) 134 rfl (w.heap.size+1) 9 i0 (V ⟨#[]⟩) 1 16 underlying134 Hi.o kJ.o kG.o kK.o rfl (by decide) rfl (l.o.own.alloc _) rfl (jm.made _ _ 1 _ _) rfl (fun u B=>by simp at B;subst B;rfl) (by omega) (by omega) (by have:=l.o.lt;simp;omega) ?_;intro jP gW a d n _;have oC:=H9 d;have c:=H9 (qZ l.o.own l.o.res l.o.below n);clear d n;have r0:a.cell? ⟨w.heap.size,0,U⟩=M (V ⟨#[]⟩):=fJ a w.heap.size 0 _ _ _ c.o.1;have f0:a.frozen? ⟨w.heap.size,0,U⟩=F:=fK a w.heap.size 0 _ _ c.o.1;have r1:a.cell? ⟨w.heap.size,1,U⟩=M (V ⟨#[]⟩):=fJ a w.heap.size 1 _ _ _ c.o.1;have f1:a.frozen? ⟨w.heap.size,1,U⟩=F:=fK a w.heap.size 1 _ _ c.o.1;have r2:a.cell? ⟨w.heap.size,2,U⟩=M (I J 0):=fJ a w.heap.size 2 _ _ _ c.o.1;have f2:a.frozen? ⟨w.heap.size,2,U⟩=F:=fK a w.heap.size 2 _ _ c.o.1;have r3:a.cell? ⟨w.heap.size,3,U⟩=M (Z U 0 0):=fJ a w.heap.size 3 _ _ _ c.o.1;have f3:a.frozen? ⟨w.heap.size,3,U⟩=F:=fK a w.heap.size 3 _ _ c.o.1;have r4:a.cell? ⟨w.heap.size,4,U⟩=M (I J 0):=fJ a w.heap.size 4 _ _ _ c.o.1;have f4:a.frozen? ⟨w.heap.size,4,U⟩=F:=fK a w.heap.size 4 _ _ c.o.1)
      refine gq (v:=.tuple #[.agg #[V ⟨#[]⟩,V ⟨#[]⟩,I J 0,Z U 0 0,I J 0],I J 5]) (by simp[results,results43,go_sem,r0,r1,r2,r3,r4]) rfl ⟨by rw[C.o];rfl,?_⟩;exact((((c.o.2.setCell (aL _) _).setCell (aL _) _).setCell (aL _) _).setCell (aL _) _).setCell (aL _) _
end Go.Proofs.YtjmndjmhjleabaaGreatDoor