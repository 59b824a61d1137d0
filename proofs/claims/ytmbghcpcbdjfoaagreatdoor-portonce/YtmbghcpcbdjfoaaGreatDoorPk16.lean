import Derived.Test.YtmbghcpcbdjfoaaGreatDoorPk15
import Derived.Deep.RegionHeld3
import Derived.Test.YtmbghcpcbdjfoaaGreatDoorPk5
open Go.Value renaming int->I,string->V,slice->Z
open Go.IntKind renaming i64->J
open Go.Obj renaming cells->K
open Go.Ending renaming returned->Y
open Option renaming none->U,some->M
open Bool renaming false->F
open Go renaming World->X
set_option maxHeartbeats 4000000
set_option maxRecDepth 100000
open Go.Proofs.Tryz
namespace Go.Proofs.YtmbghcpcbdjfoaaGreatDoor
open Go.RowKit
theorem Nd (s:ag)(w:X)(hs:s.size<=1000000):
 Calls prog 53 #[V s] w fun e w'=>e=Y (qT (aP s.data.toList))∧Below w.heap.size w w':=by
 obtain⟨z,B,T,a,C,i⟩:=zK (P:=prog) (w.alloc (K #[V ⟨#[]⟩,V ⟨#[]⟩] 128)) s 9 31 5 underlying9 underlying31 underlying5;have e0:(w.alloc (K #[V ⟨#[]⟩,V ⟨#[]⟩] 128)).heap.size=w.heap.size+1:=by simp
 rw[e0] at T a C i;have j:=(a.cell (p:=⟨w.heap.size,0,U⟩) (by simp)).trans (World.cell?_alloc_mark w _ _ _ 0);have l:=(a.cell (p:=⟨w.heap.size,1,U⟩) (by simp)).trans (World.cell?_alloc_mark w _ _ _ 1);have f0:=(a.frozen (p:=⟨w.heap.size,0,U⟩) (by simp)).trans (World.frozen?_alloc_mark w _ _ _ _ 0);have f1:B.frozen? ⟨w.heap.size,1,U⟩=F:=(a.frozen (p:=⟨w.heap.size,1,U⟩) (by simp)).trans (World.frozen?_alloc_mark w _ _ _ _ 1);have m:Below w.heap.size w B:=((aq _ _).alloc (ak _) _).trans (a.mono (by omega));go_enter func53,ntmps53;go_wp2_with fail;refine(FI B _ z s.size s.data.toList ⟨#[58]⟩ i (by rw[cy];rfl) (by decide) hs).mono ?_;rintro e w2 ⟨r,rfl,f,b⟩;subst b;have D:s.data.toList.length=s.size:=by rw[cy];rfl
 clear  T;rcases FJ f with ⟨G,n⟩ | ⟨G,n⟩
 . subst G;have c:Hid (aP s.data.toList=gd 5):=by unfold Hid aP;rw[if_pos n]
   clear n D f;go_wp2;refine aR (v:=.tuple #[.agg #[V ⟨#[]⟩,V ⟨#[]⟩],I J 5]) (by simp[results,results53,go_sem,j,l]) rfl ⟨by rw[c.o];rfl,?_⟩;exact(m.setCell (ak _) _).setCell (ak _) _
 . subst G;have H:bg 58 s.data.toList<=s.data.toList.length:=DE _ _;have hke:=aP s.data.toList;have d:aP s.data.toList=if cT (s.data.toList.take (bg 58 s.data.toList))=F then gd 6 else if 40<bg 58 s.data.toList then gd 4 else if cF (s.data.toList.drop (bg 58 s.data.toList+1))=F then gd 3
    else ⟨s.data.toList.take (bg 58 s.data.toList),Lib.trimS (s.data.toList.drop (bg 58 s.data.toList+1)) aX,0⟩:=by
    conv=>lhs;unfold aP
    rw[if_neg (by omega)]
   rw[D] at n;clear H D f;generalize bg 58 s.data.toList=k at d n;have e1:(s.extract 0 k).data.toList=s.data.toList.take k:=by rw[Lib.extract_data];simp
   have e2:=Lib.extract_to_end s (k+1);rw[<-e1,<-e2] at d;have z1:(s.extract 0 k).size<=maxLen:=by simp[maxLen];omega
   have L:(s.extract (k+1) s.size).size<=maxLen:=by simp[maxLen];omega
   have g:=IS (s.extract 0 k) w2 z1;have u:=MA (s.extract (k+1) s.size) w2 L;have zS:=fun W=>MQ (s.extract (k+1) s.size) W L;clear e1 e2 z1 L;have b1:(k:Int)+1<=s.size:=by omega
   have b2:(k:Int)<=s.size:=by omega
   cases x:cT (s.extract 0 k).data.toList
   . rw[x] at g;have c:aP s.data.toList=gd 6:=by have:=d;rw[if_pos x] at this;exact this
     go_wp2_with fail;refine g.mono ?_;rintro e q ⟨rfl,b⟩;subst b;go_wp2;refine aR (v:=.tuple #[.agg #[V ⟨#[]⟩,V ⟨#[]⟩],I J 6]) (by simp[results,results53,go_sem,j,l]) rfl ⟨by rw[c];rfl,?_⟩;exact(m.setCell (ak _) _).setCell (ak _) _
   . rw[x] at g;have N:=d;rw[if_neg (by rw[x];simp)] at N;by_cases t:40<k
     . have c:aP s.data.toList=gd 4:=by have:=N;rw[if_pos t] at this;exact this
       go_wp2_with fail;refine g.mono ?_;rintro e q ⟨rfl,b⟩;subst b;go_wp2;refine aR (v:=.tuple #[.agg #[V ⟨#[]⟩,V ⟨#[]⟩],I J 4]) (by simp[results,results53,go_sem,j,l]) rfl ⟨by rw[c];rfl,?_⟩;exact(m.setCell (ak _) _).setCell (ak _) _
     . have S:=N;rw[if_neg t] at S;have t40:decide ((k:Int) > 40)=F:=by rw[cz];omega
       cases y:cF (s.extract (k+1) s.size).data.toList
       . rw[y] at u;have c:aP s.data.toList=gd 3:=by have:=S;rw[if_pos y] at this;exact this
         go_wp2_with fail;refine g.mono ?_;rintro e q ⟨rfl,b⟩;subst b;go_wp2_with fail;refine u.mono ?_;rintro e q ⟨rfl,b⟩;subst b;go_wp2;refine aR (v:=.tuple #[.agg #[V ⟨#[]⟩,V ⟨#[]⟩],I J 3]) (by simp[results,results53,go_sem,j,l]) rfl ⟨by rw[c];rfl,?_⟩;exact(m.setCell (ak _) _).setCell (ak _) _
       . rw[y] at u;have h3:=S;rw[if_neg (by rw[y];simp)] at h3;have c:=aa h3;have HN:(s.extract 0 k)=⟨(s.extract 0 k).data.toList.toArray⟩:=by rfl
         generalize (Lib.trimS (s.extract (k+1) s.size).data.toList aX)=tv at zS c;have b3:IntKind.i64.wrap ((k:Int)+1)=(k:Int)+1:=iY (by omega) (by omega);have b4:(0:Int)<=(k:Int)+1:=by omega
         have b5:((k:Int)+1).toNat=k+1:=by omega
         go_wp2_with fail;refine g.mono ?_;rintro e q ⟨rfl,b⟩;subst b;go_wp2_with fail;refine u.mono ?_;rintro e q ⟨rfl,b⟩;subst b;go_wp2;go_region_held3 (fun _=>True) (trivial) (first | (go_at_call 94;refine(zS _).mono ?_;rintro e w4 ⟨rfl,rfl⟩))
         all_goals
          go_wp2;refine aR (v:=.tuple #[.agg #[V (s.extract 0 k),V ⟨tv.toArray⟩],I J 0]) (by simp[results,results53,go_sem,j,l]) rfl ⟨by rw[c.o];rfl,?_⟩;exact((m.trans (bA _ _)).setCell (ak _) _).setCell (ak _) _
def ys (w:X)(b:ae)(e:Ending)(w':X):Prop:=∃ao ca,e=Y (.tuple #[Z ao (eU b).b.length ca,I J ((eU b).a:Int),.bool (eU b).d,I J ((eU b).c:Int)])∧bC w' w.heap.size 5 ao ca (eU b).b∧Below w.heap.size w w'
section
variable {w:X} {b:ae} {bb oo cap:Nat} (hb:ay w (M ⟨bb,oo,U⟩) cap b) (h9:b.length<=20000)
include hb h9
theorem S3 (k n c:Nat)(ao:ai)(a:k<=b.length)(d:n=b.length-k)(f:c=cap-k)(ha:cap≠k->ao=M ⟨bb,oo+k,U⟩)(W:X)(g:Below w.heap.size w W):
 Calls prog 51 #[Z ao n c] W fun e w'=>e=Y (.tuple #[V ⟨(aw (b.drop k)).b.toArray⟩,I J ((aw (b.drop k)).a:Int),.bool (aw (b.drop k)).d,I J ((aw (b.drop k)).c:Int)])∧w'=W:=by
 subst d;subst f;have hcut:=(hb.a g).f (gQ:=ao) k b.length a (ak _) (fun e=>by rw[ha e];simp[Addr.add_lit]);rw[show(b.drop k).take (b.length-k)=b.drop k by rw[jy];rw[bV];omega] at hcut;exact Eo (b.drop k) ao (cap-k) (b.length-k) W hcut (by rw[bV]) (by omega)
end
theorem FK (ao:ai)(c:Nat)(h:ao=U->c=0)(W:X):
 Calls prog 51 #[Z ao 0 c] W fun e w'=>e=Y (.tuple #[V ⟨#[]⟩,I J 0,.bool F,I J 0])∧w'=W :=
 Eo [] ao c 0 W ⟨ax _,h,fun j a=>by cases a⟩ rfl (by omega)
theorem PU:∀(l w:ae),((gB w l).map List.length).sum<=w.length+l.length:=by intro l;induction l <;> grind [gB]
def BE:Nat ⊕ cf->Value
 | .inl c=>.tuple #[.agg #[V ⟨#[]⟩,V ⟨#[]⟩,I J 0,Z U 0 0,I J 0],I J (c:Int)]
 | .inr h=>.tuple #[.agg #[V ⟨h.c.toArray⟩,V ⟨h.b.toArray⟩,I J (h.e:Int),Z U 0 0,I J 0],I J 0]
structure Iq (w:X)(s:ag)(k:Nat)(ps:List ag)(wd:ag)(ao:ai)(cap:Nat)(wr:X):Prop where
 a:aG wr (w.heap.size+1) 9 1 ao cap ps.length (fH ps)
 b:wr.heap[w.heap.size]? = M (K #[V ⟨#[]⟩,V ⟨#[]⟩,I J 0,Z U 0 0,I J 0] 82 (0,0))
 c:gB [] s.data.toList=ps.map (fun x=>x.data.toList)++gB wd.data.toList (s.data.toList.drop k)
 f:wd.size<=k
 e:ps.length<=k
 below:Below w.heap.size w wr
theorem Iq.d {w:X}{s:ag}{k:Nat}{a:List ag}{wd:ag}{ao:ai}{cap:Nat}{wr:X}(h:Iq w s k a wd ao cap wr):w.heap.size+1<=wr.heap.size:=(bH.1 h.b).1
theorem ul {w wr d:X}{i:List ag}{ao:ai}{cap:Nat}{o:Obj}{row:Obj}(k:aG wr (w.heap.size+1) 9 1 ao cap i.length (fH i))(b:wr.heap[w.heap.size]? = M row)(f:Below w.heap.size w wr)
 (j:(wr.alloc o).grownBy d (au ao)):d.heap[w.heap.size]? = M row∧Below w.heap.size w d:=by
 have g:=(bH.1 b).1;have c:∀a,ao=M a->w.heap.size+1<=a.block:=fun a e=>(k.d a e).1;refine⟨?_,?_⟩
 . have l:=j.block w.heap.size (by simp;omega) (fun e=>by
    cases ao with
    | none=>cases e
    | some a=>injection e with e;have:=c a rfl;omega)
   rw[l,(qv wr o U).block w.heap.size g (by simp)];exact b
 . exact(f.alloc f.size o).grown j (by have:=f.size;simp;omega) (fun q e=>by
    cases ao with
    | none=>simp[au] at e
    | some y=>simp only[au,iV] at e;have:=c y rfl;omega)
theorem LQ (s:ag)(w:X)(hs:s.size<=9000):
 Calls prog 52 #[V s] w fun e w'=>e=Y (BE (dw s.data.toList))∧Below w.heap.size w w':=by
 obtain⟨i0,hi0,hz0,hz1,hz2⟩:=info_parts zZ;have Hi:=aa hi0;have kT:=aa hz0;have kL:=aa hz1;have kU:=aa hz2
 have HLen:Hid (s.data.toList.length=s.size):=by unfold Hid;rw[cy];rfl
 go_enter func52,ntmps52;go_wp2;go_loopw [4,5,6] (fun vl vw vi wr=>∃(k:Nat) (ps:List ag) (q:ag) (ao:ai) (cap:Nat),k<=s.size∧vi=I J k∧vw=V q∧vl=Z ao ps.length cap∧Iq w s k ps q ao cap wr) (fun _ _ vi _=>s.size-(intOf vi).toNat)
 case atStart=>exact⟨0,[],⟨#[]⟩,U,0,ax _,rfl,rfl,rfl,⟨aG.f _ _ _ _,bw w _,rfl,ak _,ak _,(aq _ _).alloc (ak _) _⟩⟩
 case round =>
  obtain⟨k,ps,q,ao,cap,hk,rfl,rfl,rfl,hR⟩:=hrel;have i:=aa hR;have hw1:=hR.f;have hp1:=hR.e;by_cases hlt:k<s.size
  . have hlt':(k:Int)<s.size:=by omega
    have hdr:s.data.toList.drop k=s[k]::s.data.toList.drop (k+1):=by
     rw[gS (show k<s.data.toList.length by rw[HLen.o];exact hlt)];congr 1
    have HDr:=aa hdr;by_cases h32:s[k]=32
    . have t32:((s[k].toNat:Int)==32)=true:=by rw[h32];rfl
      have Bu:Hid (gB [] s.data.toList=(ps++[q]).map (fun x=>x.data.toList)++gB (⟨#[]⟩:ag).data.toList (s.data.toList.drop (k+1))):=by
       unfold Hid;rw[i.o.c,HDr.o,h32,gB,if_pos rfl];simp
      go_wp2_with (at_builtin;refine fE rfl (.tmp 18) (.tmp 20) 155 rfl (w.heap.size+1) 9 i0 (V ⟨#[]⟩) 1 16 underlying155 Hi.o kT.o kL.o kU.o rfl (by decide) rfl (i.o.a.q _) rfl (bx.d _ _ 1 _ _) rfl (fun u y=>by simp at y;subst y;rfl) (by omega) (by omega) (by have:=i.o.d;simp;omega) ?_;intro lu iq a d l _;have sG:=aa d;have c:=aa (ul i.o.a i.o.b i.o.below l);clear d l)
      go_roundw
      case rel=>exact⟨k+1,ps++[q],⟨#[]⟩,lu,iq,by omega,by go_num,rfl,by rw[aF];rfl,⟨by rw[aF,Cv];exact sG.o,c.o.1,Bu.o,ax _,by rw[aF];simp;omega,c.o.2⟩⟩
      case measure=>simp[intOf];omega
    . have t32:((s[k].toNat:Int)==32)=F:=mn h32;have hx:=CZ s k hlt;have Bu:Hid (gB [] s.data.toList=ps.map (fun x=>x.data.toList)++gB (q++s.extract k (k+1)).data.toList (s.data.toList.drop (k+1))):=by
       unfold Hid;rw[i.o.c,HDr.o,gB,if_neg h32,my,hx]
      have hz:(s.extract k (k+1)).size=1:=by simp;omega
      have HZ:Hid ((q++s.extract k (k+1)).size<=k+1):=by unfold Hid;rw[mj,hz];omega
      go_wp2;go_roundw
      case rel=>exact⟨k+1,ps,q++s.extract k (k+1),ao,cap,by omega,by go_num,rfl,rfl,⟨i.o.a,i.o.b,Bu.o,HZ.o,by omega,i.o.below⟩⟩
      case measure=>simp[intOf];omega
  . obtain rfl:k=s.size:=by omega
    have Bu:Hid (gB [] s.data.toList=(ps++[q]).map (fun x=>x.data.toList)):=by
     unfold Hid;have:=i.o.c;rw[lz (by rw[HLen.o];exact ak _),gB] at this;rw[this];simp
    by_cases h3:ps.length=2
    . obtain⟨m,g,rfl⟩:∃m g,ps=[m,g]:=by
       match ps,h3 with
       | [m,g],_=>exact⟨m,g,rfl⟩
      have hF:dw s.data.toList=(if cT m.data.toList=F then .inl 6 else if g.data.toList.head?≠M 47∨9∈g.data.toList then .inl 5 else if q.data.toList=[72,84,84,80,47,49,46,49] then .inr ⟨m.data.toList,g.data.toList,1,[],0⟩ else if q.data.toList=[72,84,84,80,47,49,46,48] then .inr ⟨m.data.toList,g.data.toList,0,[],0⟩ else .inl 11):=by
       unfold dw;rw[Bu.o];rfl
      have HF:=aa hF;have Vk:=Bu;clear hF Bu h3;have hmz:m.size<=9000∧g.size<=9000∧q.size<=9000:=by
       have hsum:=PU s.data.toList [];rw[Vk.o,ep] at hsum;simp at hsum;omega
      have qw:=aa (fun W=>IS m W (by unfold maxLen;omega));cases G:cT m.data.toList
      . rw[G] at qw;have D:Hid (dw s.data.toList=.inl 6):=by have:=HF.o;rw[if_pos G] at this;exact this
        clear HF G;go_wp2_with (at_builtin;refine fE rfl (.tmp 29) (.tmp 31) 155 rfl (w.heap.size+1) 9 i0 (V ⟨#[]⟩) 1 16 underlying155 Hi.o kT.o kL.o kU.o rfl (by decide) rfl (i.o.a.q _) rfl (bx.d _ _ 1 _ _) rfl (fun u y=>by simp at y;subst y;rfl) (by simp) (by simp) (by have:=i.o.d;simp;omega) ?_;intro lu iq a d l _;have c:=aa (ul i.o.a i.o.b i.o.below l);have HI3:=aa d.a;obtain⟨z,B,rfl,f⟩:=d.a.e (by simp[fH]);have l0:a.cell? ⟨z,B,U⟩=M (V m):=f 0 _ rfl;have l1:a.cell? ⟨z,B+1,U⟩=M (V g):=f 1 _ rfl;have l2:a.cell? ⟨z,B+2,U⟩=M (V q):=f 2 _ rfl;have hc3:=d.a.1;clear d l f;have r0:a.cell? ⟨w.heap.size,0,U⟩=M (V ⟨#[]⟩):=am a w.heap.size 0 _ _ _ c.o.1;have f0:a.frozen? ⟨w.heap.size,0,U⟩=F:=aD a w.heap.size 0 _ _ c.o.1;have r1:a.cell? ⟨w.heap.size,1,U⟩=M (V ⟨#[]⟩):=am a w.heap.size 1 _ _ _ c.o.1;have f1:a.frozen? ⟨w.heap.size,1,U⟩=F:=aD a w.heap.size 1 _ _ c.o.1;have r2:a.cell? ⟨w.heap.size,2,U⟩=M (I J 0):=am a w.heap.size 2 _ _ _ c.o.1;have f2:a.frozen? ⟨w.heap.size,2,U⟩=F:=aD a w.heap.size 2 _ _ c.o.1;have r3:a.cell? ⟨w.heap.size,3,U⟩=M (Z U 0 0):=am a w.heap.size 3 _ _ _ c.o.1;have f3:a.frozen? ⟨w.heap.size,3,U⟩=F:=aD a w.heap.size 3 _ _ c.o.1;have r4:a.cell? ⟨w.heap.size,4,U⟩=M (I J 0):=am a w.heap.size 4 _ _ _ c.o.1;have f4:a.frozen? ⟨w.heap.size,4,U⟩=F:=aD a w.heap.size 4 _ _ c.o.1)
        refine(qw.o _).mono ?_;rintro e w4 ⟨rfl,hw⟩;subst hw;clear qw;go_wp2;refine aR (v:=.tuple #[.agg #[V ⟨#[]⟩,V ⟨#[]⟩,I J 0,Z U 0 0,I J 0],I J 6]) (by simp[results,results52,go_sem,r0,r1,r2,r3,r4]) rfl ⟨by rw[D.o];rfl,?_⟩;exact((((c.o.2.setCell (ak _) _).setCell (ak _) _).setCell (ak _) _).setCell (ak _) _).setCell (ak _) _
      . rw[G] at qw;have hF5:=HF.o;rw[if_neg (by rw[G];simp)] at hF5;have H:=aa hF5;clear HF hF5 G;by_cases hg0:g.size=0
        . have tg0:((g.size:Int)==0)=true:=by rw[cM];omega
          have D:Hid (dw s.data.toList=.inl 5):=by
           have:=H.o;rw[if_pos (Or.inl (by rw[nh g hg0];simp))] at this;exact this
          clear H hg0;go_wp2_with (at_builtin;refine fE rfl (.tmp 29) (.tmp 31) 155 rfl (w.heap.size+1) 9 i0 (V ⟨#[]⟩) 1 16 underlying155 Hi.o kT.o kL.o kU.o rfl (by decide) rfl (i.o.a.q _) rfl (bx.d _ _ 1 _ _) rfl (fun u y=>by simp at y;subst y;rfl) (by simp) (by simp) (by have:=i.o.d;simp;omega) ?_;intro lu iq a d l _;have c:=aa (ul i.o.a i.o.b i.o.below l);have HI3:=aa d.a;obtain⟨z,B,rfl,f⟩:=d.a.e (by simp[fH]);have l0:a.cell? ⟨z,B,U⟩=M (V m):=f 0 _ rfl;have l1:a.cell? ⟨z,B+1,U⟩=M (V g):=f 1 _ rfl;have l2:a.cell? ⟨z,B+2,U⟩=M (V q):=f 2 _ rfl;have hc3:=d.a.1;clear d l f;have r0:a.cell? ⟨w.heap.size,0,U⟩=M (V ⟨#[]⟩):=am a w.heap.size 0 _ _ _ c.o.1;have f0:a.frozen? ⟨w.heap.size,0,U⟩=F:=aD a w.heap.size 0 _ _ c.o.1;have r1:a.cell? ⟨w.heap.size,1,U⟩=M (V ⟨#[]⟩):=am a w.heap.size 1 _ _ _ c.o.1;have f1:a.frozen? ⟨w.heap.size,1,U⟩=F:=aD a w.heap.size 1 _ _ c.o.1;have r2:a.cell? ⟨w.heap.size,2,U⟩=M (I J 0):=am a w.heap.size 2 _ _ _ c.o.1;have f2:a.frozen? ⟨w.heap.size,2,U⟩=F:=aD a w.heap.size 2 _ _ c.o.1;have r3:a.cell? ⟨w.heap.size,3,U⟩=M (Z U 0 0):=am a w.heap.size 3 _ _ _ c.o.1;have f3:a.frozen? ⟨w.heap.size,3,U⟩=F:=aD a w.heap.size 3 _ _ c.o.1;have r4:a.cell? ⟨w.heap.size,4,U⟩=M (I J 0):=am a w.heap.size 4 _ _ _ c.o.1;have f4:a.frozen? ⟨w.heap.size,4,U⟩=F:=aD a w.heap.size 4 _ _ c.o.1)
          refine(qw.o _).mono ?_;rintro e w4 ⟨rfl,hw⟩;subst hw;clear qw;go_wp2;refine aR (v:=.tuple #[.agg #[V ⟨#[]⟩,V ⟨#[]⟩,I J 0,Z U 0 0,I J 0],I J 5]) (by simp[results,results52,go_sem,r0,r1,r2,r3,r4]) rfl ⟨by rw[D.o];rfl,?_⟩;exact((((c.o.2.setCell (ak _) _).setCell (ak _) _).setCell (ak _) _).setCell (ak _) _).setCell (ak _) _
        . have hgp:0<g.size:=by omega
          have tg0:((g.size:Int)==0)=F:=by rw[aO];omega
          have hgh:g.data.toList.head? = M g[0]:=by
           rw[List.head?_eq_getElem?,gU (by rw[ep];exact hgp)];rfl
          by_cases L:g[0]=47
          . have t47:((g[0].toNat:Int) != 47)=F:=by rw[L];rfl
            have hF9:∀b,(decide (9∈g.data.toList)=b)->dw s.data.toList=if b=true then .inl 5 else if q.data.toList=[72,84,84,80,47,49,46,49] then .inr ⟨m.data.toList,g.data.toList,1,[],0⟩ else if q.data.toList=[72,84,84,80,47,49,46,48] then .inr ⟨m.data.toList,g.data.toList,0,[],0⟩ else .inl 11:=by
             intro b hb;have:=H.o;rw[hgh,L] at this;rw[this,<-hb];by_cases h9:9∈g.data.toList
             . simp[h9]
             . simp[h9]
            have HF9:=aa hF9;clear hF9 H hgh L;go_wp2_with (at_builtin;refine fE rfl (.tmp 29) (.tmp 31) 155 rfl (w.heap.size+1) 9 i0 (V ⟨#[]⟩) 1 16 underlying155 Hi.o kT.o kL.o kU.o rfl (by decide) rfl (i.o.a.q _) rfl (bx.d _ _ 1 _ _) rfl (fun u y=>by simp at y;subst y;rfl) (by simp) (by simp) (by have:=i.o.d;simp;omega) ?_;intro lu iq a d l _;have c:=aa (ul i.o.a i.o.b i.o.below l);have HI3:=aa d.a;obtain⟨z,B,rfl,f⟩:=d.a.e (by simp[fH]);have l0:a.cell? ⟨z,B,U⟩=M (V m):=f 0 _ rfl;have l1:a.cell? ⟨z,B+1,U⟩=M (V g):=f 1 _ rfl;have l2:a.cell? ⟨z,B+2,U⟩=M (V q):=f 2 _ rfl;have hc3:=d.a.1;clear d l f;have r0:a.cell? ⟨w.heap.size,0,U⟩=M (V ⟨#[]⟩):=am a w.heap.size 0 _ _ _ c.o.1;have f0:a.frozen? ⟨w.heap.size,0,U⟩=F:=aD a w.heap.size 0 _ _ c.o.1;have r1:a.cell? ⟨w.heap.size,1,U⟩=M (V ⟨#[]⟩):=am a w.heap.size 1 _ _ _ c.o.1;have f1:a.frozen? ⟨w.heap.size,1,U⟩=F:=aD a w.heap.size 1 _ _ c.o.1;have r2:a.cell? ⟨w.heap.size,2,U⟩=M (I J 0):=am a w.heap.size 2 _ _ _ c.o.1;have f2:a.frozen? ⟨w.heap.size,2,U⟩=F:=aD a w.heap.size 2 _ _ c.o.1;have r3:a.cell? ⟨w.heap.size,3,U⟩=M (Z U 0 0):=am a w.heap.size 3 _ _ _ c.o.1;have f3:a.frozen? ⟨w.heap.size,3,U⟩=F:=aD a w.heap.size 3 _ _ c.o.1;have r4:a.cell? ⟨w.heap.size,4,U⟩=M (I J 0):=am a w.heap.size 4 _ _ _ c.o.1;have f4:a.frozen? ⟨w.heap.size,4,U⟩=F:=aD a w.heap.size 4 _ _ c.o.1)
            refine(qw.o _).mono ?_;rintro e w4 ⟨rfl,hw⟩;subst hw;clear qw;obtain⟨amh,wq,hq,hBq,hzq,hIq⟩:=zK (P:=prog) w4 g 9 31 5 underlying9 underlying31 underlying5;have HBq:=aa (ar c.o.2 hBq);have HB3:=aa hBq
            go_wp2_with fail;refine(FI wq _ amh g.size _ ⟨#[9]⟩ hIq (by rw[ep]) (by decide) (by omega)).mono ?_;rintro e n ⟨r,rfl,hfi,hw⟩;subst hw;have N:Hid (n.heap[w.heap.size]? = M (K #[V ⟨#[]⟩,V ⟨#[]⟩,I J 0,Z U 0 0,I J 0] 82 (0,0))):=(HB3.o.block w.heap.size (bH.1 c.o.1).1).trans c.o.1;have q0:=am n w.heap.size 0 _ _ _ N.o;have p0:=aD n w.heap.size 0 _ _ N.o;have q1:=am n w.heap.size 1 _ _ _ N.o;have p1:=aD n w.heap.size 1 _ _ N.o;have q2:=am n w.heap.size 2 _ _ _ N.o;have p2:=aD n w.heap.size 2 _ _ N.o;have q3:=am n w.heap.size 3 _ _ _ N.o;have p3:=aD n w.heap.size 3 _ _ N.o;have q4:=am n w.heap.size 4 _ _ _ N.o;have p4:=aD n w.heap.size 4 _ _ N.o;have k0:=(HB3.o.cell (bI _ _ l0)).trans l0;have k1:=(HB3.o.cell (bI _ _ l1)).trans l1;have k2:=(HB3.o.cell (bI _ _ l2)).trans l2;clear r0 r1 r2 r3 r4 f0 f1 f2 f3 f4 l0 l1 l2 hq hBq hzq hIq;rcases FJ hfi with ⟨hr,hk⟩ | ⟨hr,hk⟩
            . subst hr;have Vj:=aa (HF9.o F (by rw[cz];intro h9;obtain⟨j,hj,e⟩:=List.getElem_of_mem h9;exact zQ (by rw[hk];exact hj) hj e));rw[if_neg (by simp)] at Vj;clear HF9 hfi hk;go_wp2;go_region_held3 (fun w'=>w'.cell? ⟨z,B,U⟩=M (V m)∧w'.cell? ⟨z,B+1,U⟩=M (V g)) (go_keep) (fail)
              have Zv:Below n.heap.size n (n.alloc (K #[V m,V g,I J 0,Z U 0 0,I J 0] 82)).drew:=((aq _ _).alloc (ak _) _).trans (bA _ _);have hH6:(n.alloc (K #[V m,V g,I J 0,Z U 0 0,I J 0] 82)).drew.heap[n.heap.size]? = M (K #[V m,V g,I J 0,Z U 0 0,I J 0] 82):=bw n _;have wB:=aa Zv;have S:=aa hH6
              generalize (n.alloc (K #[V m,V g,I J 0,Z U 0 0,I J 0] 82)).drew=C at *;clear Zv hH6;have t:=aa ((wB.o.block w.heap.size (bH.1 N.o).1).trans N.o);have k6:=(wB.o.cell (bI _ _ k2)).trans k2;have a0:=am C w.heap.size 0 _ _ _ t.o;have b0:=aD C w.heap.size 0 _ _ t.o;have a1:=am C w.heap.size 1 _ _ _ t.o;have b1:=aD C w.heap.size 1 _ _ t.o;have a2:=am C w.heap.size 2 _ _ _ t.o;have b2:=aD C w.heap.size 2 _ _ t.o;have a3:=am C w.heap.size 3 _ _ _ t.o;have b3:=aD C w.heap.size 3 _ _ t.o;have a4:=am C w.heap.size 4 _ _ _ t.o;have b4:=aD C w.heap.size 4 _ _ t.o;have c0:=am C n.heap.size 0 _ _ _ S.o;have c1:=am C n.heap.size 1 _ _ _ S.o;have c2:=am C n.heap.size 2 _ _ _ S.o;have c3:=am C n.heap.size 3 _ _ _ S.o;have c4:=am C n.heap.size 4 _ _ _ S.o;have d2:=aD C n.heap.size 2 _ _ S.o;have hne:w.heap.size≠n.heap.size:=by have:=(bH.1 N.o).1;omega
              have hne':¬n.heap.size=w.heap.size:=fun e=>hne e.symm;have Ht:=aa (ar HBq.o wB.o);have amj:=HBq.o.size
              clear q0 q1 q2 q3 q4 p0 p1 p2 p3 p4 k0 k1 k2;generalize n.heap.size=hb at *;by_cases h11:q.data.toList=[72,84,84,80,47,49,46,49]
              . have D:Hid (dw s.data.toList=.inr ⟨m.data.toList,g.data.toList,1,[],0⟩):=by have:=Vj.o;rw[if_pos h11] at this;exact this
                obtain rfl:q=⟨#[72,84,84,80,47,49,46,49]⟩:=pB h11;clear Vj h11;go_wp2;refine aR (v:=.tuple #[.agg #[V m,V g,I J 1,Z U 0 0,I J 0],I J 0]) (by simp[results,results52,go_sem,a0,a1,a2,a3,a4]) rfl ⟨by rw[D.o];rfl,?_⟩;exact(((((Ht.o.setCell (p:=⟨hb,2,U⟩) amj _).setCell (ak _) _).setCell (ak _) _).setCell (ak _) _).setCell (ak _) _).setCell (ak _) _
              . have t11:(q.toList==[72,84,84,80,47,49,46,49])=F:=by rw[aO,Lib.toList_data];exact h11
                by_cases T:q.data.toList=[72,84,84,80,47,49,46,48]
                . have D:Hid (dw s.data.toList=.inr ⟨m.data.toList,g.data.toList,0,[],0⟩):=by have:=Vj.o;rw[if_neg h11,if_pos T] at this;exact this
                  obtain rfl:q=⟨#[72,84,84,80,47,49,46,48]⟩:=pB T;clear Vj h11 T t11;go_wp2;refine aR (v:=.tuple #[.agg #[V m,V g,I J 0,Z U 0 0,I J 0],I J 0]) (by simp[results,results52,go_sem,a0,a1,a2,a3,a4]) rfl ⟨by rw[D.o];rfl,?_⟩;exact((((Ht.o.setCell (ak _) _).setCell (ak _) _).setCell (ak _) _).setCell (ak _) _).setCell (ak _) _
                . have t10:(q.toList==[72,84,84,80,47,49,46,48])=F:=by rw[aO,Lib.toList_data];exact T
                  have D:dw s.data.toList=.inl 11:=by have:=Vj.o;rw[if_neg h11,if_neg T] at this;exact this
                  clear Vj h11 T;go_wp2;refine aR (v:=.tuple #[.agg #[V ⟨#[]⟩,V ⟨#[]⟩,I J 0,Z U 0 0,I J 0],I J 11]) (by simp[results,results52,go_sem,a0,a1,a2,a3,a4]) rfl ⟨by rw[D];rfl,?_⟩;exact((((Ht.o.setCell (ak _) _).setCell (ak _) _).setCell (ak _) _).setCell (ak _) _).setCell (ak _) _
            . have D:dw s.data.toList=.inl 5:=by
               have:=HF9.o true (by rw[bS];have e:=zR hk;rw[<-e];exact dG _);rw[if_pos rfl] at this;exact this
              have tr:decide (r≥0)=true:=aV (by omega);clear HF9 hfi hk hr;go_wp2;refine aR (v:=.tuple #[.agg #[V ⟨#[]⟩,V ⟨#[]⟩,I J 0,Z U 0 0,I J 0],I J 5]) (by simp[results,results52,go_sem,q0,q1,q2,q3,q4]) rfl ⟨by rw[D];rfl,?_⟩;exact((((HBq.o.setCell (ak _) _).setCell (ak _) _).setCell (ak _) _).setCell (ak _) _).setCell (ak _) _
          . have t47:((g[0].toNat:Int) != 47)=true:=xk L;have D:dw s.data.toList=.inl 5:=by have:=H.o;rw[if_pos (Or.inl (by rw[hgh];simpa using L))] at this;exact this
            clear H hgh L;go_wp2_with (at_builtin;refine fE rfl (.tmp 29) (.tmp 31) 155 rfl (w.heap.size+1) 9 i0 (V ⟨#[]⟩) 1 16 underlying155 Hi.o kT.o kL.o kU.o rfl (by decide) rfl (i.o.a.q _) rfl (bx.d _ _ 1 _ _) rfl (fun u y=>by simp at y;subst y;rfl) (by simp) (by simp) (by have:=i.o.d;simp;omega) ?_;intro lu iq a d l _;have c:=aa (ul i.o.a i.o.b i.o.below l);have HI3:=aa d.a;obtain⟨z,B,rfl,f⟩:=d.a.e (by simp[fH]);have l0:a.cell? ⟨z,B,U⟩=M (V m):=f 0 _ rfl;have l1:a.cell? ⟨z,B+1,U⟩=M (V g):=f 1 _ rfl;have l2:a.cell? ⟨z,B+2,U⟩=M (V q):=f 2 _ rfl;have hc3:=d.a.1;clear d l f;have r0:a.cell? ⟨w.heap.size,0,U⟩=M (V ⟨#[]⟩):=am a w.heap.size 0 _ _ _ c.o.1;have f0:a.frozen? ⟨w.heap.size,0,U⟩=F:=aD a w.heap.size 0 _ _ c.o.1;have r1:a.cell? ⟨w.heap.size,1,U⟩=M (V ⟨#[]⟩):=am a w.heap.size 1 _ _ _ c.o.1;have f1:a.frozen? ⟨w.heap.size,1,U⟩=F:=aD a w.heap.size 1 _ _ c.o.1;have r2:a.cell? ⟨w.heap.size,2,U⟩=M (I J 0):=am a w.heap.size 2 _ _ _ c.o.1;have f2:a.frozen? ⟨w.heap.size,2,U⟩=F:=aD a w.heap.size 2 _ _ c.o.1;have r3:a.cell? ⟨w.heap.size,3,U⟩=M (Z U 0 0):=am a w.heap.size 3 _ _ _ c.o.1;have f3:a.frozen? ⟨w.heap.size,3,U⟩=F:=aD a w.heap.size 3 _ _ c.o.1;have r4:a.cell? ⟨w.heap.size,4,U⟩=M (I J 0):=am a w.heap.size 4 _ _ _ c.o.1;have f4:a.frozen? ⟨w.heap.size,4,U⟩=F:=aD a w.heap.size 4 _ _ c.o.1)
            refine(qw.o _).mono ?_;rintro e w4 ⟨rfl,hw⟩;subst hw;clear qw;go_wp2;refine aR (v:=.tuple #[.agg #[V ⟨#[]⟩,V ⟨#[]⟩,I J 0,Z U 0 0,I J 0],I J 5]) (by simp[results,results52,go_sem,r0,r1,r2,r3,r4]) rfl ⟨by rw[D];rfl,?_⟩;exact((((c.o.2.setCell (ak _) _).setCell (ak _) _).setCell (ak _) _).setCell (ak _) _).setCell (ak _) _
    . have D:Hid (dw s.data.toList=.inl 5):=by
       unfold Hid dw;rw[Bu.o];split
       . rename_i e;have:=mg List.length e;simp at this;omega
       . rfl
      have t3:((ps.length:Int)+1 != 3)=true:=by rw[cW];omega
      clear Bu;go_wp2_with (at_builtin;refine fE rfl (.tmp 29) (.tmp 31) 155 rfl (w.heap.size+1) 9 i0 (V ⟨#[]⟩) 1 16 underlying155 Hi.o kT.o kL.o kU.o rfl (by decide) rfl (i.o.a.q _) rfl (bx.d _ _ 1 _ _) rfl (fun u y=>by simp at y;subst y;rfl) (by omega) (by omega) (by have:=i.o.d;simp;omega) ?_;intro lu iq a d l _;have sG:=aa d;have c:=aa (ul i.o.a i.o.b i.o.below l);clear d l;have r0:a.cell? ⟨w.heap.size,0,U⟩=M (V ⟨#[]⟩):=am a w.heap.size 0 _ _ _ c.o.1;have f0:a.frozen? ⟨w.heap.size,0,U⟩=F:=aD a w.heap.size 0 _ _ c.o.1;have r1:a.cell? ⟨w.heap.size,1,U⟩=M (V ⟨#[]⟩):=am a w.heap.size 1 _ _ _ c.o.1;have f1:a.frozen? ⟨w.heap.size,1,U⟩=F:=aD a w.heap.size 1 _ _ c.o.1;have r2:a.cell? ⟨w.heap.size,2,U⟩=M (I J 0):=am a w.heap.size 2 _ _ _ c.o.1;have f2:a.frozen? ⟨w.heap.size,2,U⟩=F:=aD a w.heap.size 2 _ _ c.o.1;have r3:a.cell? ⟨w.heap.size,3,U⟩=M (Z U 0 0):=am a w.heap.size 3 _ _ _ c.o.1;have f3:a.frozen? ⟨w.heap.size,3,U⟩=F:=aD a w.heap.size 3 _ _ c.o.1;have r4:a.cell? ⟨w.heap.size,4,U⟩=M (I J 0):=am a w.heap.size 4 _ _ _ c.o.1;have f4:a.frozen? ⟨w.heap.size,4,U⟩=F:=aD a w.heap.size 4 _ _ c.o.1)
      refine aR (v:=.tuple #[.agg #[V ⟨#[]⟩,V ⟨#[]⟩,I J 0,Z U 0 0,I J 0],I J 5]) (by simp[results,results52,go_sem,r0,r1,r2,r3,r4]) rfl ⟨by rw[D.o];rfl,?_⟩;exact((((c.o.2.setCell (ak _) _).setCell (ak _) _).setCell (ak _) _).setCell (ak _) _).setCell (ak _) _
