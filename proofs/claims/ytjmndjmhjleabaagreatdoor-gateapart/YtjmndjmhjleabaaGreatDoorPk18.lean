/- Small texts, one behind the other: RfField, RfChA, RfFirst. -/
import Derived.Test.YtjmndjmhjleabaaGreatDoorAl
import Derived.Test.YtjmndjmhjleabaaGreatDoorAm
import Derived.Test.YtjmndjmhjleabaaGreatDoorPk17
import Derived.Test.YtjmndjmhjleabaaGreatDoorPk5
import Derived.Deep.RegionHeld3
import Derived.Test.YtjmndjmhjleabaaGreatDoorPk4
import Derived.Test.YtjmndjmhjleabaaGreatDoorPk10
import Derived.Test.YtjmndjmhjleabaaGreatDoorPk8
set_option maxHeartbeats 4000000
set_option maxRecDepth 100000
open Go.Proofs.Tryz
namespace Go.Proofs.YtjmndjmhjleabaaGreatDoor
open Go.RowKit
theorem Cw (s:ay)(w:World)(hs:s.size<=1000000):
 Calls prog 44 #[.string s] w fun e w'=>e=.returned (Fd.val (Fd.of s.data.toList))∧aj w w':=by
 obtain⟨cap,w1,qx,hB1,hz1,hI1⟩:=zm (P:=prog) (w.alloc (.cells #[.string ⟨#[]⟩,.string ⟨#[]⟩] 111)) s 9 31 5 underlying9 underlying31 underlying5;have e0:(w.alloc (.cells #[.string ⟨#[]⟩,.string ⟨#[]⟩] 111)).heap.size=w.heap.size+1:=by simp
 rw[e0] at qx hB1 hz1 hI1;have c0:w1.cell? ⟨w.heap.size,0,none⟩=some (.string ⟨#[]⟩):=(hB1.cell (p:=⟨w.heap.size,0,none⟩) (by simp)).trans (World.cell?_alloc_mark w _ _ _ 0);have c1:w1.cell? ⟨w.heap.size,1,none⟩=some (.string ⟨#[]⟩):=(hB1.cell (p:=⟨w.heap.size,1,none⟩) (by simp)).trans (World.cell?_alloc_mark w _ _ _ 1);have f0:w1.frozen? ⟨w.heap.size,0,none⟩=false:=(hB1.frozen (p:=⟨w.heap.size,0,none⟩) (by simp)).trans (World.frozen?_alloc_mark w _ _ _ _ 0);have f1:w1.frozen? ⟨w.heap.size,1,none⟩=false:=(hB1.frozen (p:=⟨w.heap.size,1,none⟩) (by simp)).trans (World.frozen?_alloc_mark w _ _ _ _ 1);have HB:Hid (aj w w1):=((fJ _ _).alloc (aM _) _).trans (hB1.mono (by omega));have HF:=H9 (FJ w1 _ cap s.size s.data.toList ⟨#[58]⟩ hI1 (by rw[aO];rfl) (by decide) hs);clear hI1 hB1 e0;go_enter func44,ntmps44;go_wp2_with fail
 refine HF.o.mono ?_;rintro e w2 ⟨r,rfl,hfi,hw⟩;subst hw;have hl:s.data.toList.length=s.size:=by rw[aO];rfl
 clear HF qx;rcases FK hfi with ⟨hr,hk⟩ | ⟨hr,hk⟩
 . subst hr;have HR:Hid (Fd.of s.data.toList=Fd.bad 5):=by unfold Hid Fd.of;rw[if_pos hk]
   clear hk hl hfi;go_wp2;refine gy (v:=.tuple #[.agg #[.string ⟨#[]⟩,.string ⟨#[]⟩],.int .i64 5]) (by simp[results,results44,go_sem,c0,c1]) rfl ⟨by rw[HR.o];rfl,?_⟩;exact(HB.o.setCell (aM _) _).setCell (aM _) _
 . subst hr;have ai2:Fd.at_ 58 s.data.toList<=s.data.toList.length:=Fd.U6 _ _;have hke:=Fd.of s.data.toList;clear hke;have hof:Fd.of s.data.toList=if Ch.isToken (s.data.toList.take (Fd.at_ 58 s.data.toList))=false then Fd.bad 6 else if 40<Fd.at_ 58 s.data.toList then Fd.bad 4 else if Ch.iy (s.data.toList.drop (Fd.at_ 58 s.data.toList+1))=false then Fd.bad 3
    else ⟨s.data.toList.take (Fd.at_ 58 s.data.toList),Lib.trimS (s.data.toList.drop (Fd.at_ 58 s.data.toList+1)) Ch.ws,0⟩:=by
    conv=>lhs;unfold Fd.of
    rw[if_neg (by omega)]
   rw[hl] at hk;clear ai2 hl hfi;generalize Fd.at_ 58 s.data.toList=k at hof hk;have e1:(s.extract 0 k).data.toList=s.data.toList.take k:=by rw[Lib.extract_data];simp
   have e2:(s.extract (k+1) s.size).data.toList=s.data.toList.drop (k+1):=Lib.extract_to_end s (k+1);rw[<-e1,<-e2] at hof;have z1:(s.extract 0 k).size<=maxLen:=by simp[maxLen];omega
   have z2:(s.extract (k+1) s.size).size<=maxLen:=by simp[maxLen];omega
   have HT:=H9 (yA (s.extract 0 k) w2 z1);have HV:=H9 (Ju (s.extract (k+1) s.size) w2 z2);have tC:=H9 (fun W=>BX (s.extract (k+1) s.size) W z2);clear e1 e2 z1 z2;have b1:(k:Int)+1<=s.size:=by omega
   have b2:(k:Int)<=s.size:=by omega
   have HO:=H9 hof;clear hof;cases ht:Ch.isToken (s.extract 0 k).data.toList
   . rw[ht] at HT;have HR:Hid (Fd.of s.data.toList=Fd.bad 6):=by have:=HO.o;rw[if_pos ht] at this;exact this
     clear HO ht HV tC;go_wp2_with fail
     refine HT.o.mono ?_;rintro e w3 ⟨rfl,hw⟩;subst hw;go_wp2;refine gy (v:=.tuple #[.agg #[.string ⟨#[]⟩,.string ⟨#[]⟩],.int .i64 6]) (by simp[results,results44,go_sem,c0,c1]) rfl ⟨by rw[HR.o];rfl,?_⟩;exact(HB.o.setCell (aM _) _).setCell (aM _) _
   . rw[ht] at HT;have h6:=HO.o;rw[if_neg (by rw[ht];simp)] at h6;have yu:=H9 h6;clear HO ht h6;by_cases Yp:40<k
     . have HR:Hid (Fd.of s.data.toList=Fd.bad 4):=by have:=yu.o;rw[if_pos Yp] at this;exact this
       clear yu HV tC;go_wp2_with fail
       refine HT.o.mono ?_;rintro e w3 ⟨rfl,hw⟩;subst hw;go_wp2;refine gy (v:=.tuple #[.agg #[.string ⟨#[]⟩,.string ⟨#[]⟩],.int .i64 4]) (by simp[results,results44,go_sem,c0,c1]) rfl ⟨by rw[HR.o];rfl,?_⟩;exact(HB.o.setCell (aM _) _).setCell (aM _) _
     . have h4:=yu.o;rw[if_neg Yp] at h4;have wz:=H9 h4;clear yu h4;have t40:decide ((k:Int) > 40)=false:=by rw[bQ];omega
       cases hv:Ch.iy (s.extract (k+1) s.size).data.toList
       . rw[hv] at HV;have HR:Hid (Fd.of s.data.toList=Fd.bad 3):=by have:=wz.o;rw[if_pos hv] at this;exact this
         clear wz hv tC;go_wp2_with fail
         refine HT.o.mono ?_;rintro e w3 ⟨rfl,hw⟩;subst hw;go_wp2_with fail
         refine HV.o.mono ?_;rintro e w3 ⟨rfl,hw⟩;subst hw;go_wp2;refine gy (v:=.tuple #[.agg #[.string ⟨#[]⟩,.string ⟨#[]⟩],.int .i64 3]) (by simp[results,results44,go_sem,c0,c1]) rfl ⟨by rw[HR.o];rfl,?_⟩;exact(HB.o.setCell (aM _) _).setCell (aM _) _
       . rw[hv] at HV;have h3:=wz.o;rw[if_neg (by rw[hv];simp)] at h3;have HR:=H9 h3;clear wz hv h3;have HN:Hid ((s.extract 0 k)=⟨(s.extract 0 k).data.toList.toArray⟩):=by unfold Hid;rfl
         generalize (Lib.trimS (s.extract (k+1) s.size).data.toList Ch.ws)=tv at tC HR;have b3:IntKind.i64.wrap ((k:Int)+1)=(k:Int)+1:=lZ (by omega) (by omega);have b4:(0:Int)<=(k:Int)+1:=by omega
         have b5:((k:Int)+1).toNat=k+1:=by omega
         go_wp2_with fail
         refine HT.o.mono ?_;rintro e w3 ⟨rfl,hw⟩;subst hw;go_wp2_with fail
         refine HV.o.mono ?_;rintro e w3 ⟨rfl,hw⟩;subst hw;go_wp2;go_region_held3 (fun _=>True) (trivial) (first | (go_at_call 77;refine(tC.o _).mono ?_;rintro e w4 ⟨rfl,rfl⟩))
         all_goals
          go_wp2;refine gy (v:=.tuple #[.agg #[.string (s.extract 0 k),.string ⟨tv.toArray⟩],.int .i64 0]) (by simp[results,results44,go_sem,c0,c1]) rfl ⟨by rw[HR.o];rfl,?_⟩;exact((HB.o.trans (gQ _ _)).setCell (aM _) _).setCell (aM _) _
def lC (w:World)(b:av)(e:Ending)(w':World):Prop:=∃ao ca,e=.returned (.tuple #[.slice ao (Ck.of b).body.length ca,.int .i64 ((Ck.of b).used:Int),.bool (Ck.of b).over,.int .i64 ((Ck.of b).code:Int)])∧iF w' w.heap.size 5 ao ca (Ck.of b).body∧aj w w'
theorem lC.of {w:World}{b:av}{e:Ending}{w':World}(body:av)(used:Nat)(over:Bool)(code:Nat)(ao:ak)(ca n:Nat)(z:Int)(hof:Ck.of b=⟨body,used,over,code⟩)(hn:body.length=n)(hz:z=(used:Int))(he:e=.returned (.tuple #[.slice ao n ca,.int .i64 z,.bool over,.int .i64 (code:Int)]))(hI:iF w' w.heap.size 5 ao ca body)(hB:aj w w'):lC w b e w':=by
 refine⟨ao,ca,?_,by rw[hof];exact hI,hB⟩;rw[he,hof,hz,<-hn]
structure afu (w:World)(b:av)(at_:Nat)(ao:ak)(ca n:Nat)(body:av)(f:Nat)(wr:World):Prop where
 own:iF wr w.heap.size 5 ao ca body
 len:body.length=n
 n_:n<=4000
 f_:(b.drop at_).length<f+1
 PW:Ck.of b=Ck.shift body at_ (Ck.go (f+1) (b.drop at_) n)
 below:aj w wr
structure abo (w:World)(b:av)(at_ k:Nat)(ao:ak)(ca n:Nat)(body:av)(f:Nat)(wr:World):Prop where
 own:iF wr w.heap.size 5 ao ca body
 len:body.length=n
 k_:k<=16
 f_:(b.drop at_).length<f+1
 PW:Ck.of b=Ck.shift body at_ (Ck.trail (f+1) (b.drop at_) k)
 below:aj w wr
section
variable {w:World} {b:av} {bb oo cap:Nat} (hb:iH w (some ⟨bb,oo,none⟩) cap b) (h9:b.length<=20000)
include hb h9
theorem MO (k n c:Nat)(ao:ak)(hk:k<=b.length)(hn:n=b.length-k)(hc:c=cap-k)(ha:cap≠k->ao=some ⟨bb,oo+k,none⟩)(W:World)(hW:aj w W):
 Calls prog 42 #[.slice ao n c] W fun e w'=>e=.returned (.tuple #[.string ⟨(Ln.of (b.drop k)).text.toArray⟩,.int .i64 ((Ln.of (b.drop k)).size:Int),.bool (Ln.of (b.drop k)).ended,.int .i64 ((Ln.of (b.drop k)).code:Int)])∧w'=W:=by
 subst hn;subst hc;have hcut:=(hb.stay hW).cut (gW:=ao) k b.length hk (aM _) (fun e=>by rw[ha e];simp[gI]);rw[show(b.drop k).take (b.length-k)=b.drop k by rw[dO];rw[bV];omega] at hcut;exact FI (b.drop k) ao (cap-k) (b.length-k) W hcut (by rw[bV]) (by omega)
end
theorem IX {l:av}(hbad:¬((Ln.of l).code≠0∨(Ln.of l).ended=false)):(Ln.of l).code=0∧(Ln.of l).ended=true∧0<(Ln.of l).size:=by
 have hlc:(Ln.of l).code=0:=by
  rcases fF (Ln.of l).code with h | h
  . exact h
  . exact absurd (Or.inl (by omega)) hbad
 have hen:(Ln.of l).ended=true:=by
  cases h:(Ln.of l).ended
  . exact absurd (Or.inr h) hbad
  . rfl
 refine⟨hlc,hen,?_⟩;rcases fF (Ln.of l).size with h | h
 . have:=Ck.oZ h;rw[hen] at this;cases this.2
 . exact h
theorem aaq (t:av)(s:ay)(hs:s.data.toList=t.take (Fd.at_ 59 t)):Ck.size t=Ch.number 16 6 (Lib.trimS s.data.toList Ch.ws):=by unfold Ck.size;rw[hs]
theorem Rq.J3:∀(l w:av),((Rq.cut w l).map List.length).sum<=w.length+l.length
 | [],w=>by simp[Rq.cut]
 | c :: t, w => by
   rw[Rq.cut];split
   . have:=Rq.J3 t [];simp at this ⊢;omega
   . have:=Rq.J3 t (w++[c]);simp at this ⊢;omega
def Rq.FL:Nat ⊕ Rq.Hd->Value
 | .inl c=>.tuple #[.agg #[.string ⟨#[]⟩,.string ⟨#[]⟩,.int .i64 0,.slice none 0 0,.int .i64 0],.int .i64 (c:Int)]
 | .inr h=>.tuple #[.agg #[.string ⟨h.method.toArray⟩,.string ⟨h.target.toArray⟩,.int .i64 (h.minor:Int),.slice none 0 0,.int .i64 0],.int .i64 0]
structure Yd (w:World)(s:ay)(k:Nat)(ps:List ay)(wd:ay)(ao:ak)(cap:Nat)(wr:World):Prop where
 own:gV wr (w.heap.size+1) 9 1 ao cap ps.length (oI ps)
 res:wr.heap[w.heap.size]? = some (.cells #[.string ⟨#[]⟩,.string ⟨#[]⟩,.int .i64 0,.slice none 0 0,.int .i64 0] 68 (0,0))
 cut:Rq.cut [] s.data.toList=ps.map (fun x=>x.data.toList)++Rq.cut wd.data.toList (s.data.toList.drop k)
 wd_:wd.size<=k
 ps_:ps.length<=k
 below:aj w wr
theorem Yd.lt {w:World}{s:ay}{k:Nat}{ps:List ay}{wd:ay}{ao:ak}{cap:Nat}{wr:World}(h:Yd w s k ps wd ao cap wr):w.heap.size+1<=wr.heap.size:=(aL.1 h.res).1
theorem ru {w wr w3:World}{ps:List ay}{ao:ak}{cap:Nat}{o:Obj}{row:Obj}(hO:gV wr (w.heap.size+1) 9 1 ao cap ps.length (oI ps))(hres:wr.heap[w.heap.size]? = some row)(hB:aj w wr)
 (hG:(wr.alloc o).grownBy w3 (gL ao)):w3.heap[w.heap.size]? = some row∧aj w w3:=by
 have hlt:w.heap.size<wr.heap.size:=(aL.1 hres).1;have hne:∀a,ao=some a->w.heap.size+1<=a.block:=fun a e=>(hO.block a e).1;refine⟨?_,?_⟩
 . have h1:=hG.block w.heap.size (by simp;omega) (fun e=>by
    cases ao with
    | none=>cases e
    | some a=>injection e with e;have:=hne a rfl;omega)
   rw[h1,(gB wr o none).block w.heap.size hlt (by simp)];exact hres
 . exact(hB.alloc hB.size o).grown hG (by have:=hB.size;simp;omega) (fun q e=>by
    cases ao with
    | none=>simp[gL] at e
    | some y=>simp only[gL,bU] at e;have:=hne y rfl;omega)
theorem Gp (s:ay)(w:World)(hs:s.size<=9000):
 Calls prog 43 #[.string s] w fun e w'=>e=.returned (Rq.FL (Rq.first s.data.toList))∧aj w w':=by
 obtain⟨i0,hi0,hz0,hz1,hz2⟩:=info_parts D9;have Hi:=H9 hi0;have kK:=H9 hz0;have kH:=H9 hz1;have kL:=H9 hz2
 clear hi0 hz0 hz1 hz2;have HLen:Hid (s.data.toList.length=s.size):=by unfold Hid;rw[aO];rfl
 go_enter func43,ntmps43;go_wp2;go_loopw [4,5,6] (fun vl vw vi wr=>∃(k:Nat) (ps:List ay) (wd:ay) (ao:ak) (cap:Nat),k<=s.size∧vi=.int .i64 k∧vw=.string wd∧vl=.slice ao ps.length cap∧Yd w s k ps wd ao cap wr) (fun _ _ vi _=>s.size-(intOf vi).toNat)
 case atStart=>exact⟨0,[],⟨#[]⟩,none,0,aA _,rfl,rfl,rfl,⟨gV.nil _ _ _ _,fI w _,rfl,aM _,aM _,(fJ _ _).alloc (aM _) _⟩⟩
 case round =>
  obtain⟨k,ps,wd,ao,cap,hk,rfl,rfl,rfl,hR⟩:=hrel;have HR:=H9 hR;have hw1:=hR.wd_;have hp1:=hR.ps_;clear hR;by_cases hlt:k<s.size
  . have hlt':(k:Int)<s.size:=by omega
    have hdr:s.data.toList.drop k=s[k]::s.data.toList.drop (k+1):=by
     rw[aD (show k<s.data.toList.length by rw[HLen.o];exact hlt)];congr 1
    have UY:=H9 hdr;clear hdr;by_cases h32:s[k]=32
    . have t32:((s[k].toNat:Int)==32)=true:=by rw[h32];rfl
      have Cr:Hid (Rq.cut [] s.data.toList=(ps++[wd]).map (fun x=>x.data.toList)++Rq.cut (⟨#[]⟩:ay).data.toList (s.data.toList.drop (k+1))):=by
       unfold Hid;rw[HR.o.cut,UY.o,h32,Rq.cut,if_pos rfl];simp
      clear h32 UY;go_wp2_with (at_builtin;refine gT rfl (.tmp 18) (.tmp 20) 134 rfl (w.heap.size+1) 9 i0 (.string ⟨#[]⟩) 1 16 underlying134 Hi.o kK.o kH.o kL.o rfl (by decide) rfl (HR.o.own.alloc _) rfl (jo.made _ _ 1 _ _) rfl (fun u hu=>by simp at hu;subst hu;rfl) (by omega) (by omega) (by have:=HR.o.lt;simp;omega) ?_;intro jQ gX w3 hO3 hG3 _;have oD:=H9 hO3;have nC:=H9 (ru HR.o.own HR.o.res HR.o.below hG3);clear hO3 hG3)
      go_roundw
      case rel=>exact⟨k+1,ps++[wd],⟨#[]⟩,jQ,gX,by omega,by go_num,rfl,by rw[aW];rfl,⟨by rw[aW,vQ];exact oD.o,nC.o.1,Cr.o,aA _,by rw[aW];simp;omega,nC.o.2⟩⟩
      case measure=>simp[intOf];omega
    . have t32:((s[k].toNat:Int)==32)=false:=kZ h32;have hx:=Ch.vR s k hlt;have Cr:Hid (Rq.cut [] s.data.toList=ps.map (fun x=>x.data.toList)++Rq.cut (wd++s.extract k (k+1)).data.toList (s.data.toList.drop (k+1))):=by
       unfold Hid;rw[HR.o.cut,UY.o,Rq.cut,if_neg h32,Ch.data_append,hx]
      have hz:(s.extract k (k+1)).size=1:=by simp;omega
      have HZ:Hid ((wd++s.extract k (k+1)).size<=k+1):=by unfold Hid;rw[bN,hz];omega
      clear h32 UY hx hz;go_wp2;go_roundw
      case rel=>exact⟨k+1,ps,wd++s.extract k (k+1),ao,cap,by omega,by go_num,rfl,rfl,⟨HR.o.own,HR.o.res,Cr.o,HZ.o,by omega,HR.o.below⟩⟩
      case measure=>simp[intOf];omega
  . obtain rfl:k=s.size:=by omega
    have Cr:Hid (Rq.cut [] s.data.toList=(ps++[wd]).map (fun x=>x.data.toList)):=by
     unfold Hid;have:=HR.o.cut;rw[aK (by rw[HLen.o];exact aM _),Rq.cut] at this;rw[this];simp
    clear HLen;by_cases h3:ps.length=2
    . obtain⟨m,g,rfl⟩:∃m g,ps=[m,g]:=by
       match ps,h3 with
       | [m,g],_=>exact⟨m,g,rfl⟩
      have hF:Rq.first s.data.toList=(if Ch.isToken m.data.toList=false then .inl 6 else if g.data.toList.head?≠some 47∨9∈g.data.toList then .inl 5 else if wd.data.toList=[72,84,84,80,47,49,46,49] then .inr ⟨m.data.toList,g.data.toList,1,[],0⟩ else if wd.data.toList=[72,84,84,80,47,49,46,48] then .inr ⟨m.data.toList,g.data.toList,0,[],0⟩ else .inl 11):=by
       unfold Rq.first;rw[Cr.o];rfl
      have HF:=H9 hF;have Zy:=Cr;clear hF Cr h3;have hmz:m.size<=9000∧g.size<=9000∧wd.size<=9000:=by
       have hsum:=Rq.J3 s.data.toList [];rw[Zy.o,Ch.iD] at hsum;simp at hsum;omega
      have tF:=H9 (fun W=>yA m W (by unfold maxLen;omega));cases htk:Ch.isToken m.data.toList
      . rw[htk] at tF;have FT:Hid (Rq.first s.data.toList=.inl 6):=by have:=HF.o;rw[if_pos htk] at this;exact this
        clear HF htk;go_wp2_with (at_builtin;refine gT rfl (.tmp 29) (.tmp 31) 134 rfl (w.heap.size+1) 9 i0 (.string ⟨#[]⟩) 1 16 underlying134 Hi.o kK.o kH.o kL.o rfl (by decide) rfl (HR.o.own.alloc _) rfl (jo.made _ _ 1 _ _) rfl (fun u hu=>by simp at hu;subst hu;rfl) (by simp) (by simp) (by have:=HR.o.lt;simp;omega) ?_;intro jQ gX w3 hO3 hG3 _;have nC:=H9 (ru HR.o.own HR.o.res HR.o.below hG3);have HI3:=H9 hO3.nQ;obtain⟨lb,lo,rfl,hlc⟩:=hO3.nQ.lit (by simp[oI]);have l0:w3.cell? ⟨lb,lo,none⟩=some (.string m):=hlc 0 _ rfl;have l1:w3.cell? ⟨lb,lo+1,none⟩=some (.string g):=hlc 1 _ rfl;have l2:w3.cell? ⟨lb,lo+2,none⟩=some (.string wd):=hlc 2 _ rfl;have hc3:=hO3.nQ.1;clear hO3 hG3 hlc;have r0:w3.cell? ⟨w.heap.size,0,none⟩=some (.string ⟨#[]⟩):=fK w3 w.heap.size 0 _ _ _ nC.o.1;have f0:w3.frozen? ⟨w.heap.size,0,none⟩=false:=fM w3 w.heap.size 0 _ _ nC.o.1;have r1:w3.cell? ⟨w.heap.size,1,none⟩=some (.string ⟨#[]⟩):=fK w3 w.heap.size 1 _ _ _ nC.o.1;have f1:w3.frozen? ⟨w.heap.size,1,none⟩=false:=fM w3 w.heap.size 1 _ _ nC.o.1;have r2:w3.cell? ⟨w.heap.size,2,none⟩=some (.int .i64 0):=fK w3 w.heap.size 2 _ _ _ nC.o.1;have f2:w3.frozen? ⟨w.heap.size,2,none⟩=false:=fM w3 w.heap.size 2 _ _ nC.o.1;have r3:w3.cell? ⟨w.heap.size,3,none⟩=some (.slice none 0 0):=fK w3 w.heap.size 3 _ _ _ nC.o.1;have f3:w3.frozen? ⟨w.heap.size,3,none⟩=false:=fM w3 w.heap.size 3 _ _ nC.o.1;have r4:w3.cell? ⟨w.heap.size,4,none⟩=some (.int .i64 0):=fK w3 w.heap.size 4 _ _ _ nC.o.1;have f4:w3.frozen? ⟨w.heap.size,4,none⟩=false:=fM w3 w.heap.size 4 _ _ nC.o.1)
        refine(tF.o _).mono ?_;rintro e w4 ⟨rfl,hw⟩;subst hw;clear tF;go_wp2;refine gy (v:=.tuple #[.agg #[.string ⟨#[]⟩,.string ⟨#[]⟩,.int .i64 0,.slice none 0 0,.int .i64 0],.int .i64 6]) (by simp[results,results43,go_sem,r0,r1,r2,r3,r4]) rfl ⟨by rw[FT.o];rfl,?_⟩;exact((((nC.o.2.setCell (aM _) _).setCell (aM _) _).setCell (aM _) _).setCell (aM _) _).setCell (aM _) _
      . rw[htk] at tF;have hF5:=HF.o;rw[if_neg (by rw[htk];simp)] at hF5;have HF5:=H9 hF5;clear HF hF5 htk;by_cases hg0:g.size=0
        . have tg0:((g.size:Int)==0)=true:=by rw[aT];omega
          have FT:Hid (Rq.first s.data.toList=.inl 5):=by
           have:=HF5.o;rw[if_pos (Or.inl (by rw[Ch.empty_eq g hg0];simp))] at this;exact this
          clear HF5 hg0;go_wp2_with (at_builtin;refine gT rfl (.tmp 29) (.tmp 31) 134 rfl (w.heap.size+1) 9 i0 (.string ⟨#[]⟩) 1 16 underlying134 Hi.o kK.o kH.o kL.o rfl (by decide) rfl (HR.o.own.alloc _) rfl (jo.made _ _ 1 _ _) rfl (fun u hu=>by simp at hu;subst hu;rfl) (by simp) (by simp) (by have:=HR.o.lt;simp;omega) ?_;intro jQ gX w3 hO3 hG3 _;have nC:=H9 (ru HR.o.own HR.o.res HR.o.below hG3);have HI3:=H9 hO3.nQ;obtain⟨lb,lo,rfl,hlc⟩:=hO3.nQ.lit (by simp[oI]);have l0:w3.cell? ⟨lb,lo,none⟩=some (.string m):=hlc 0 _ rfl;have l1:w3.cell? ⟨lb,lo+1,none⟩=some (.string g):=hlc 1 _ rfl;have l2:w3.cell? ⟨lb,lo+2,none⟩=some (.string wd):=hlc 2 _ rfl;have hc3:=hO3.nQ.1;clear hO3 hG3 hlc;have r0:w3.cell? ⟨w.heap.size,0,none⟩=some (.string ⟨#[]⟩):=fK w3 w.heap.size 0 _ _ _ nC.o.1;have f0:w3.frozen? ⟨w.heap.size,0,none⟩=false:=fM w3 w.heap.size 0 _ _ nC.o.1;have r1:w3.cell? ⟨w.heap.size,1,none⟩=some (.string ⟨#[]⟩):=fK w3 w.heap.size 1 _ _ _ nC.o.1;have f1:w3.frozen? ⟨w.heap.size,1,none⟩=false:=fM w3 w.heap.size 1 _ _ nC.o.1;have r2:w3.cell? ⟨w.heap.size,2,none⟩=some (.int .i64 0):=fK w3 w.heap.size 2 _ _ _ nC.o.1;have f2:w3.frozen? ⟨w.heap.size,2,none⟩=false:=fM w3 w.heap.size 2 _ _ nC.o.1;have r3:w3.cell? ⟨w.heap.size,3,none⟩=some (.slice none 0 0):=fK w3 w.heap.size 3 _ _ _ nC.o.1;have f3:w3.frozen? ⟨w.heap.size,3,none⟩=false:=fM w3 w.heap.size 3 _ _ nC.o.1;have r4:w3.cell? ⟨w.heap.size,4,none⟩=some (.int .i64 0):=fK w3 w.heap.size 4 _ _ _ nC.o.1;have f4:w3.frozen? ⟨w.heap.size,4,none⟩=false:=fM w3 w.heap.size 4 _ _ nC.o.1)
          refine(tF.o _).mono ?_;rintro e w4 ⟨rfl,hw⟩;subst hw;clear tF;go_wp2;refine gy (v:=.tuple #[.agg #[.string ⟨#[]⟩,.string ⟨#[]⟩,.int .i64 0,.slice none 0 0,.int .i64 0],.int .i64 5]) (by simp[results,results43,go_sem,r0,r1,r2,r3,r4]) rfl ⟨by rw[FT.o];rfl,?_⟩;exact((((nC.o.2.setCell (aM _) _).setCell (aM _) _).setCell (aM _) _).setCell (aM _) _).setCell (aM _) _
        . have hgp:0<g.size:=by omega
          have tg0:((g.size:Int)==0)=false:=by rw[aS];omega
          have hgh:g.data.toList.head? = some g[0]:=by
           rw[List.head?_eq_getElem?,dD (by rw[Ch.iD];exact hgp)];rfl
          by_cases h47:g[0]=47
          . have t47:((g[0].toNat:Int) != 47)=false:=by rw[h47];rfl
            have hF9:∀b,(decide (9∈g.data.toList)=b)->Rq.first s.data.toList=if b=true then .inl 5 else if wd.data.toList=[72,84,84,80,47,49,46,49] then .inr ⟨m.data.toList,g.data.toList,1,[],0⟩ else if wd.data.toList=[72,84,84,80,47,49,46,48] then .inr ⟨m.data.toList,g.data.toList,0,[],0⟩ else .inl 11:=by
             intro b hb;have:=HF5.o;rw[hgh,h47] at this;rw[this,<-hb];by_cases h9:9∈g.data.toList
             . simp[h9]
             . simp[h9]
            have HF9:=H9 hF9;clear hF9 HF5 hgh h47;go_wp2_with (at_builtin;refine gT rfl (.tmp 29) (.tmp 31) 134 rfl (w.heap.size+1) 9 i0 (.string ⟨#[]⟩) 1 16 underlying134 Hi.o kK.o kH.o kL.o rfl (by decide) rfl (HR.o.own.alloc _) rfl (jo.made _ _ 1 _ _) rfl (fun u hu=>by simp at hu;subst hu;rfl) (by simp) (by simp) (by have:=HR.o.lt;simp;omega) ?_;intro jQ gX w3 hO3 hG3 _;have nC:=H9 (ru HR.o.own HR.o.res HR.o.below hG3);have HI3:=H9 hO3.nQ;obtain⟨lb,lo,rfl,hlc⟩:=hO3.nQ.lit (by simp[oI]);have l0:w3.cell? ⟨lb,lo,none⟩=some (.string m):=hlc 0 _ rfl;have l1:w3.cell? ⟨lb,lo+1,none⟩=some (.string g):=hlc 1 _ rfl;have l2:w3.cell? ⟨lb,lo+2,none⟩=some (.string wd):=hlc 2 _ rfl;have hc3:=hO3.nQ.1;clear hO3 hG3 hlc;have r0:w3.cell? ⟨w.heap.size,0,none⟩=some (.string ⟨#[]⟩):=fK w3 w.heap.size 0 _ _ _ nC.o.1;have f0:w3.frozen? ⟨w.heap.size,0,none⟩=false:=fM w3 w.heap.size 0 _ _ nC.o.1;have r1:w3.cell? ⟨w.heap.size,1,none⟩=some (.string ⟨#[]⟩):=fK w3 w.heap.size 1 _ _ _ nC.o.1;have f1:w3.frozen? ⟨w.heap.size,1,none⟩=false:=fM w3 w.heap.size 1 _ _ nC.o.1;have r2:w3.cell? ⟨w.heap.size,2,none⟩=some (.int .i64 0):=fK w3 w.heap.size 2 _ _ _ nC.o.1;have f2:w3.frozen? ⟨w.heap.size,2,none⟩=false:=fM w3 w.heap.size 2 _ _ nC.o.1;have r3:w3.cell? ⟨w.heap.size,3,none⟩=some (.slice none 0 0):=fK w3 w.heap.size 3 _ _ _ nC.o.1;have f3:w3.frozen? ⟨w.heap.size,3,none⟩=false:=fM w3 w.heap.size 3 _ _ nC.o.1;have r4:w3.cell? ⟨w.heap.size,4,none⟩=some (.int .i64 0):=fK w3 w.heap.size 4 _ _ _ nC.o.1;have f4:w3.frozen? ⟨w.heap.size,4,none⟩=false:=fM w3 w.heap.size 4 _ _ nC.o.1)
            refine(tF.o _).mono ?_;rintro e w4 ⟨rfl,hw⟩;subst hw;clear tF;obtain⟨ac7,wq,hq,Yv,hzq,hIq⟩:=zm (P:=prog) w4 g 9 31 5 underlying9 underlying31 underlying5;have Oq:=H9 (FJ wq _ ac7 g.size _ ⟨#[9]⟩ hIq (by rw[Ch.iD]) (by decide) (by omega));have PX:=H9 (then_ nC.o.2 Yv);have HB3:=H9 Yv
            go_wp2_with fail
            refine Oq.o.mono ?_;rintro e w5 ⟨r,rfl,hfi,hw⟩;subst hw;clear Oq;have nX:Hid (w5.heap[w.heap.size]? = some (.cells #[.string ⟨#[]⟩,.string ⟨#[]⟩,.int .i64 0,.slice none 0 0,.int .i64 0] 68 (0,0))):=(HB3.o.block w.heap.size (aL.1 nC.o.1).1).trans nC.o.1;have q0:w5.cell? ⟨w.heap.size,0,none⟩=some (.string ⟨#[]⟩):=fK w5 w.heap.size 0 _ _ _ nX.o;have p0:w5.frozen? ⟨w.heap.size,0,none⟩=false:=fM w5 w.heap.size 0 _ _ nX.o;have q1:w5.cell? ⟨w.heap.size,1,none⟩=some (.string ⟨#[]⟩):=fK w5 w.heap.size 1 _ _ _ nX.o;have p1:w5.frozen? ⟨w.heap.size,1,none⟩=false:=fM w5 w.heap.size 1 _ _ nX.o;have q2:w5.cell? ⟨w.heap.size,2,none⟩=some (.int .i64 0):=fK w5 w.heap.size 2 _ _ _ nX.o;have p2:w5.frozen? ⟨w.heap.size,2,none⟩=false:=fM w5 w.heap.size 2 _ _ nX.o;have q3:w5.cell? ⟨w.heap.size,3,none⟩=some (.slice none 0 0):=fK w5 w.heap.size 3 _ _ _ nX.o;have p3:w5.frozen? ⟨w.heap.size,3,none⟩=false:=fM w5 w.heap.size 3 _ _ nX.o;have q4:w5.cell? ⟨w.heap.size,4,none⟩=some (.int .i64 0):=fK w5 w.heap.size 4 _ _ _ nX.o;have p4:w5.frozen? ⟨w.heap.size,4,none⟩=false:=fM w5 w.heap.size 4 _ _ nX.o;have k0:w5.cell? ⟨lb,lo,none⟩=some (.string m):=(HB3.o.cell (gq _ _ l0)).trans l0;have k1:w5.cell? ⟨lb,lo+1,none⟩=some (.string g):=(HB3.o.cell (gq _ _ l1)).trans l1;have k2:w5.cell? ⟨lb,lo+2,none⟩=some (.string wd):=(HB3.o.cell (gq _ _ l2)).trans l2;clear r0 r1 r2 r3 r4 f0 f1 f2 f3 f4 l0 l1 l2 hq Yv hzq hIq;rcases FK hfi with ⟨hr,hk⟩ | ⟨hr,hk⟩
            . subst hr;have XA:=H9 (HF9.o false (by rw[bQ];intro h9;obtain⟨j,hj,e⟩:=List.getElem_of_mem h9;exact Fd.Dk (by rw[hk];exact hj) hj e));rw[if_neg (by simp)] at XA;clear HF9 hfi hk;go_wp2;go_region_held3 (fun w'=>w'.cell? ⟨lb,lo,none⟩=some (.string m)∧w'.cell? ⟨lb,lo+1,none⟩=some (.string g)) (go_keep) (fail)
              have hB6:aj w5 (w5.alloc (.cells #[.string m,.string g,.int .i64 0,.slice none 0 0,.int .i64 0] 68)).drew:=((fJ _ _).alloc (aM _) _).trans (gQ _ _);have hH6:(w5.alloc (.cells #[.string m,.string g,.int .i64 0,.slice none 0 0,.int .i64 0] 68)).drew.heap[w5.heap.size]? = some (.cells #[.string m,.string g,.int .i64 0,.slice none 0 0,.int .i64 0] 68):=fI w5 _;have vP:=H9 hB6;have HH6:=H9 hH6
              generalize (w5.alloc (.cells #[.string m,.string g,.int .i64 0,.slice none 0 0,.int .i64 0] 68)).drew=w6 at *;clear hB6 hH6;have YC:=H9 ((vP.o.block w.heap.size (aL.1 nX.o).1).trans nX.o);have k6:w6.cell? ⟨lb,lo+2,none⟩=some (.string wd):=(vP.o.cell (gq _ _ k2)).trans k2;have a0:w6.cell? ⟨w.heap.size,0,none⟩=some (.string ⟨#[]⟩):=fK w6 w.heap.size 0 _ _ _ YC.o;have b0:w6.frozen? ⟨w.heap.size,0,none⟩=false:=fM w6 w.heap.size 0 _ _ YC.o;have a1:w6.cell? ⟨w.heap.size,1,none⟩=some (.string ⟨#[]⟩):=fK w6 w.heap.size 1 _ _ _ YC.o;have b1:w6.frozen? ⟨w.heap.size,1,none⟩=false:=fM w6 w.heap.size 1 _ _ YC.o;have a2:w6.cell? ⟨w.heap.size,2,none⟩=some (.int .i64 0):=fK w6 w.heap.size 2 _ _ _ YC.o;have b2:w6.frozen? ⟨w.heap.size,2,none⟩=false:=fM w6 w.heap.size 2 _ _ YC.o;have a3:w6.cell? ⟨w.heap.size,3,none⟩=some (.slice none 0 0):=fK w6 w.heap.size 3 _ _ _ YC.o;have b3:w6.frozen? ⟨w.heap.size,3,none⟩=false:=fM w6 w.heap.size 3 _ _ YC.o;have a4:w6.cell? ⟨w.heap.size,4,none⟩=some (.int .i64 0):=fK w6 w.heap.size 4 _ _ _ YC.o;have b4:w6.frozen? ⟨w.heap.size,4,none⟩=false:=fM w6 w.heap.size 4 _ _ YC.o;have c0:w6.cell? ⟨w5.heap.size,0,none⟩=some (.string m):=fK w6 w5.heap.size 0 _ _ _ HH6.o;have c1:w6.cell? ⟨w5.heap.size,1,none⟩=some (.string g):=fK w6 w5.heap.size 1 _ _ _ HH6.o;have c2:w6.cell? ⟨w5.heap.size,2,none⟩=some (.int .i64 0):=fK w6 w5.heap.size 2 _ _ _ HH6.o;have c3:w6.cell? ⟨w5.heap.size,3,none⟩=some (.slice none 0 0):=fK w6 w5.heap.size 3 _ _ _ HH6.o;have c4:w6.cell? ⟨w5.heap.size,4,none⟩=some (.int .i64 0):=fK w6 w5.heap.size 4 _ _ _ HH6.o;have d2:w6.frozen? ⟨w5.heap.size,2,none⟩=false:=fM w6 w5.heap.size 2 _ _ HH6.o;have hne:w.heap.size≠w5.heap.size:=by have:=(aL.1 nX.o).1;omega
              have hne':¬w5.heap.size=w.heap.size:=fun e=>hne e.symm;have IL:=H9 (then_ PX.o vP.o);have ai7:=PX.o.size
              clear q0 q1 q2 q3 q4 p0 p1 p2 p3 p4 k0 k1 k2;generalize w5.heap.size=hb at *;by_cases h11:wd.data.toList=[72,84,84,80,47,49,46,49]
              . have FT:Hid (Rq.first s.data.toList=.inr ⟨m.data.toList,g.data.toList,1,[],0⟩):=by have:=XA.o;rw[if_pos h11] at this;exact this
                obtain rfl:wd=⟨#[72,84,84,80,47,49,46,49]⟩:=Ch.str_eq h11;clear XA h11;go_wp2;refine gy (v:=.tuple #[.agg #[.string m,.string g,.int .i64 1,.slice none 0 0,.int .i64 0],.int .i64 0]) (by simp[results,results43,go_sem,a0,a1,a2,a3,a4]) rfl ⟨by rw[FT.o];rfl,?_⟩;exact(((((IL.o.setCell (p:=⟨hb,2,none⟩) ai7 _).setCell (aM _) _).setCell (aM _) _).setCell (aM _) _).setCell (aM _) _).setCell (aM _) _
              . have t11:(wd.toList==[72,84,84,80,47,49,46,49])=false:=by rw[aS,Lib.toList_data];exact h11
                by_cases h10:wd.data.toList=[72,84,84,80,47,49,46,48]
                . have FT:Hid (Rq.first s.data.toList=.inr ⟨m.data.toList,g.data.toList,0,[],0⟩):=by have:=XA.o;rw[if_neg h11,if_pos h10] at this;exact this
                  obtain rfl:wd=⟨#[72,84,84,80,47,49,46,48]⟩:=Ch.str_eq h10;clear XA h11 h10 t11;go_wp2;refine gy (v:=.tuple #[.agg #[.string m,.string g,.int .i64 0,.slice none 0 0,.int .i64 0],.int .i64 0]) (by simp[results,results43,go_sem,a0,a1,a2,a3,a4]) rfl ⟨by rw[FT.o];rfl,?_⟩;exact((((IL.o.setCell (aM _) _).setCell (aM _) _).setCell (aM _) _).setCell (aM _) _).setCell (aM _) _
                . have t10:(wd.toList==[72,84,84,80,47,49,46,48])=false:=by rw[aS,Lib.toList_data];exact h10
                  have FT:Hid (Rq.first s.data.toList=.inl 11):=by have:=XA.o;rw[if_neg h11,if_neg h10] at this;exact this
                  clear XA h11 h10;go_wp2;refine gy (v:=.tuple #[.agg #[.string ⟨#[]⟩,.string ⟨#[]⟩,.int .i64 0,.slice none 0 0,.int .i64 0],.int .i64 11]) (by simp[results,results43,go_sem,a0,a1,a2,a3,a4]) rfl ⟨by rw[FT.o];rfl,?_⟩;exact((((IL.o.setCell (aM _) _).setCell (aM _) _).setCell (aM _) _).setCell (aM _) _).setCell (aM _) _
            . have FT:Hid (Rq.first s.data.toList=.inl 5):=by
               have:=HF9.o true (by rw[bR];have e:=Fd.CV hk;rw[<-e];exact aC _);rw[if_pos rfl] at this;exact this
              have tr:decide (r≥0)=true:=aI (by omega);clear HF9 hfi hk hr;go_wp2;refine gy (v:=.tuple #[.agg #[.string ⟨#[]⟩,.string ⟨#[]⟩,.int .i64 0,.slice none 0 0,.int .i64 0],.int .i64 5]) (by simp[results,results43,go_sem,q0,q1,q2,q3,q4]) rfl ⟨by rw[FT.o];rfl,?_⟩;exact((((PX.o.setCell (aM _) _).setCell (aM _) _).setCell (aM _) _).setCell (aM _) _).setCell (aM _) _
          . have t47:((g[0].toNat:Int) != 47)=true:=C8 h47;have FT:Hid (Rq.first s.data.toList=.inl 5):=by have:=HF5.o;rw[if_pos (Or.inl (by rw[hgh];simpa using h47))] at this;exact this
            clear HF5 hgh h47;go_wp2_with (at_builtin;refine gT rfl (.tmp 29) (.tmp 31) 134 rfl (w.heap.size+1) 9 i0 (.string ⟨#[]⟩) 1 16 underlying134 Hi.o kK.o kH.o kL.o rfl (by decide) rfl (HR.o.own.alloc _) rfl (jo.made _ _ 1 _ _) rfl (fun u hu=>by simp at hu;subst hu;rfl) (by simp) (by simp) (by have:=HR.o.lt;simp;omega) ?_;intro jQ gX w3 hO3 hG3 _;have nC:=H9 (ru HR.o.own HR.o.res HR.o.below hG3);have HI3:=H9 hO3.nQ;obtain⟨lb,lo,rfl,hlc⟩:=hO3.nQ.lit (by simp[oI]);have l0:w3.cell? ⟨lb,lo,none⟩=some (.string m):=hlc 0 _ rfl;have l1:w3.cell? ⟨lb,lo+1,none⟩=some (.string g):=hlc 1 _ rfl;have l2:w3.cell? ⟨lb,lo+2,none⟩=some (.string wd):=hlc 2 _ rfl;have hc3:=hO3.nQ.1;clear hO3 hG3 hlc;have r0:w3.cell? ⟨w.heap.size,0,none⟩=some (.string ⟨#[]⟩):=fK w3 w.heap.size 0 _ _ _ nC.o.1;have f0:w3.frozen? ⟨w.heap.size,0,none⟩=false:=fM w3 w.heap.size 0 _ _ nC.o.1;have r1:w3.cell? ⟨w.heap.size,1,none⟩=some (.string ⟨#[]⟩):=fK w3 w.heap.size 1 _ _ _ nC.o.1;have f1:w3.frozen? ⟨w.heap.size,1,none⟩=false:=fM w3 w.heap.size 1 _ _ nC.o.1;have r2:w3.cell? ⟨w.heap.size,2,none⟩=some (.int .i64 0):=fK w3 w.heap.size 2 _ _ _ nC.o.1;have f2:w3.frozen? ⟨w.heap.size,2,none⟩=false:=fM w3 w.heap.size 2 _ _ nC.o.1;have r3:w3.cell? ⟨w.heap.size,3,none⟩=some (.slice none 0 0):=fK w3 w.heap.size 3 _ _ _ nC.o.1;have f3:w3.frozen? ⟨w.heap.size,3,none⟩=false:=fM w3 w.heap.size 3 _ _ nC.o.1;have r4:w3.cell? ⟨w.heap.size,4,none⟩=some (.int .i64 0):=fK w3 w.heap.size 4 _ _ _ nC.o.1;have f4:w3.frozen? ⟨w.heap.size,4,none⟩=false:=fM w3 w.heap.size 4 _ _ nC.o.1)
            refine(tF.o _).mono ?_;rintro e w4 ⟨rfl,hw⟩;subst hw;clear tF;go_wp2;refine gy (v:=.tuple #[.agg #[.string ⟨#[]⟩,.string ⟨#[]⟩,.int .i64 0,.slice none 0 0,.int .i64 0],.int .i64 5]) (by simp[results,results43,go_sem,r0,r1,r2,r3,r4]) rfl ⟨by rw[FT.o];rfl,?_⟩;exact((((nC.o.2.setCell (aM _) _).setCell (aM _) _).setCell (aM _) _).setCell (aM _) _).setCell (aM _) _
    . have FT:Hid (Rq.first s.data.toList=.inl 5):=by
       unfold Hid Rq.first;rw[Cr.o];split
       . rename_i e;have:=bE List.length e;simp at this;omega
       . rfl
      have t3:((ps.length:Int)+1 != 3)=true:=by rw[cZ];omega
      clear Cr;go_wp2_with (at_builtin;refine gT rfl (.tmp 29) (.tmp 31) 134 rfl (w.heap.size+1) 9 i0 (.string ⟨#[]⟩) 1 16 underlying134 Hi.o kK.o kH.o kL.o rfl (by decide) rfl (HR.o.own.alloc _) rfl (jo.made _ _ 1 _ _) rfl (fun u hu=>by simp at hu;subst hu;rfl) (by omega) (by omega) (by have:=HR.o.lt;simp;omega) ?_;intro jQ gX w3 hO3 hG3 _;have oD:=H9 hO3;have nC:=H9 (ru HR.o.own HR.o.res HR.o.below hG3);clear hO3 hG3;have r0:w3.cell? ⟨w.heap.size,0,none⟩=some (.string ⟨#[]⟩):=fK w3 w.heap.size 0 _ _ _ nC.o.1;have f0:w3.frozen? ⟨w.heap.size,0,none⟩=false:=fM w3 w.heap.size 0 _ _ nC.o.1;have r1:w3.cell? ⟨w.heap.size,1,none⟩=some (.string ⟨#[]⟩):=fK w3 w.heap.size 1 _ _ _ nC.o.1;have f1:w3.frozen? ⟨w.heap.size,1,none⟩=false:=fM w3 w.heap.size 1 _ _ nC.o.1;have r2:w3.cell? ⟨w.heap.size,2,none⟩=some (.int .i64 0):=fK w3 w.heap.size 2 _ _ _ nC.o.1;have f2:w3.frozen? ⟨w.heap.size,2,none⟩=false:=fM w3 w.heap.size 2 _ _ nC.o.1;have r3:w3.cell? ⟨w.heap.size,3,none⟩=some (.slice none 0 0):=fK w3 w.heap.size 3 _ _ _ nC.o.1;have f3:w3.frozen? ⟨w.heap.size,3,none⟩=false:=fM w3 w.heap.size 3 _ _ nC.o.1;have r4:w3.cell? ⟨w.heap.size,4,none⟩=some (.int .i64 0):=fK w3 w.heap.size 4 _ _ _ nC.o.1;have f4:w3.frozen? ⟨w.heap.size,4,none⟩=false:=fM w3 w.heap.size 4 _ _ nC.o.1)
      refine gy (v:=.tuple #[.agg #[.string ⟨#[]⟩,.string ⟨#[]⟩,.int .i64 0,.slice none 0 0,.int .i64 0],.int .i64 5]) (by simp[results,results43,go_sem,r0,r1,r2,r3,r4]) rfl ⟨by rw[FT.o];rfl,?_⟩;exact((((nC.o.2.setCell (aM _) _).setCell (aM _) _).setCell (aM _) _).setCell (aM _) _).setCell (aM _) _
end Go.Proofs.YtjmndjmhjleabaaGreatDoor