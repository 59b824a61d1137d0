/- Small texts, one behind the other: JrB, JrD. -/
import Derived.Test.YtjmndjmhjleabaaGreatDoorAl
import Derived.Test.YtjmndjmhjleabaaGreatDoorAm
import Derived.Test.YtjmndjmhjleabaaGreatDoorPk9
import Derived.Test.YtjmndjmhjleabaaGreatDoorBase
import Derived.Test.YtjmndjmhjleabaaGreatDoorProg
import Derived.Deep.RegionWith
import Derived.Test.YtjmndjmhjleabaaGreatDoorPk10
import Derived.Deep.DeepCutAuto
set_option maxHeartbeats 2000000
set_option maxRecDepth 100000
open Go.Proofs.Tryz
namespace Go.Proofs.YtjmndjmhjleabaaGreatDoor
open Go.RowKit
theorem zo (n:Int)(w:World):Calls prog 271 #[.int .i64 n] w fun e w'=>e=.returned (.bool (decide (-1<=n)&&decide (n<=1073741823)))∧w'=w:=by
 by_cases h1:-1<=n
 . by_cases h2:n<=1073741823
   . go_enter func271,ntmps271;go_wp2;go_ret;exact⟨iB (by simp[h1,h2]),rfl⟩
   . have H2:Hid (decide (n<=1073741823)=false):=aJ h2;go_enter func271,ntmps271;go_wp2;go_ret;exact⟨iB (by rw[H2.o];try simp),rfl⟩
 . have H1:Hid (decide (-1<=n)=false):=aJ h1;go_enter func271,ntmps271;go_wp2;go_ret;exact⟨iB (by rw[H1.o];rfl),rfl⟩
theorem YW (e:Jn.E):Jn.fits e=(decide (1<=e.kind)&&(decide (e.kind<=6)&&((decide (-1<=e.id)&&decide (e.id<=1073741823))&&((decide (-1<=e.n)&&decide (e.n<=1073741823))&&decide (e.text.length<=1048575))))):=by
 simp only[Jn.fits,Bool.and_assoc]
theorem RB (x:Jn.E)(ta:ak)(tn tc:Nat)(hn:x.text.length=tn)(w:World):Calls prog 238 #[.agg #[.int .i64 x.kind,.int .i64 x.id,.int .i64 x.n,.slice ta tn tc]] w fun e w'=>e=.returned (.bool (Jn.fits x))∧aj w w':=by
 have HF:=H9 (YW x);have HB:Hid (aj w (w.alloc (.cells #[.int .i64 x.kind,.int .i64 x.id,.int .i64 x.n,.slice ta tn tc] 217))):=(fJ _ w).alloc (aM _) _;have HI1:=H9 (fun W=>zo x.id W);have HI2:=H9 (fun W=>zo x.n W);rw[hn] at HF;clear hn;generalize Jn.fits x=f at *;generalize x.kind=k at *;generalize x.id=i at *;generalize x.n=n at *;generalize (decide (-1<=i)&&decide (i<=1073741823))=bi at *;generalize (decide (-1<=n)&&decide (n<=1073741823))=bn at *;by_cases h1:1<=k
 . by_cases h2:k<=6
   . cases bi with
     | true =>
       cases bn with
       | true =>
         by_cases h5:tn<=1048575
         . have h5':(tn:Int)<=1048575:=by omega
           go_enter func238,ntmps238;go_wp2_with (first
            | (go_at_call_of 271 i;refine(HI1.o _).mono ?_;rintro e w2 ⟨rfl,hw⟩;rw[hw];clear hw)
            | (go_at_call_of 271 n;refine(HI2.o _).mono ?_;rintro e w2 ⟨rfl,hw⟩;rw[hw];clear hw))
           go_ret;exact⟨iB (by rw[HF.o];simp[h1,h2,h5]),HB.o⟩
         . have h5':¬(tn:Int)<=1048575:=by omega
           have HF':Hid (f=false):=by unfold Hid;have:=HF.o;rw[aJ h5] at this;simpa using this
           go_enter func238,ntmps238;go_wp2_with (first
            | (go_at_call_of 271 i;refine(HI1.o _).mono ?_;rintro e w2 ⟨rfl,hw⟩;rw[hw];clear hw)
            | (go_at_call_of 271 n;refine(HI2.o _).mono ?_;rintro e w2 ⟨rfl,hw⟩;rw[hw];clear hw))
           go_ret;exact⟨by rw[HF'.o];simp;omega,HB.o⟩
       | false =>
         go_enter func238,ntmps238;go_wp2_with (first
          | (go_at_call_of 271 i;refine(HI1.o _).mono ?_;rintro e w2 ⟨rfl,hw⟩;rw[hw];clear hw)
          | (go_at_call_of 271 n;refine(HI2.o _).mono ?_;rintro e w2 ⟨rfl,hw⟩;rw[hw];clear hw))
         go_ret;exact⟨iB (by rw[HF.o];simp),HB.o⟩
     | false =>
       go_enter func238,ntmps238;go_wp2_with (go_at_call 271;refine(HI1.o _).mono ?_;rintro e w2 ⟨rfl,hw⟩;rw[hw];clear hw)
       go_ret;exact⟨iB (by rw[HF.o];simp),HB.o⟩
   . have HF':Hid (f=false):=by unfold Hid;have:=HF.o;rw[aJ h2] at this;simpa using this
     go_enter func238,ntmps238;go_wp2;go_ret;exact⟨iB HF'.o.symm,HB.o⟩
 . have HF':Hid (f=false):=by unfold Hid;have:=HF.o;rw[aJ h1] at this;simpa using this
   go_enter func238,ntmps238;go_wp2;go_ret;exact⟨iB HF'.o.symm,HB.o⟩
def rH (x:Jn.E):av×Nat:=if Jn.fits x=true then (Jn.enc x,0) else ([],1)
def pre (x:Jn.E):Nat->av
 | 0=>[]
 | 1=>Jn.nb x.kind
 | 2=>Jn.nb x.kind++Jn.nb x.id
 | _=>Jn.head x
def qz (w:World)(x:Jn.E)(e:Ending)(w':World):Prop:=∃ao cap,e=.returned (.tuple #[.slice ao (rH x).1.length cap,.int .i64 ((rH x).2:Int)])∧iF w' w.heap.size 5 ao cap (rH x).1∧aj w w'
theorem Es {w W:World}{a b c d:Value}{t B:Nat}(hB:w.heap.size<B)(h:Below B (w.alloc (.cells #[a,b,c,d] t)) W):W.cell? ⟨w.heap.size,0,none⟩=some a∧W.cell? ⟨w.heap.size,1,none⟩=some b∧W.cell? ⟨w.heap.size,2,none⟩=some c∧W.cell? ⟨w.heap.size,3,none⟩=some d:=by
 refine⟨?_,?_,?_,?_⟩
 . rw[h.cell (p:=⟨w.heap.size,0,none⟩) hB];exact World.cell?_alloc_mark w _ _ _ 0
 . rw[h.cell (p:=⟨w.heap.size,1,none⟩) hB];exact World.cell?_alloc_mark w _ _ _ 1
 . rw[h.cell (p:=⟨w.heap.size,2,none⟩) hB];exact World.cell?_alloc_mark w _ _ _ 2
 . rw[h.cell (p:=⟨w.heap.size,3,none⟩) hB];exact World.cell?_alloc_mark w _ _ _ 3
theorem Ol (W:World)(a b c:Value):
 (Instr.index 274 (.agg #[a,b,c]) (.int .i64 0)).run prog W=.ok a W ∧
 (Instr.index 274 (.agg #[a,b,c]) (.int .i64 1)).run prog W=.ok b W ∧
 (Instr.index 274 (.agg #[a,b,c]) (.int .i64 2)).run prog W=.ok c W:=by
 refine⟨by kernel_rfl,by kernel_rfl,by kernel_rfl⟩
theorem uI (x:Jn.E)(ta:ak)(tn tc:Nat)(w:World)(hT:iH w ta tc x.text)(hn:x.text.length=tn):
 Calls prog 205 #[.agg #[.int .i64 x.kind,.int .i64 x.id,.int .i64 x.n,.slice ta tn tc]] w fun e w'=>qz w x e w':=by
 have hb1:aj w (w.alloc (.cells #[.int .i64 x.kind,.int .i64 x.id,.int .i64 x.n,.slice ta tn tc] 217)):=(fJ _ w).alloc (aM _) _;have HF:=H9 (RB x ta tn tc hn (w.alloc (.cells #[.int .i64 x.kind,.int .i64 x.id,.int .i64 x.n,.slice ta tn tc] 217)));have hsz:(w.alloc (.cells #[.int .i64 x.kind,.int .i64 x.id,.int .i64 x.n,.slice ta tn tc] 217)).heap.size=w.heap.size+1:=by simp
 have HC:Hid (∀W,Below (w.heap.size+1) (w.alloc (.cells #[.int .i64 x.kind,.int .i64 x.id,.int .i64 x.n,.slice ta tn tc] 217)) W->W.cell? ⟨w.heap.size,0,none⟩=some (.int .i64 x.kind)∧W.cell? ⟨w.heap.size,1,none⟩=some (.int .i64 x.id)∧W.cell? ⟨w.heap.size,2,none⟩=some (.int .i64 x.n)∧W.cell? ⟨w.heap.size,3,none⟩=some (.slice ta tn tc)):=fun W h=>Es (by omega) h;rw[hsz] at HF;have HT:Hid (∀W,Below (w.heap.size+1) (w.alloc (.cells #[.int .i64 x.kind,.int .i64 x.id,.int .i64 x.n,.slice ta tn tc] 217)) W->iH W ta tc x.text):=fun W h=>hT.stay (hb1.trans (h.mono (by omega)));have HB0:Hid (∀W,Below (w.heap.size+1) (w.alloc (.cells #[.int .i64 x.kind,.int .i64 x.id,.int .i64 x.n,.slice ta tn tc] 217)) W->aj w W):=fun W h=>hb1.trans (h.mono (by omega));obtain⟨i0,hi0,hz0,hz1,hz2⟩:=info_parts jO;have Hi:=H9 hi0;have kH:=H9 hz0;have kE:=H9 hz1;have kI:=H9 hz2
 clear hT hi0 hz0 hz1 hz2 hb1;have Ce:=H9 hsz;clear hsz;cases hf:Jn.fits x with
 | false =>
   rw[hf] at HF;have HE:Hid (rH x=([],1)):=by unfold Hid rH;rw[if_neg (by simp[hf])]
   clear hf;go_enter func205,ntmps205;go_wp2_with (go_at_call 238;refine HF.o.mono ?_;rintro e w2 ⟨rfl,hb2⟩;have HB2:=H9 hb2;clear hb2)
   go_ret2;exact⟨none,0,by rw[HE.o];rfl,by rw[HE.o];exact iF.nil _ _ _,HB0.o _ HB2.o⟩
 | true =>
   rw[hf] at HF;have HE:Hid (rH x=(Jn.enc x,0)):=by unfold Hid rH;rw[if_pos hf]
   obtain⟨k1,k2,k3,k4⟩:=(Jn.CX x).1 hf;have hhl:=Jn.JW hf;have hil:=Jn.wL hf;rw[hn] at k4;have hin:(Jn.inn x).length=(Jn.head x).length+tn:=by rw[Jn.inn,aW,hn]
   have ahM:Hid (Jn.enc x=Jn.num ((Jn.head x).length+tn+1)++Jn.head x++x.text):=by
    unfold Hid Jn.enc;rw[hin,Jn.inn,dU]
   have HTn:=H9 hn;clear hf hn hin;go_enter func205,ntmps205;go_upto_region 3 with (go_at_call 238;refine HF.o.mono ?_;rintro e w2 ⟨rfl,hb2⟩;have HB2:=H9 hb2;clear hb2)
   have HB1:=H9 (HB2.o);obtain⟨c0,c1,c2,c3⟩:=HC.o _ HB2.o;generalize w.alloc (.cells #[.int .i64 x.kind,.int .i64 x.id,.int .i64 x.n,.slice ta tn tc] 217)=w1 at *;go_wp2;have HPl:Hid (∀i,(pre x i).length<=15):=fun i=>by
    have e:(Jn.head x).length=(Jn.nb x.kind).length+(Jn.nb x.id).length+(Jn.nb x.n).length:=by simp[Jn.head,bL]
    match i with
    | 0=>simp[pre]
    | 1=>simp only[pre];omega
    | 2=>simp only[pre,aW];omega
    | (n+3)=>exact hhl
   go_loopw [4,18] (fun vo vi wr=>∃(i m:Nat) (ao:ak) (ca:Nat),i<=3∧vi=.int .i64 i∧vo=.slice ao m ca∧iF wr (w.heap.size+1) 5 ao ca (pre x i)∧(pre x i).length=m∧Below (w.heap.size+1) w1 wr) (fun _ vi _=>3-(intOf vi).toNat)
   case atStart=>exact⟨0,0,none,0,by omega,rfl,rfl,iF.nil _ _ _,rfl,HB1.o⟩
   case round =>
    obtain⟨i,m,ao,ca,hi,rfl,rfl,hO,hL,hB⟩:=hrel;have HO:=H9 hO;have HB:=H9 hB;have HL:=H9 hL
    have hm:m<=15:=by have:=HPl.o i;omega
    clear hO hB hL;rcases(show i=0∨i=1∨i=2∨i=3 by omega) with rfl | rfl | rfl | rfl
    . have HN:Hid (∀W ao ca m,iF W (w.heap.size+1) 5 ao ca (pre x 0)->(pre x 0).length=m->m<=15->Below (w.heap.size+1) w1 W->Calls prog 239 #[.slice ao m ca,.int .i64 x.kind] W fun e w'=>∃gW cap',e=.returned (.slice gW (m+(Jn.num (x.kind+1).toNat).length) cap')∧iF w' (w.heap.size+1) 5 gW cap' (pre x 0++Jn.num (x.kind+1).toNat)∧Below (w.heap.size+1) W w'):=fun W ao ca m h1 h2 h3 h4=>mR (x.kind+1).toNat (by omega) (w.heap.size+1) ao ca m _ W h1 h2 (by omega) (by have:=h4.size;have:=Ce.o;omega) x.kind (by omega);have hx:=(Ol wr (.int .i64 x.kind) (.int .i64 x.id) (.int .i64 x.n)).1;have HP:Hid (pre x 1=pre x 0++Jn.num (x.kind+1).toNat):=rfl;go_wp2_with (go_at_call 239;refine(HN.o _ _ _ _ HO.o HL.o hm HB.o).mono ?_;rintro e w3 ⟨jQ,ca3,rfl,hO3,hb3⟩;have og:=H9 hO3;have HB3:=H9 hb3;clear hO3 hb3)
      go_roundw
      case rel=>exact⟨1,_,jQ,ca3,by omega,rfl,rfl,by rw[HP.o];exact og.o,by rw[HP.o,aW,HL.o],HB.o.trans HB3.o⟩
      case measure=>first | (simp[intOf];done) | (simp[intOf];omega)
    . have HN:Hid (∀W ao ca m,iF W (w.heap.size+1) 5 ao ca (pre x 1)->(pre x 1).length=m->m<=15->Below (w.heap.size+1) w1 W->Calls prog 239 #[.slice ao m ca,.int .i64 x.id] W fun e w'=>∃gW cap',e=.returned (.slice gW (m+(Jn.num (x.id+1).toNat).length) cap')∧iF w' (w.heap.size+1) 5 gW cap' (pre x 1++Jn.num (x.id+1).toNat)∧Below (w.heap.size+1) W w'):=fun W ao ca m h1 h2 h3 h4=>mR (x.id+1).toNat (by omega) (w.heap.size+1) ao ca m _ W h1 h2 (by omega) (by have:=h4.size;have:=Ce.o;omega) x.id (by omega);have hx:=(Ol wr (.int .i64 x.kind) (.int .i64 x.id) (.int .i64 x.n)).2.1;have HP:Hid (pre x 2=pre x 1++Jn.num (x.id+1).toNat):=rfl;go_wp2_with (go_at_call 239;refine(HN.o _ _ _ _ HO.o HL.o hm HB.o).mono ?_;rintro e w3 ⟨jQ,ca3,rfl,hO3,hb3⟩;have og:=H9 hO3;have HB3:=H9 hb3;clear hO3 hb3)
      go_roundw
      case rel=>exact⟨2,_,jQ,ca3,by omega,rfl,rfl,by rw[HP.o];exact og.o,by rw[HP.o,aW,HL.o],HB.o.trans HB3.o⟩
      case measure=>first | (simp[intOf];done) | (simp[intOf];omega)
    . have HN:Hid (∀W ao ca m,iF W (w.heap.size+1) 5 ao ca (pre x 2)->(pre x 2).length=m->m<=15->Below (w.heap.size+1) w1 W->Calls prog 239 #[.slice ao m ca,.int .i64 x.n] W fun e w'=>∃gW cap',e=.returned (.slice gW (m+(Jn.num (x.n+1).toNat).length) cap')∧iF w' (w.heap.size+1) 5 gW cap' (pre x 2++Jn.num (x.n+1).toNat)∧Below (w.heap.size+1) W w'):=fun W ao ca m h1 h2 h3 h4=>mR (x.n+1).toNat (by omega) (w.heap.size+1) ao ca m _ W h1 h2 (by omega) (by have:=h4.size;have:=Ce.o;omega) x.n (by omega);have hx:=(Ol wr (.int .i64 x.kind) (.int .i64 x.id) (.int .i64 x.n)).2.2;have HP:Hid (pre x 3=pre x 2++Jn.num (x.n+1).toNat):=rfl;go_wp2_with (go_at_call 239;refine(HN.o _ _ _ _ HO.o HL.o hm HB.o).mono ?_;rintro e w3 ⟨jQ,ca3,rfl,hO3,hb3⟩;have og:=H9 hO3;have HB3:=H9 hb3;clear hO3 hb3)
      go_roundw
      case rel=>exact⟨3,_,jQ,ca3,by omega,rfl,rfl,by rw[HP.o];exact og.o,by rw[HP.o,aW,HL.o],HB.o.trans HB3.o⟩
      case measure=>first | (simp[intOf];done) | (simp[intOf];omega)
    . obtain⟨d0,d1,d2,d3⟩:=HC.o _ HB.o;have HPh:Hid (pre x 3=Jn.head x):=rfl;rw[HPh.o] at HO HL;have Y8:Hid (w.heap.size+1<=wr.heap.size):=by have:=HB.o.size;have:=Ce.o;unfold Hid;omega
      have HN:Hid (Calls prog 239 #[.slice none 0 0,.int .i64 ((m:Int)+tn)] wr fun e w'=>∃gW cap',e=.returned (.slice gW (Jn.num (m+tn+1)).length cap')∧iF w' wr.heap.size 5 gW cap' (Jn.num (m+tn+1))∧aj wr w'):=by
       have:=mR (m+tn+1) (by omega) wr.heap.size none 0 0 [] wr (iF.nil _ _ _) rfl (by omega) (aM _) ((m:Int)+tn) (by omega);unfold Hid;simpa using this
      have hwr:IntKind.i64.wrap ((m:Int)+tn)=(m:Int)+tn:=lW (by omega) (by omega);have hnl:(Jn.num (m+tn+1)).length<=5:=Jn.Cr 4 _ (by omega);have HE2:Hid (Jn.enc x=Jn.num (m+tn+1)++Jn.head x++x.text):=by unfold Hid;rw[ahM.o,HL.o]
      have tK:Hid (x.text.length=tn):=HTn.o;generalize Jn.num (m+tn+1)=nm at *;go_wp2_with (first
       | (go_at_call 239;refine HN.o.mono ?_;rintro e w3 ⟨jQ,ca3,rfl,hO3,hb3⟩;have og:=H9 hO3;have HB3:=H9 hb3;have HI3:=H9 (HO.o.wJ.stay hb3);clear hO3 hb3)
       | (at_builtin;refine iY rfl (.tmp 32) (.tmp 33) 31 rfl wr.heap.size 5 i0 underlying31 Hi.o kH.o kE.o kI.o (l:=nm) (l2:=Jn.head x) rfl rfl og.o rfl HL.o HI3.o (by omega) HB3.o.size ?_;intro xw Ia w4 hO4 hG4;have hb4:=HB3.o.trans (ku og.o hG4 HB3.o.size);have vL:=H9 hO4;have jK:=H9 hb4;have ahP:=H9 (HB.o.trans (hb4.mono Y8.o));obtain⟨e0,e1,e2,e3⟩:=HC.o _ (HB.o.trans (hb4.mono Y8.o));clear hO4 hG4 hb4)
       | (at_builtin;refine iY rfl (.tmp 35) (.tmp 37) 31 rfl wr.heap.size 5 i0 underlying31 Hi.o kH.o kE.o kI.o (l:=nm++Jn.head x) (l2:=x.text) rfl (by rw[aW,HL.o]) vL.o rfl tK.o (HT.o _ ahP.o) (by omega) jK.o.size ?_;intro BZ ca5 w5 Eb K5;have hb5:=jK.o.trans (ku vL.o K5 jK.o.size);have sJ:=H9 Eb;have qJ:=H9 (HB.o.trans (hb5.mono Y8.o));clear Eb K5 hb5))
      go_ret2;exact⟨BZ,ca5,by rw[HE.o,HE2.o,aW,aW,HL.o,tK.o];rfl,by rw[HE.o,HE2.o];exact sJ.o.mono (by have:=Y8.o;omega),HB0.o _ qJ.o⟩
end Go.Proofs.YtjmndjmhjleabaaGreatDoor