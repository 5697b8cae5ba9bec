namespace Go.MagM
def B:Nat:=18446744073709551616
theorem B_pos:0<B:=by unfold B;omega
theorem B_gt1:1<B:=by unfold B;omega
theorem B_eq:B=18446744073709551616:=rfl
theorem Bp(n:Nat):0<B^n:=Nat.pow_pos B_pos
def V(f:Nat→Nat):Nat→Nat|0=>0|k+1=>V f k+f k*B^k
theorem V_zero(f:Nat→Nat):V f 0=0:=rfl
theorem V_succ(f:Nat→Nat)(k:Nat):V f (k+1)=V f k+f k*B^k:=rfl
theorem V_congr{f g:Nat→Nat}:∀{n:Nat},(∀i,i<n→f i=g i)→V f n=V g n|0,_=>rfl|n+1,h=>by rw[V_succ,V_succ,V_congr (fun i hi=>h i (by omega)),h n (by omega)]
theorem V_lt{f:Nat→Nat}:∀{n:Nat},(∀i,i<n→f i<B)→V f n<B^n|0,_=>by simp[V]|n+1,h=>by have h1:=V_lt (n:=n) (fun i hi=>h i (by omega));have h2:f n+1≤B:=h n (by omega);have h3:=Nat.mul_le_mul_right (B^n) h2;rw[V_succ,Nat.pow_succ,Nat.mul_comm (B^n) B];rw[Nat.add_mul] at h3;omega
theorem V_split(f:Nat→Nat)(a:Nat):∀b:Nat,V f (a+b)=V f a+B^a*V (fun i=>f (a+i)) b
  |0=>by simp[V]|b+1=>by
    rw[←Nat.add_assoc,V_succ,V_split f a b,V_succ,Nat.pow_add,Nat.mul_add];have:f (a+b)*(B^a*B^b)=B^a*(f (a+b)*B^b):=by rw[Nat.mul_left_comm]
    omega
theorem V_above{f g:Nat→Nat}{k n:Nat}(hk:k≤n)(h:∀i,k≤i→i<n→f i=g i):V f n+V g k=V g n+V f k:=by obtain⟨d,rfl⟩:∃d,n=k+d:=⟨n-k,by omega⟩;rw[V_split f k d,V_split g k d,V_congr (f:=fun i=>f (k+i)) (g:=fun i=>g (k+i)) (fun i hi=>h (k+i) (by omega) (by omega))];omega
theorem V_le{f:Nat→Nat}{k n:Nat}(h:k≤n):V f k≤V f n:=by obtain⟨d,rfl⟩:∃d,n=k+d:=⟨n-k,by omega⟩;rw[V_split];omega
theorem V_one(f:Nat→Nat):V f 1=f 0:=by simp[V]
theorem V_none{f:Nat→Nat}:∀{n:Nat},(∀i,i<n→f i=0)→V f n=0|0,_=>rfl|n+1,h=>by rw[V_succ,V_none (fun i hi=>h i (by omega)),h n (by omega)];simp
theorem V_pos{f:Nat→Nat}{n k:Nat}(hk:k<n)(h:0<f k):0<V f n:=by have h1:=V_le (f:=f) (show k+1≤n by omega);have h2:=Nat.mul_pos h (Bp k);rw[V_succ] at h1;omega
def upd(f:Nat→Nat)(k x:Nat):Nat→Nat:=fun i=>if i=k then x else f i
theorem upd_same(f:Nat→Nat)(k x:Nat):upd f k x k=x:=by simp[upd]
theorem upd_other(f:Nat→Nat)(k x:Nat){i:Nat}(h:i≠k):upd f k x i=f i:=by simp[upd,h]
theorem V_upd_below(f:Nat→Nat)(k x:Nat){n:Nat}(h:n≤k):V (upd f k x) n=V f n:=V_congr (fun i hi=>upd_other f k x (by omega))
theorem V_upd_succ(f:Nat→Nat)(k x:Nat):V (upd f k x) (k+1)=V f k+x*B^k:=by rw[V_succ,V_upd_below f k x (Nat.le_refl k),upd_same]
def tlen(f:Nat→Nat):Nat→Nat|0=>0|k+1=>if f k=0 then tlen f k else k+1
theorem tlen_le(f:Nat→Nat):∀k,tlen f k≤k|0=>Nat.le_refl _|k+1=>by have:=tlen_le f k;unfold tlen;split<;>omega
theorem tlen_V(f:Nat→Nat):∀k,V f (tlen f k)=V f k
  |0=>rfl|k+1=>by
    unfold tlen;split;·rename_i h;rw[tlen_V f k,V_succ,h];simp
    ·rfl
def Right(f:Nat→Nat)(n:Nat):Prop:=∀k,n=k+1→f k≠0
theorem tlen_right(f:Nat→Nat):∀k,Right f (tlen f k)
  |0=>fun _ h=>by simp[tlen] at h|k+1=>by
    unfold tlen;split;·exact tlen_right f k
    · rename_i h;intro j hj;have:j=k:=by omega
      rw[this];exact h
theorem Right.ge{f:Nat→Nat}{k:Nat}(h:Right f (k+1)):B^k≤V f (k+1):=by
  have h1:1≤f k:=by have:=h k rfl;omega
  have h2:=Nat.mul_le_mul_right (B^k) h1;rw[V_succ];omega
theorem V_lt_of_len{f g:Nat→Nat}{n m:Nat}(hf:∀i,i<n→f i<B)(hg:Right g m)(h:n<m):V f n<V g m:=by obtain⟨k,rfl⟩:∃k,m=k+1:=⟨m-1,by omega⟩;have h1:=V_lt hf;have h2:B^n≤B^k:=Nat.pow_le_pow_right B_pos (by omega);have h3:=hg.ge;omega
theorem V_lt_at{f g:Nat→Nat}{n k:Nat}(hk:k<n)(hf:∀i,i<n→f i<B)(ha:∀i,k<i→i<n→f i=g i)(h:f k<g k):V f n<V g n:=by have h1:=V_above (f:=f) (g:=g) (k:=k+1) (n:=n) (by omega) (fun i a b=>ha i (by omega) b);have h2:=V_lt (f:=f) (n:=k) (fun i hi=>hf i (by omega));have h3:=Nat.mul_le_mul_right (B^k) (show f k+1≤g k from h);rw[Nat.add_mul] at h3;rw[V_succ,V_succ] at h1;omega
theorem len_le_of_lt{f:Nat→Nat}{n L:Nat}(rf:Right f n)(h:V f n<B^L):n≤L:=by cases n with|zero=>omega|succ k=>
    have h1:=rf.ge;have h2:B^k<B^L:=by omega
    have:=(Nat.pow_lt_pow_iff_right B_gt1).1 h2;omega
theorem sum_step(x y c:Nat):(x+y+c)%B+(x+y+c)/B*B=x+y+c:=by have:=Nat.mod_add_div (x+y+c) B;rw[Nat.mul_comm] at this;exact this
theorem sum_carry{x y c:Nat}(hx:x<B)(hy:y<B)(hc:c≤1):(x+y+c)/B≤1:=by unfold B at*;omega
theorem diff_step{x y b:Nat}(hx:x<B)(hy:y<B)(hb:b≤1):(x+B-y-b)%B+y+b=x+(if x<y+b then 1 else 0)*B:=by unfold B at*;split<;>omega
theorem mod_lt(x:Nat):x%B<B:=Nat.mod_lt _ B_pos
theorem add_arith{x y c s c':Nat}(a b d P:Nat)(hs:s+c'*B=x+y+c)(h:a+c*P=b+d):a+s*P+c'*(P*B)=b+x*P+(d+y*P):=by
  have h1:(s+c'*B)*P=(x+y+c)*P:=by rw[hs]
  simp only[Nat.add_mul] at h1;have h2:c'*(P*B)=c'*B*P:=by rw[Nat.mul_assoc,Nat.mul_comm B P]
  omega
theorem mac{v x over a:Nat}(hv:v<B)(hx:x<B)(ho:over<B)(ha:a<B):v*x/B+(v*x%B+over+0)/B+(a+(v*x%B+over+0)%B+0)/B<B∧(a+(v*x%B+over+0)%B+0)%B+(v*x/B+(v*x%B+over+0)/B+(a+(v*x%B+over+0)%B+0)/B)*B=a+v*x+over:=by have h1:=Nat.mul_le_mul (show v≤B-1 by omega) (show x≤B-1 by omega);generalize v*x=p at*;unfold B at*;omega
theorem mac_arith{v x over a s over':Nat}(F G H P:Nat)(hs:s+over'*B=a+v*x+over)(h:F+over*P=G+H*x):F+s*P+over'*(P*B)=G+a*P+(H+v*P)*x:=by
  have h1:(s+over'*B)*P=(a+v*x+over)*P:=by rw[hs]
  simp only[Nat.add_mul] at h1⊢;have h2:over'*(P*B)=over'*B*P:=by rw[Nat.mul_assoc,Nat.mul_comm B P]
  have h3:v*P*x=v*x*P:=by rw[Nat.mul_assoc,Nat.mul_comm P x,←Nat.mul_assoc]
  omega
theorem msc{v x over a:Nat}(hv:v<B)(hx:x<B)(ho:over<B)(ha:a<B):v*x/B+(v*x%B+over+0)/B+(if a<(v*x%B+over+0)%B+0 then 1 else 0)<B∧(a+B-(v*x%B+over+0)%B-0)%B+v*x+over=a+(v*x/B+(v*x%B+over+0)/B+(if a<(v*x%B+over+0)%B+0 then 1 else 0))*B:=by have h1:=Nat.mul_le_mul (show v≤B-1 by omega) (show x≤B-1 by omega);generalize v*x=p at*;unfold B at*;split<;>omega
theorem msc_arith{v x over a s over':Nat}(F G H P:Nat)(hs:s+v*x+over=a+over'*B)(h:F+H*x=G+over*P):F+s*P+(H+v*P)*x=G+a*P+over'*(P*B):=by
  have h1:(s+v*x+over)*P=(a+over'*B)*P:=by rw[hs]
  simp only[Nat.add_mul] at h1⊢;have h2:over'*(P*B)=over'*B*P:=by rw[Nat.mul_assoc,Nat.mul_comm B P]
  have h3:v*P*x=v*x*P:=by rw[Nat.mul_assoc,Nat.mul_comm P x,←Nat.mul_assoc]
  omega
theorem sub_arith{x y b s b':Nat}(F G H P:Nat)(hs:s+y+b=x+b'*B)(h:F+H=G+b*P):F+s*P+(H+y*P)=G+x*P+b'*(P*B):=by
  have h1:(s+y+b)*P=(x+b'*B)*P:=by rw[hs]
  simp only[Nat.add_mul] at h1⊢;have h2:b'*(P*B)=b'*B*P:=by rw[Nat.mul_assoc,Nat.mul_comm B P]
  omega
def spl(f h:Nat→Nat)(k m:Nat):Nat→Nat:=fun i=>if k≤i∧i<k+m then h (i-k) else f i
theorem spl_in(f h:Nat→Nat){k m i:Nat}(hi:i<m):spl f h k m (k+i)=h i:=by unfold spl;rw[if_pos ⟨by omega,by omega⟩];congr 1;omega
theorem spl_out(f h:Nat→Nat){k m i:Nat}(hi:i<k∨k+m≤i):spl f h k m i=f i:=by unfold spl;rw[if_neg (by omega)]
theorem spl_V(f h:Nat→Nat)(k m:Nat):V (spl f h k m) (k+m)=V f k+B^k*V h m:=by rw[V_split,V_congr (g:=f) (fun i hi=>spl_out f h (.inl hi)),V_congr (f:=fun i=>spl f h k m (k+i)) (g:=h) (fun i hi=>spl_in f h hi)]
theorem mul_arith{F O H x A P:Nat}(a D Q R:Nat)(h1:F+O*Q=R+H*x)(h2:a+P*R=A*H)(hD:D=P*Q):a+P*F+O*D=(A+x*P)*H:=by
  have h3:P*(F+O*Q)=P*(R+H*x):=by rw[h1]
  rw[Nat.mul_add,Nat.mul_add] at h3;have h4:P*(O*Q)=O*D:=by rw[hD,Nat.mul_left_comm]
  have h5:x*P*H=P*(H*x):=by rw[Nat.mul_comm x P,Nat.mul_assoc,Nat.mul_comm x H]
  rw[Nat.add_mul];omega
end Go.MagM
