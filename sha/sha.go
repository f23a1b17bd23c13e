// Package sha: digests of 32 bytes.
package sha

import "conclave/api"

// Sum of bytes.
func Sum(b []byte) ([]byte, api.Errno) {
	if len(b) > api.MaxData {
		return nil, api.ErrSize
	}
	return digest(b), api.OK
}

// Mac of bytes under a key.
func Mac(key, b []byte) ([]byte, api.Errno) {
	if len(key) > api.MaxKey || len(b) > api.MaxData {
		return nil, api.ErrSize
	}
	return mac(key, b), api.OK
}

// Draw so many bytes of a secret.
func Draw(secret, salt, info []byte, n int) ([]byte, api.Errno) {
	if len(secret) > api.MaxKey || len(salt) > api.MaxKey || len(info) > api.MaxKey {
		return nil, api.ErrSize
	}
	if n < 0 || n > api.MaxOut {
		return nil, api.ErrSize
	}
	return expand(mac(salt, secret), info, n), api.OK
}

// Same: are two lists the same? It takes as long wherever they differ.
func Same(a, b []byte) bool {
	if len(a) != len(b) {
		return false
	}
	// No early end: how long it takes would tell a forger how much of a tag is right.
	var differing byte
	for i := range a {
		differing |= a[i] ^ b[i]
	}
	return differing == 0
}
